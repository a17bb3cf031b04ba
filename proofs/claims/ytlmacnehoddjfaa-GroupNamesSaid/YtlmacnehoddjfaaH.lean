/- The group's functions at any numbers, as functions that the kernel computes: for the examples and errors. -/
import Derived.Test.YtlmacnehoddjfaaG
namespace Go.Proofs.Ytlmacnehoddjfaa
open Go.RowKit
set_option linter.unusedVariables false
def inGF (a : Nat) : Bool := decide (1 ≤ a ∧ a < GP ∧ pwF 64 1 a 500000003 = 1)
def mI (x y : Int) : Int := bif inGF x.toNat && inGF y.toNat then ((x.toNat * y.toNat % GP : Nat) : Int) else 0
def mE (x y : Int) : Int := bif inGF x.toNat && inGF y.toNat then 0 else 2
def pI (x n : Int) : Int := bif inGF x.toNat then ((pwF 64 1 x.toNat n.toNat : Nat) : Int) else 0
def pE (x : Int) : Int := bif inGF x.toNat then 0 else 2
def vI (x : Int) : Int := bif inGF x.toNat then ((pwF 64 1 x.toNat 500000002 : Nat) : Int) else 0
def bI (n : Int) : Int := ((pwF 64 1 4 n.toNat : Nat) : Int)
def sI (x y : Int) : Int := bif decide (x.toNat < 500000003) && decide (y.toNat < 500000003) then (((x.toNat + y.toNat) % 500000003 : Nat) : Int) else 0
def tI (x y : Int) : Int := bif decide (x.toNat < 500000003) && decide (y.toNat < 500000003) then ((x.toNat * y.toNat % 500000003 : Nat) : Int) else 0
def sE (x y : Int) : Int := bif decide (x.toNat < 500000003) && decide (y.toNat < 500000003) then 0 else 2
theorem mul_int (x y : Int) (hx : 0 ≤ x ∧ x < 4294967296) (hy : 0 ≤ y ∧ y < 4294967296) (w : World) : Calls Try.prog 10 #[.int .u32 x, .int .u32 y] w fun e w' => e = .returned (.tuple #[.int .u32 (mI x y), .int .i64 (mE x y)]) ∧ Grown w w' := by
  obtain ⟨a, rfl⟩ := Int.eq_ofNat_of_zero_le hx.1
  obtain ⟨b, rfl⟩ := Int.eq_ofNat_of_zero_le hy.1
  unfold mI mE
  simp only [Int.toNat_natCast]
  cases h : inGF a && inGF b
  · exact mul_bad a b (by omega) (by omega) (by rw [inG_eq, inG_eq]; exact h) w
  · rw [Bool.and_eq_true] at h
    exact mul_ok a b (by rw [inG_eq]; exact h.1) (by rw [inG_eq]; exact h.2) w
theorem pow_int (x n : Int) (hx : 0 ≤ x ∧ x < 4294967296) (hn : 0 ≤ n ∧ n < 18446744073709551616) (w : World) : Calls Try.prog 11 #[.int .u32 x, .int .u64 n] w fun e w' => e = .returned (.tuple #[.int .u32 (pI x n), .int .i64 (pE x)]) ∧ Grown w w' := by
  obtain ⟨a, rfl⟩ := Int.eq_ofNat_of_zero_le hx.1
  obtain ⟨k, rfl⟩ := Int.eq_ofNat_of_zero_le hn.1
  have hk : k < 18446744073709551616 := by omega
  unfold pI pE
  simp only [Int.toNat_natCast]
  cases h : inGF a
  · exact pow_bad a k (by omega) (by rw [inG_eq]; exact h) w
  · rw [← pw_eq a k hk]; exact pow_ok a k (by rw [inG_eq]; exact h) hk w
theorem inv_int (x : Int) (hx : 0 ≤ x ∧ x < 4294967296) (w : World) : Calls Try.prog 12 #[.int .u32 x] w fun e w' => e = .returned (.tuple #[.int .u32 (vI x), .int .i64 (pE x)]) ∧ Grown w w' := by
  obtain ⟨a, rfl⟩ := Int.eq_ofNat_of_zero_le hx.1
  unfold vI pE
  simp only [Int.toNat_natCast]
  cases h : inGF a
  · exact inv_bad a (by omega) (by rw [inG_eq]; exact h) w
  · rw [← pw_eq a 500000002 (by decide)]; exact inv_ok a (by rw [inG_eq]; exact h) w
theorem base_int (n : Int) (hn : 0 ≤ n ∧ n < 18446744073709551616) (w : World) : Calls Try.prog 16 #[.int .u64 n] w fun e w' => e = .returned (.int .u32 (bI n)) ∧ Grown w w' := by
  obtain ⟨k, rfl⟩ := Int.eq_ofNat_of_zero_le hn.1
  have hk : k < 18446744073709551616 := by omega
  unfold bI
  simp only [Int.toNat_natCast]
  rw [← pw_eq 4 k hk]; exact base_any k hk w
theorem plus_int (x y : Int) (hx : 0 ≤ x ∧ x < 4294967296) (hy : 0 ≤ y ∧ y < 4294967296) (w : World) : Calls Try.prog 13 #[.int .u32 x, .int .u32 y] w fun e w' => e = .returned (.tuple #[.int .u32 (sI x y), .int .i64 (sE x y)]) ∧ Grown w w' := by
  obtain ⟨a, rfl⟩ := Int.eq_ofNat_of_zero_le hx.1
  obtain ⟨b, rfl⟩ := Int.eq_ofNat_of_zero_le hy.1
  unfold sI sE
  simp only [Int.toNat_natCast]
  cases h : decide (a < 500000003) && decide (b < 500000003)
  · exact plus_bad a b (by omega) (by omega) (fun hh => by simp [hh.1, hh.2] at h) w
  · simp only [Bool.and_eq_true, decide_eq_true_eq] at h
    exact plus_ok a b h.1 h.2 w
theorem times_int (x y : Int) (hx : 0 ≤ x ∧ x < 4294967296) (hy : 0 ≤ y ∧ y < 4294967296) (w : World) : Calls Try.prog 14 #[.int .u32 x, .int .u32 y] w fun e w' => e = .returned (.tuple #[.int .u32 (tI x y), .int .i64 (sE x y)]) ∧ Grown w w' := by
  obtain ⟨a, rfl⟩ := Int.eq_ofNat_of_zero_le hx.1
  obtain ⟨b, rfl⟩ := Int.eq_ofNat_of_zero_le hy.1
  unfold tI sE
  simp only [Int.toNat_natCast]
  cases h : decide (a < 500000003) && decide (b < 500000003)
  · exact times_bad a b (by omega) (by omega) (fun hh => by simp [hh.1, hh.2] at h) w
  · simp only [Bool.and_eq_true, decide_eq_true_eq] at h
    exact times_ok a b h.1 h.2 w
theorem isf_int (x : Int) (hx : 0 ≤ x ∧ x < 4294967296) (w : World) : Calls Try.prog 15 #[.int .u32 x] w fun e w' => e = .returned (.bool (inGF x.toNat)) ∧ Grown w w' := by
  obtain ⟨a, rfl⟩ := Int.eq_ofNat_of_zero_le hx.1
  have h := is_any a (by omega) w
  rw [inG_eq] at h
  exact h
structure Names where
  M : Int → Int → Int
  ME : Int → Int → Int
  P : Int → Int → Int
  E : Int → Int
  V : Int → Int
  B : Int → Int
  S : Int → Int → Int
  T : Int → Int → Int
  SE : Int → Int → Int
  f : Int → Bool
  I : Int → Prop
  U : Int → Prop
  i : ∀ x : Int, 0 ≤ x ∧ x < 4294967296 → I x
  u : ∀ x : Int, 0 ≤ x ∧ x < 18446744073709551616 → U x
  mul : ∀ x y, I x → I y → ∀ w, Calls Try.prog 10 #[.int .u32 x, .int .u32 y] w fun e w' => e = .returned (.tuple #[.int .u32 (M x y), .int .i64 (ME x y)]) ∧ Grown w w'
  pow : ∀ x n, I x → U n → ∀ w, Calls Try.prog 11 #[.int .u32 x, .int .u64 n] w fun e w' => e = .returned (.tuple #[.int .u32 (P x n), .int .i64 (E x)]) ∧ Grown w w'
  inv : ∀ x, I x → ∀ w, Calls Try.prog 12 #[.int .u32 x] w fun e w' => e = .returned (.tuple #[.int .u32 (V x), .int .i64 (E x)]) ∧ Grown w w'
  base : ∀ n, U n → ∀ w, Calls Try.prog 16 #[.int .u64 n] w fun e w' => e = .returned (.int .u32 (B n)) ∧ Grown w w'
  plus : ∀ x y, I x → I y → ∀ w, Calls Try.prog 13 #[.int .u32 x, .int .u32 y] w fun e w' => e = .returned (.tuple #[.int .u32 (S x y), .int .i64 (SE x y)]) ∧ Grown w w'
  times : ∀ x y, I x → I y → ∀ w, Calls Try.prog 14 #[.int .u32 x, .int .u32 y] w fun e w' => e = .returned (.tuple #[.int .u32 (T x y), .int .i64 (SE x y)]) ∧ Grown w w'
  isf : ∀ x, I x → ∀ w, Calls Try.prog 15 #[.int .u32 x] w fun e w' => e = .returned (.bool (f x)) ∧ Grown w w'
  k1 : ME 0 1 = 2
  k2 : ME 1 1000000008 = 2
  k3 : ME 4 5 = 2
  k4 : E 5 = 2
  k5 : E 0 = 2
  k6 : E 1000000007 = 2
  k7 : E 4 = 0
  k8 : P 4 0 = 1
  k9 : P 4 500000003 = 1
  k10 : P 4 500000004 = 4
  k11 : SE 500000003 0 = 2
  k12 : SE 0 4294967295 = 2
  k13 : SE 500000003 1 = 2
  k14 : SE 500000002 500000002 = 0
  k15 : T 500000002 500000002 = 1
  k16 : S 500000002 500000002 = 500000001
  k17 : f 1 = true
  k18 : f 0 = false
  k19 : f 1000000007 = false
  k20 : f 1000000008 = false
  k21 : f 4294967295 = false
  k22 : B 0 = 1
  k23 : B 500000003 = 1
  k24 : B 2 = 16
theorem names : Nonempty Names := ⟨{
  M := mI, ME := mE, P := pI, E := pE, V := vI, B := bI, S := sI, T := tI, SE := sE, f := fun x => inGF x.toNat
  I := fun x => 0 ≤ x ∧ x < 4294967296, U := fun x => 0 ≤ x ∧ x < 18446744073709551616
  i := fun _ h => h, u := fun _ h => h
  mul := mul_int, pow := pow_int, inv := inv_int, base := base_int, plus := plus_int, times := times_int, isf := isf_int
  k1 := by decide +kernel
  k2 := by decide +kernel
  k3 := by decide +kernel
  k4 := by decide +kernel
  k5 := by decide +kernel
  k6 := by decide +kernel
  k7 := by decide +kernel
  k8 := by decide +kernel
  k9 := by decide +kernel
  k10 := by decide +kernel
  k11 := by decide +kernel
  k12 := by decide +kernel
  k13 := by decide +kernel
  k14 := by decide +kernel
  k15 := by decide +kernel
  k16 := by decide +kernel
  k17 := by decide +kernel
  k18 := by decide +kernel
  k19 := by decide +kernel
  k20 := by decide +kernel
  k21 := by decide +kernel
  k22 := by decide +kernel
  k23 := by decide +kernel
  k24 := by decide +kernel }⟩
end Go.Proofs.Ytlmacnehoddjfaa

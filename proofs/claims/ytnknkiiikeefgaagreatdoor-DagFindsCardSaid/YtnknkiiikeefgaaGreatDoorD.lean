/- Contracts of package group and of its reference: exponents. Plus and Times, of the package and of the reference. Contracts of power, of both packages. Contracts of Is, Mul, Pow, Inv, Base, of both packages. -/
import Derived.Test.YtnknkiiikeefgaaGreatDoorRows
import Derived.WalkKit
import Derived.ProofKit
import Derived.OpenShut
import Derived.Lib.Hide
import Derived.Laws.Bits64
import Derived.Test.YtnknkiiikeefgaaGreatDoorM02
import Derived.Test.YtnknkiiikeefgaaGreatDoorShelf
import Derived.StillTailTactics
namespace Go.Proofs.YtnknkiiikeefgaaGreatDoor.grp
open Go.RowKit
set_option linter.unusedVariables false
/-- Nothing that was there has changed (in place of the kit's word of that name, which speaks of cells alone). -/
def Grown (w w' : World) : Prop := Below w.heap.size w w'
theorem Grown.refl (w : World) : Grown w w := Below.refl _ _
theorem Grown.alloc {W w' : World} (h : Grown W w') (c : Array Value) (t : TypeId) : Grown W (w'.alloc (.cells c t)) := Below.alloc h (Below.size h) _
theorem Grown.trans' {a b c : World} (h : Grown a b) (g : Grown b c) : Grown a c := Below.trans h (Below.mono g (Below.size h))
theorem Grown.cell' {w w' : World} (h : Grown w w') {b o : Nat} (hb : b < w.heap.size) : w'.cell? ⟨b, o, none⟩ = w.cell? ⟨b, o, none⟩ := Below.cell (p := (⟨b, o, none⟩ : Addr)) h hb
theorem ret_dec {p q : Prop} [Decidable p] [Decidable q] (h : p ↔ q) : Ending.returned (.bool (decide p)) = .returned (.bool (decide q)) := by rw [decide_eq_decide.2 h]
theorem isExponent_any (a : Nat) (w : World) : Calls Tryz.prog 162 #[.int .u32 (a : Int)] w fun e w' => e = .returned (.bool (decide (a < 500000003))) ∧ w' = w := by
  go_enter Tryz.func162, Tryz.ntmps162
  go_wp2
  go_ret
  exact ⟨ret_dec (by omega), rfl⟩
theorem products_any (m : Int) (w : World) : Calls Tryz.prog 163 #[.int .u64 m] w fun e w' => e = .returned (.func (.func 192) #[] #[.pointer (some ⟨w.heap.size, 0, none⟩)]) ∧ w' = w.alloc (.cells #[.int .u64 m] 27) := by
  have hmf : ∀ (fn : Fn) (first cap : Array Value) (w : World), (Instr.makeFunc fn first cap).run Tryz.prog w = .ok (.func fn first cap) w := fun _ _ _ _ => rfl
  go_enter Tryz.func163, Tryz.ntmps163
  go_wp2
  go_ret
  exact ⟨rfl, rfl⟩
theorem every_exp (a b : Nat) (blk : Nat) (w : World)
    (h0 : w.cell? ⟨blk, 0, none⟩ = some (.int .u32 (a : Int))) (h1 : w.cell? ⟨blk, 1, none⟩ = some (.int .u32 (b : Int))) :
    Calls Tryz.prog 161 #[.func (.func 162) #[] #[], .slice (some ⟨blk, 0, none⟩) 2 2] w fun e w' => e = .returned (.bool (decide (a < 500000003) && decide (b < 500000003))) ∧ w' = w := by
  have hF0 := fun v => isExponent_any a v
  have hF1 := fun v => isExponent_any b v
  generalize decide (a < 500000003) = x at hF0 ⊢
  generalize decide (b < 500000003) = y at hF1 ⊢
  have hF := Lib.hid hF0; have hG := Lib.hid hF1
  clear hF0 hF1
  go_enter Tryz.func161, Tryz.ntmps161
  go_wp2
  go_loop [4, 9] (fun r i => r = .bool false ∧ (i = .int .i64 0 ∨ (i = .int .i64 1 ∧ x = true) ∨ (i = .int .i64 2 ∧ x = true ∧ y = true))) (fun _ i => match i with | .int _ n => 2 - n.toNat | _ => 0)
  case atStart => exact ⟨rfl, Or.inl rfl⟩
  case round =>
    obtain ⟨rfl, h | ⟨h, hx⟩ | ⟨h, hx, hy⟩⟩ := hrel
    · subst h
      cases x
      · go_wp2_with (go_at_call 162; refine (hF.out _).mono ?_; rintro e w' ⟨rfl, rfl⟩)
        go_ret
        exact ⟨rfl, rfl⟩
      · go_wp2_with (go_at_call 162; refine (hF.out _).mono ?_; rintro e w' ⟨rfl, rfl⟩)
        exact ⟨⟨rfl, Or.inr (Or.inl ⟨rfl, trivial⟩)⟩, by decide⟩
    · subst h; subst hx
      cases y
      · go_wp2_with (go_at_call 162; refine (hG.out _).mono ?_; rintro e w' ⟨rfl, rfl⟩)
        go_ret
        exact ⟨rfl, rfl⟩
      · go_wp2_with (go_at_call 162; refine (hG.out _).mono ?_; rintro e w' ⟨rfl, rfl⟩)
        exact ⟨⟨rfl, Or.inr (Or.inr ⟨rfl, trivial, trivial⟩)⟩, by decide⟩
    · subst h; subst hx; subst hy
      go_wp2
      go_ret
      exact ⟨rfl, rfl⟩
theorem times_any (m a b : Nat) (blk : Nat) (mi : Int) (hmi : mi = (m : Int)) (w : World) (hm : w.cell? ⟨blk, 0, none⟩ = some (.int .u64 mi)) (ha : a < 4294967296) (hb : b < 4294967296) (h0 : 0 < m) (hm' : m < 4294967296) :
    Calls Tryz.prog 192 #[.int .u32 (a : Int), .int .u32 (b : Int), .pointer (some ⟨blk, 0, none⟩)] w fun e w' => e = .returned (.int .u32 ((a * b % m : Nat) : Int)) ∧ w' = w := by
  subst hmi
  go_enter Tryz.func192, Tryz.ntmps192
  go_wp2
  go_ret
  have hab : a * b < 18446744073709551616 := Nat.lt_of_lt_of_le (Nat.mul_lt_mul'' ha hb) (by decide)
  have hlt : a * b % m < 4294967296 := Nat.lt_trans (Nat.mod_lt _ h0) hm'
  have e1 : IntKind.u64.wrap ((a : Int) * (b : Int)) = ((a * b : Nat) : Int) := by rw [← Int.natCast_mul, IntKind.wrap_u64]; omega
  refine ⟨?_, rfl⟩
  show Ending.returned (Value.int .u32 ((IntKind.u64.wrap ((a : Int) * (b : Int))).tmod (m : Int) % 4294967296)) = _
  rw [e1, Int.tmod_eq_emod_of_nonneg (Int.natCast_nonneg _), ← Int.natCast_emod]
  congr 2
  omega
end Go.Proofs.YtnknkiiikeefgaaGreatDoor.grp
namespace Go.Proofs.YtnknkiiikeefgaaGreatDoor.grp
open Go.RowKit
set_option linter.unusedVariables false
theorem exponent_any (a : Nat) (ha : a < 4294967296) (w : World) : Calls Tryz.prog 146 #[.int .u32 (a : Int)] w fun e w' => e = .returned (.bool (decide (a < 500000003))) ∧ w' = w := by
  go_enter Tryz.func146, Tryz.ntmps146
  go_wp2
  go_ret
  exact ⟨ret_dec (by omega), rfl⟩
theorem two_cells (w : World) (x y : Value) (t : TypeId) : (w.alloc (.cells #[x, y] t)).cell? ⟨w.heap.size, 0, none⟩ = some x ∧ (w.alloc (.cells #[x, y] t)).cell? ⟨w.heap.size, 1, none⟩ = some y := ⟨by simp, by simp⟩
theorem plus_ok (a b : Nat) (h1 : a < 500000003) (h2 : b < 500000003) (w : World) : Calls Tryz.prog 124 #[.int .u32 (a : Int), .int .u32 (b : Int)] w fun e w' => e = .returned (.tuple #[.int .u32 (((a + b) % 500000003 : Nat) : Int), .int .i64 0]) ∧ Grown w w' := by
  have hE0 := every_exp a b w.heap.size (w.alloc (.cells #[.int .u32 (a : Int), .int .u32 (b : Int)] 25)) (by simp) (by simp)
  rw [show (decide (a < 500000003) && decide (b < 500000003)) = true from by simp [h1, h2]] at hE0
  have hE := Lib.hid hE0
  clear hE0
  go_enter Tryz.func124, Tryz.ntmps124
  go_wp2_with (go_at_call 161; refine (hE.out).mono ?_; rintro e w' ⟨rfl, rfl⟩)
  go_ret2
  exact ⟨rfl, (Grown.refl _).alloc _ _⟩
theorem plus_bad (a b : Nat) (ha : a < 4294967296) (hb : b < 4294967296) (h : ¬ (a < 500000003 ∧ b < 500000003)) (w : World) : Calls Tryz.prog 124 #[.int .u32 (a : Int), .int .u32 (b : Int)] w fun e w' => e = .returned (.tuple #[.int .u32 0, .int .i64 2]) ∧ Grown w w' := by
  have hE0 := every_exp a b w.heap.size (w.alloc (.cells #[.int .u32 (a : Int), .int .u32 (b : Int)] 25)) (by simp) (by simp)
  rw [show (decide (a < 500000003) && decide (b < 500000003)) = false from by simpa using fun h1 => Nat.le_of_not_lt fun h2 => h ⟨h1, h2⟩] at hE0
  have hE := Lib.hid hE0
  clear hE0
  go_enter Tryz.func124, Tryz.ntmps124
  go_wp2_with (go_at_call 161; refine (hE.out).mono ?_; rintro e w' ⟨rfl, rfl⟩)
  go_ret2
  exact ⟨rfl, (Grown.refl _).alloc _ _⟩
theorem times_ok (a b : Nat) (h1 : a < 500000003) (h2 : b < 500000003) (w : World) : Calls Tryz.prog 123 #[.int .u32 (a : Int), .int .u32 (b : Int)] w fun e w' => e = .returned (.tuple #[.int .u32 ((a * b % 500000003 : Nat) : Int), .int .i64 0]) ∧ Grown w w' := by
  have hE0 := every_exp a b w.heap.size (w.alloc (.cells #[.int .u32 (a : Int), .int .u32 (b : Int)] 25)) (by simp) (by simp)
  rw [show (decide (a < 500000003) && decide (b < 500000003)) = true from by simp [h1, h2]] at hE0
  have hE := Lib.hid hE0
  clear hE0
  have hT := Lib.hid (times_any 500000003 a b (w.heap.size + 1) 500000003 rfl ((w.alloc (.cells #[.int .u32 (a : Int), .int .u32 (b : Int)] 25)).alloc (.cells #[.int .u64 500000003] 27)) (by simp) (by omega) (by omega) (by omega) (by omega))
  go_enter Tryz.func123, Tryz.ntmps123
  go_wp2_with (first | (go_at_call 161; refine (hE.out).mono ?_; rintro e w' ⟨rfl, rfl⟩) | (go_at_call 163; refine (products_any _ _).mono ?_; rintro e w' ⟨rfl, rfl⟩) | (go_at_call 192; refine (hT.out).mono ?_; rintro e w' ⟨rfl, rfl⟩))
  go_ret2
  exact ⟨rfl, ((Grown.refl _).alloc _ _).alloc _ _⟩
theorem times_bad (a b : Nat) (ha : a < 4294967296) (hb : b < 4294967296) (h : ¬ (a < 500000003 ∧ b < 500000003)) (w : World) : Calls Tryz.prog 123 #[.int .u32 (a : Int), .int .u32 (b : Int)] w fun e w' => e = .returned (.tuple #[.int .u32 0, .int .i64 2]) ∧ Grown w w' := by
  have hE0 := every_exp a b w.heap.size (w.alloc (.cells #[.int .u32 (a : Int), .int .u32 (b : Int)] 25)) (by simp) (by simp)
  rw [show (decide (a < 500000003) && decide (b < 500000003)) = false from by simpa using fun h1 => Nat.le_of_not_lt fun h2 => h ⟨h1, h2⟩] at hE0
  have hE := Lib.hid hE0
  clear hE0
  go_enter Tryz.func123, Tryz.ntmps123
  go_wp2_with (go_at_call 161; refine (hE.out).mono ?_; rintro e w' ⟨rfl, rfl⟩)
  go_ret2
  exact ⟨rfl, (Grown.refl _).alloc _ _⟩
theorem nat_of_u32 (a : Int) (h : (Lit.int .u32 a).wf = true) : ∃ n : Nat, a = (n : Int) ∧ n < 4294967296 := by
  have h' : 0 ≤ a ∧ a ≤ 4294967295 := by simpa [Lit.wf, IntKind.has, IntKind.min, IntKind.max, IntKind.signed, IntKind.bits] using h
  exact ⟨a.toNat, by omega, by omega⟩
theorem nat_of_u64 (a : Int) (h : (Lit.int .u64 a).wf = true) : ∃ n : Nat, a = (n : Int) ∧ n < 18446744073709551616 := by
  have h' : 0 ≤ a ∧ a ≤ 18446744073709551615 := by simpa [Lit.wf, IntKind.has, IntKind.min, IntKind.max, IntKind.signed, IntKind.bits] using h
  exact ⟨a.toNat, by omega, by omega⟩
end Go.Proofs.YtnknkiiikeefgaaGreatDoor.grp
namespace Go.Proofs.YtnknkiiikeefgaaGreatDoor.grp
open Go.RowKit
set_option linter.unusedVariables false
theorem bitLenAux_lt : ∀ f x : Nat, x < 2 ^ f → x < 2 ^ Lib.bitLenAux f x
  | 0, x, h => by simpa [Lib.bitLenAux] using h
  | f + 1, x, h => by
    unfold Lib.bitLenAux
    split
    · omega
    · have := bitLenAux_lt f (x / 2) (by rw [Nat.pow_succ] at h; omega)
      rw [Nat.pow_add, Nat.pow_one]; omega
theorem bitLen_lt (x : Nat) (h : x < 18446744073709551616) : x < 2 ^ Lib.bitLen x := bitLenAux_lt 64 x h
theorem times_GP (a b : Nat) (blk : Nat) (w : World) (hm : w.cell? ⟨blk, 0, none⟩ = some (.int .u64 1000000007)) (ha : a < GP) (hb : b < GP) :
    Calls Tryz.prog 192 #[.int .u32 (a : Int), .int .u32 (b : Int), .pointer (some ⟨blk, 0, none⟩)] w fun e w' => e = .returned (.int .u32 ((a * b % GP : Nat) : Int)) ∧ w' = w :=
  times_any GP a b blk 1000000007 rfl w hm (by unfold GP at ha; omega) (by unfold GP at hb; omega) GP_pos (by decide)
theorem len_any (n : Nat) (hn : n < 18446744073709551616) (w : World) : Calls Tryz.prog 154 #[.int .u64 (n : Int)] w fun e w' => e = .returned (.int .i64 (Lib.bitLen n)) ∧ w' = w :=
  Tryz.bits_Len64 n w (by omega) (by omega)
theorem bit_step (a n k : Nat) : pw a (n % 2 ^ (k + 1)) = if n / 2 ^ k % 2 = 1 then pw a (n % 2 ^ k) * pw a (2 ^ k) % GP else pw a (n % 2 ^ k) := by
  have h : n % 2 ^ (k + 1) = n % 2 ^ k + 2 ^ k * (n / 2 ^ k % 2) := by rw [Nat.pow_succ, Nat.mod_mul]
  rw [h]
  split
  · rename_i h1
    rw [h1, Nat.mul_one, pw_add]
  · rename_i h1
    rw [show n / 2 ^ k % 2 = 0 by omega, Nat.mul_zero, Nat.add_zero]
theorem sq_step (a k : Nat) : pw a (2 ^ k) * pw a (2 ^ k) % GP = pw a (2 ^ (k + 1)) := by rw [Nat.pow_succ, Nat.mul_comm _ 2, pw_dbl]
theorem bit_one (n k : Nat) (hn : n < 18446744073709551616) : bits .and .u64 ((n : Int) / 2 ^ k) 1 = ((n / 2 ^ k % 2 : Nat) : Int) := by
  have h1 : ((n : Int) / 2 ^ k) = ((n / 2 ^ k : Nat) : Int) := by rw [Int.natCast_ediv, Int.natCast_pow]; rfl
  have h2 : n / 2 ^ k < 2 ^ 64 := Nat.lt_of_le_of_lt (Nat.div_le_self _ _) hn
  have h3 : (BitVec.ofInt 64 ((n / 2 ^ k : Nat) : Int)).toNat = n / 2 ^ k := by
    rw [BitVec.ofInt_natCast, BitVec.toNat_ofNat]; exact Nat.mod_eq_of_lt h2
  rw [h1]
  show IntKind.u64.wrap ((BitVec.ofInt 64 ((n / 2 ^ k : Nat) : Int) &&& BitVec.ofInt 64 1).toNat : Int) = _
  rw [BitVec.toNat_and, h3, show (BitVec.ofInt 64 1).toNat = 1 from rfl, Nat.and_one_is_mod, IntKind.wrap_u64]
  omega
theorem power_any (a n : Nat) (ha : a < GP) (hn : n < 18446744073709551616) (w : World) : Calls Tryz.prog 125 #[.int .u32 (a : Int), .int .u64 (n : Int)] w fun e w' => e = .returned (.int .u32 (pw a n : Int)) ∧ Grown w w' := by
  have hL := Lib.hid (len_any n hn)
  have hlt := bitLen_lt n hn
  have hle : Lib.bitLen n ≤ 64 := Lib.bitLen_le n 64 (by omega) (by omega)
  generalize Lib.bitLen n = L at hL hlt hle
  have hlt' := Lib.hid hlt; have hn' := Lib.hid hn; have ha' := Lib.hid ha
  clear hlt hn ha
  go_enter Tryz.func125, Tryz.ntmps125
  go_wp2_with (first | (go_at_call 163; refine (products_any _ _).mono ?_; rintro e w' ⟨rfl, rfl⟩) | (go_at_call 154; refine (hL.out _).mono ?_; rintro e w' ⟨rfl, rfl⟩))
  go_loop [0, 6, 11] (fun x p i => ∃ k : Nat, k ≤ L ∧ i = .int .i64 k ∧ p = .int .u32 (pw a (n % 2 ^ k) : Int) ∧ x = .int .u32 (pw a (2 ^ k) : Int)) (fun _ _ i => match i with | .int _ m => L - m.toNat | _ => 0)
  case atStart => exact ⟨0, Nat.zero_le _, rfl, by rw [Nat.pow_zero, Nat.mod_one, pw_zero]; rfl, by rw [Nat.pow_zero, pw_one a ha'.out]⟩
  case round =>
    obtain ⟨k, hk, rfl, rfl, rfl⟩ := hrel
    have hx := pw_lt a (2 ^ k); have hp := pw_lt a (n % 2 ^ k)
    generalize hX : pw a (2 ^ k) = X at hx ⊢
    generalize hP : pw a (n % 2 ^ k) = p at hp ⊢
    have hX' := Lib.hid hX; have hP' := Lib.hid hP; have hx' := Lib.hid hx; have hp' := Lib.hid hp
    clear hX hP hx hp
    have hbit := Lib.hid (bit_one n k hn'.out)
    go_wp2_with (go_at_call 192; refine (times_GP _ _ _ _ (by simp) (by first | exact hp'.out | exact hx'.out) hx'.out).mono ?_; rintro e w' ⟨rfl, rfl⟩)
    · rename_i hlt hb _
      rw [hbit.out] at hb
      have hb1 : n / 2 ^ k % 2 = 1 := by have := eq_of_beq hb; omega
      refine ⟨⟨k + 1, by omega, by simp, ?_, ?_⟩, ?_⟩
      · rw [bit_step, if_pos hb1, hX'.out, hP'.out, Int.natCast_emod, Int.natCast_mul]
      · rw [← sq_step, hX'.out, Int.natCast_emod, Int.natCast_mul]
      · show L - ((k : Int) + 1).toNat < L - (k : Int).toNat
        omega
    · rename_i hlt hb _
      rw [hbit.out] at hb
      have hb1 : ¬ n / 2 ^ k % 2 = 1 := by
        intro h; rw [h] at hb; exact absurd hb (by decide)
      refine ⟨⟨k + 1, by omega, by simp, ?_, ?_⟩, ?_⟩
      · rw [bit_step, if_neg hb1, hP'.out]
      · rw [← sq_step, hX'.out, Int.natCast_emod, Int.natCast_mul]
      · show L - ((k : Int) + 1).toNat < L - (k : Int).toNat
        omega
    · rename_i hlt
      obtain rfl : k = L := by omega
      go_ret
      refine ⟨?_, (Grown.refl _).alloc _ _⟩
      have e := hP'.out
      rw [Nat.mod_eq_of_lt hlt'.out] at e
      rw [e]; rfl
theorem mulGP (p x : Nat) (hp : p < GP) (hx : x < GP) : (IntKind.u64.wrap ((p : Int) * (x : Int))).tmod 1000000007 = ((p * x % GP : Nat) : Int) := by
  have h : p * x < GP * GP := Nat.mul_lt_mul'' hp hx
  have e1 : IntKind.u64.wrap ((p : Int) * (x : Int)) = ((p * x : Nat) : Int) := by
    rw [← Int.natCast_mul, IntKind.wrap_u64]; unfold GP at h; omega
  rw [e1, Int.tmod_eq_emod_of_nonneg (Int.natCast_nonneg _)]; rfl
theorem halfm (m : Nat) (h : m < 18446744073709551616) : IntKind.u64.wrap ((m : Int) / 2) = ((m / 2 : Nat) : Int) := by
  rw [IntKind.wrap_u64]; omega
theorem rpower_any (a n : Nat) (ha : a < GP) (hn : n < 18446744073709551616) (w : World) : Calls Tryz.prog 176 #[.int .u64 (a : Int), .int .u64 (n : Int), .int .u64 1000000007] w fun e w' => e = .returned (.int .u64 (pw a n : Int)) ∧ w' = w := by
  have hn' := Lib.hid hn; have ha' := Lib.hid ha
  clear hn ha
  go_enter Tryz.func176, Tryz.ntmps176
  go_wp2
  go_loop [0, 1, 7] (fun x m p => ∃ k : Nat, m = .int .u64 (n / 2 ^ k : Nat) ∧ p = .int .u64 (pw a (n % 2 ^ k) : Int) ∧ x = .int .u64 (pw a (2 ^ k) : Int)) (fun _ m _ => match m with | .int _ m => m.toNat | _ => 0)
  case atStart => exact ⟨0, by rw [Nat.pow_zero, Nat.div_one], by rw [Nat.pow_zero, Nat.mod_one, pw_zero]; rfl, by rw [Nat.pow_zero, pw_one a ha'.out]⟩
  case round =>
    obtain ⟨k, rfl, rfl, rfl⟩ := hrel
    have hx := pw_lt a (2 ^ k); have hp := pw_lt a (n % 2 ^ k)
    generalize hX : pw a (2 ^ k) = X at hx ⊢
    generalize hP : pw a (n % 2 ^ k) = p at hp ⊢
    generalize hM : n / 2 ^ k = m
    have hX' := Lib.hid hX; have hP' := Lib.hid hP; have hx' := Lib.hid hx; have hp' := Lib.hid hp; have hM' := Lib.hid hM
    clear hX hP hx hp hM
    have hm : m < 18446744073709551616 := Nat.lt_of_le_of_lt (by rw [← hM'.out]; exact Nat.div_le_self _ _) hn'.out
    have hm' := Lib.hid hm; clear hm
    go_wp2
    · rename_i hlt hb
      have hb1 : n / 2 ^ k % 2 = 1 := by have := eq_of_beq hb; rw [hM'.out]; omega
      have hM2 : m / 2 = n / 2 ^ (k + 1) := by rw [← hM'.out, Nat.div_div_eq_div_mul, ← Nat.pow_succ]
      rw [mulGP p X hp'.out hx'.out, mulGP X X hx'.out hx'.out, halfm m hm'.out]
      refine ⟨⟨k + 1, by rw [hM2], ?_, ?_⟩, ?_⟩
      · rw [bit_step, if_pos hb1, hX'.out, hP'.out]
      · rw [← sq_step, hX'.out]
      · show ((m / 2 : Nat) : Int).toNat < (m : Int).toNat
        omega
    · rename_i hlt hb
      have hb1 : ¬ n / 2 ^ k % 2 = 1 := by
        rw [hM'.out]; intro h
        have : ((m : Int) % 2) = 1 := by omega
        rw [this] at hb; exact absurd hb (by decide)
      have hM2 : m / 2 = n / 2 ^ (k + 1) := by rw [← hM'.out, Nat.div_div_eq_div_mul, ← Nat.pow_succ]
      rw [mulGP X X hx'.out hx'.out, halfm m hm'.out]
      refine ⟨⟨k + 1, by rw [hM2], ?_, ?_⟩, ?_⟩
      · rw [bit_step, if_neg hb1, hP'.out]
      · rw [← sq_step, hX'.out]
      · show ((m / 2 : Nat) : Int).toNat < (m : Int).toNat
        omega
    · rename_i hlt _
      have hm0 : m = 0 := by omega
      have hlt2 : n < 2 ^ k := by
        have h := hM'.out
        rw [hm0] at h
        rcases Nat.div_eq_zero_iff.1 h with h | h
        · exact absurd h (Nat.ne_of_gt (Nat.two_pow_pos k))
        · exact h
      go_ret
      refine ⟨?_, rfl⟩
      have e := hP'.out
      rw [Nat.mod_eq_of_lt hlt2] at e
      rw [e]; rfl
end Go.Proofs.YtnknkiiikeefgaaGreatDoor.grp
namespace Go.Proofs.YtnknkiiikeefgaaGreatDoor.grp
open Go.RowKit
set_option linter.unusedVariables false
theorem inG_zero : inG 0 = false := by simp [inG]
theorem inG_big (a : Nat) (h : ¬ a < GP) : inG a = false := by simp [inG, h]
theorem inG_mid (a : Nat) (h0 : 1 ≤ a) (h1 : a < GP) : inG a = ((pw a 500000003 : Int) == 1) := by
  rw [Bool.eq_iff_iff, inG_iff, beq_iff_eq]; omega
theorem is_any (a : Nat) (ha : a < 4294967296) (w : World) : Calls Tryz.prog 91 #[.int .u32 (a : Int)] w fun e w' => e = .returned (.bool (inG a)) ∧ Grown w w' := by
  by_cases h0 : 1 ≤ a
  · by_cases h1 : a < 1000000007
    · have hp := Lib.hid (power_any a 500000003 h1 (by decide))
      have hi := Lib.hid (inG_mid a h0 h1)
      have h1i : (a : Int) < 1000000007 := by omega
      clear ha h1
      generalize pw a 500000003 = x at hp hi
      go_enter Tryz.func91, Tryz.ntmps91
      generalize hc : (1000000007 : Int) = c at h1i ⊢
      clear hc
      go_wp2_with (go_at_call 125; refine (hp.out _).mono ?_; rintro e w' ⟨rfl, g1⟩)
      all_goals
        go_ret
        refine ⟨?_, g1⟩
        rw [hi.out]
        first | rfl | (simp_all; done)
    · have hi := Lib.hid (inG_big a h1)
      have h1i : ¬ (a : Int) < 1000000007 := by omega
      clear ha h1
      go_enter Tryz.func91, Tryz.ntmps91
      generalize hc : (1000000007 : Int) = c at h1i ⊢
      clear hc
      go_wp2
      all_goals
        go_ret
        exact ⟨by rw [hi.out]; rfl, Grown.refl _⟩
  · obtain rfl : a = 0 := by omega
    have hi := Lib.hid inG_zero
    clear ha h0
    go_enter Tryz.func91, Tryz.ntmps91
    go_wp2
    go_ret
    exact ⟨by rw [hi.out]; rfl, Grown.refl _⟩
theorem ris_any (a : Nat) (ha : a < 4294967296) (w : World) : Calls Tryz.prog 144 #[.int .u32 (a : Int)] w fun e w' => e = .returned (.bool (inG a)) ∧ w' = w := by
  by_cases h0 : 1 ≤ a
  · by_cases h1 : a < 1000000007
    · have hp := Lib.hid (rpower_any a 500000003 h1 (by decide))
      have hi := Lib.hid (inG_mid a h0 h1)
      have h1i : (a : Int) < 1000000007 := by omega
      clear h1
      generalize pw a 500000003 = x at hp hi
      go_enter Tryz.func144, Tryz.ntmps144
      generalize hc : (1000000007 : Int) = c at h1i hp ⊢
      clear hc
      go_wp2_with (go_at_call 176; refine (hp.out _).mono ?_; rintro e w' ⟨rfl, rfl⟩)
      all_goals
        go_ret
        refine ⟨?_, rfl⟩
        rw [hi.out]
        first | rfl | (simp_all; done)
    · have hi := Lib.hid (inG_big a h1)
      have h1i : ¬ (a : Int) < 1000000007 := by omega
      clear ha h1
      go_enter Tryz.func144, Tryz.ntmps144
      generalize hc : (1000000007 : Int) = c at h1i ⊢
      clear hc
      go_wp2
      all_goals
        go_ret
        exact ⟨by rw [hi.out]; rfl, rfl⟩
  · obtain rfl : a = 0 := by omega
    have hi := Lib.hid inG_zero
    clear ha h0
    go_enter Tryz.func144, Tryz.ntmps144
    go_wp2
    go_ret
    exact ⟨by rw [hi.out]; rfl, rfl⟩
theorem every_is (a b : Nat) (blk : Nat) (w : World)(ha : a < 4294967296) (hb : b < 4294967296)
    (h0 : w.cell? ⟨blk, 0, none⟩ = some (.int .u32 (a : Int))) (h1 : w.cell? ⟨blk, 1, none⟩ = some (.int .u32 (b : Int))) :
    Calls Tryz.prog 161 #[.func (.func 91) #[] #[], .slice (some ⟨blk, 0, none⟩) 2 2] w fun e w' => e = .returned (.bool (inG a && inG b)) ∧ Grown w w' := by
  have hF0 := fun v => is_any a (by omega) v
  have hF1 := fun v => is_any b (by omega) v
  generalize inG a = x at hF0 ⊢
  generalize inG b = y at hF1 ⊢
  have hF := Lib.hid hF0; have hG := Lib.hid hF1
  clear hF0 hF1
  have hblk : blk < w.heap.size := World.block_lt_of_cell? _ _ h0
  go_enter Tryz.func161, Tryz.ntmps161
  go_wp2
  go_loopw [4, 9] (fun r i wr => r = .bool false ∧ Grown w wr ∧ (i = .int .i64 0 ∨ (i = .int .i64 1 ∧ x = true) ∨ (i = .int .i64 2 ∧ x = true ∧ y = true))) (fun _ i _ => match i with | .int _ n => 2 - n.toNat | _ => 0)
  case atStart => exact ⟨rfl, Grown.refl _, Or.inl rfl⟩
  case round =>
    obtain ⟨rfl, hg, h | ⟨h, hx⟩ | ⟨h, hx, hy⟩⟩ := hrel
    · subst h
      have k0 := (Grown.cell' hg hblk).trans h0; have k1 := (Grown.cell' hg hblk).trans h1; have hg' := Lib.hid hg; clear hg
      cases x
      · go_wp2_with (go_at_call 91; refine (hF.out _).mono ?_; rintro e w' ⟨rfl, g1⟩)
        go_ret
        exact ⟨rfl, Grown.trans' hg'.out g1⟩
      · go_wp2_with (go_at_call 91; refine (hF.out _).mono ?_; rintro e w' ⟨rfl, g1⟩)
        exact ⟨⟨rfl, Grown.trans' hg'.out g1, Or.inr (Or.inl ⟨rfl, trivial⟩)⟩, by decide⟩
    · subst h; subst hx
      have k0 := (Grown.cell' hg hblk).trans h0; have k1 := (Grown.cell' hg hblk).trans h1; have hg' := Lib.hid hg; clear hg
      cases y
      · go_wp2_with (go_at_call 91; refine (hG.out _).mono ?_; rintro e w' ⟨rfl, g1⟩)
        go_ret
        exact ⟨rfl, Grown.trans' hg'.out g1⟩
      · go_wp2_with (go_at_call 91; refine (hG.out _).mono ?_; rintro e w' ⟨rfl, g1⟩)
        exact ⟨⟨rfl, Grown.trans' hg'.out g1, Or.inr (Or.inr ⟨rfl, trivial, trivial⟩)⟩, by decide⟩
    · subst h; subst hx; subst hy
      have hg' := Lib.hid hg; clear hg
      go_wp2
      go_ret
      exact ⟨rfl, hg'.out⟩
end Go.Proofs.YtnknkiiikeefgaaGreatDoor.grp

/- Contracts of both packages side by side; the examples. -/
import Derived.Test.YtlmacnehoddjfaaE
namespace Go.Proofs.Ytlmacnehoddjfaa
open Go.RowKit
set_option linter.unusedVariables false
theorem mul_both (a b : Nat) (ha : a < 4294967296) (hb : b < 4294967296) : ∃ m e : Int,
    (∀ w, Calls Try.prog 10 #[.int .u32 (a : Int), .int .u32 (b : Int)] w fun x w' => x = .returned (.tuple #[.int .u32 m, .int .i64 e]) ∧ Grown w w') ∧
    (∀ w, Calls Try.prog 18 #[.int .u32 (a : Int), .int .u32 (b : Int)] w fun x w' => x = .returned (.tuple #[.int .u32 m, .int .i64 e]) ∧ w' = w) := by
  cases h : (inG a && inG b)
  · exact ⟨0, 2, mul_bad a b ha hb h, rmul_bad a b ha hb h⟩
  · rw [Bool.and_eq_true] at h
    exact ⟨_, 0, mul_ok a b h.1 h.2, rmul_ok a b h.1 h.2⟩
theorem pow_both (a n : Nat) (ha : a < 4294967296) (hn : n < 18446744073709551616) : ∃ m e : Int,
    (∀ w, Calls Try.prog 11 #[.int .u32 (a : Int), .int .u64 (n : Int)] w fun x w' => x = .returned (.tuple #[.int .u32 m, .int .i64 e]) ∧ Grown w w') ∧
    (∀ w, Calls Try.prog 19 #[.int .u32 (a : Int), .int .u64 (n : Int)] w fun x w' => x = .returned (.tuple #[.int .u32 m, .int .i64 e]) ∧ w' = w) := by
  cases h : inG a
  · exact ⟨0, 2, pow_bad a n ha h, rpow_bad a n ha h⟩
  · exact ⟨_, 0, pow_ok a n h hn, rpow_ok a n h hn⟩
theorem inv_both (a : Nat) (ha : a < 4294967296) : ∃ m e : Int,
    (∀ w, Calls Try.prog 12 #[.int .u32 (a : Int)] w fun x w' => x = .returned (.tuple #[.int .u32 m, .int .i64 e]) ∧ Grown w w') ∧
    (∀ w, Calls Try.prog 20 #[.int .u32 (a : Int)] w fun x w' => x = .returned (.tuple #[.int .u32 m, .int .i64 e]) ∧ w' = w) := by
  cases h : inG a
  · exact ⟨0, 2, inv_bad a ha h, rinv_bad a ha h⟩
  · exact ⟨_, 0, inv_ok a h, rinv_ok a h⟩
theorem is_both (a : Nat) (ha : a < 4294967296) : ∃ m : Bool,
    (∀ w, Calls Try.prog 15 #[.int .u32 (a : Int)] w fun x w' => x = .returned (.bool m) ∧ Grown w w') ∧
    (∀ w, Calls Try.prog 21 #[.int .u32 (a : Int)] w fun x w' => x = .returned (.bool m) ∧ w' = w) := ⟨_, is_any a ha, ris_any a ha⟩
theorem base_both (n : Nat) (hn : n < 18446744073709551616) : ∃ m : Int,
    (∀ w, Calls Try.prog 16 #[.int .u64 (n : Int)] w fun x w' => x = .returned (.int .u32 m) ∧ Grown w w') ∧
    (∀ w, Calls Try.prog 22 #[.int .u64 (n : Int)] w fun x w' => x = .returned (.int .u32 m) ∧ w' = w) := ⟨_, base_any n hn, rbase_any n hn⟩
/-- the group's test, for numbers as the walk spells them -/
def inGI (x : Int) : Bool := inG x.toNat
theorem is_int (x : Int) (h0 : 0 ≤ x) (h1 : x < 4294967296) (w : World) : Calls Try.prog 15 #[.int .u32 x] w fun e w' => e = .returned (.bool (inGI x)) ∧ Grown w w' := by
  obtain ⟨a, rfl⟩ := Int.eq_ofNat_of_zero_le h0
  exact is_any a (by omega) w
theorem pw_eq (a n : Nat) (hn : n < 2 ^ 64) : pw a n = pwF 64 1 a n := by
  rw [pwF_eq 64 1 a n hn (by decide), Nat.one_mul]; exact (Nat.mod_eq_of_lt (pw_lt _ _)).symm
theorem inG_eq (a : Nat) : inG a = decide (1 ≤ a ∧ a < GP ∧ pwF 64 1 a 500000003 = 1) := by unfold inG; rw [pw_eq _ _ (by decide)]
theorem in2 : inGI 2 = true := by rw [show inGI 2 = inG 2 from rfl, inG_eq]; decide +kernel
theorem in3 : inGI 3 = true := by rw [show inGI 3 = inG 3 from rfl, inG_eq]; decide +kernel
theorem in4 : inG 4 = true := by rw [inG_eq]; decide +kernel
theorem in5 : inGI 5 = false := by rw [show inGI 5 = inG 5 from rfl, inG_eq]; decide +kernel
theorem inLast : inGI 1000000006 = false := by rw [show inGI 1000000006 = inG 1000000006 from rfl, inG_eq]; decide +kernel
theorem pw_4_15 : pw 4 15 = 73741817 := by rw [pw_eq _ _ (by decide)]; decide +kernel
theorem pw_4_inv : pw 4 500000002 = 250000002 := by rw [pw_eq _ _ (by decide)]; decide +kernel
theorem inv_4 (w : World) : Calls Try.prog 12 #[.int .u32 4] w fun e w' => e = .returned (.tuple #[.int .u32 250000002, .int .i64 0]) ∧ Grown w w' := by
  have h := inv_ok 4 in4 w
  rw [pw_4_inv] at h
  exact h
theorem base_15 (w : World) : Calls Try.prog 16 #[.int .u64 15] w fun e w' => e = .returned (.int .u32 73741817) ∧ Grown w w' := by
  have h := base_any 15 (by decide) w
  rw [pw_4_15] at h
  exact h
theorem plus_ex (w : World) : Calls Try.prog 13 #[.int .u32 500000002, .int .u32 2] w fun e w' => e = .returned (.tuple #[.int .u32 1, .int .i64 0]) ∧ Grown w w' :=
  plus_ok 500000002 2 (by decide) (by decide) w
theorem alive_any (w : World) : Calls Try.prog 17 #[] w fun e w' => e = .returned (.bool true) ∧ Grown w w' := by
  have hg := Lib.hid (Grown.refl w)
  have f2 := Lib.hid in2; have f3 := Lib.hid in3; have f5 := Lib.hid in5; have f6 := Lib.hid inLast
  go_enter Try.func17, Try.ntmps17
  go_wp2_with (first | (go_at_call 12; refine (inv_4 _).mono ?_; rintro e w' ⟨rfl, g⟩; have hg := Lib.hid (Grown.trans' hg.out g); clear g) | (go_at_call 13; refine (plus_ex _).mono ?_; rintro e w' ⟨rfl, g⟩; have hg := Lib.hid (Grown.trans' hg.out g); clear g) | (go_at_call 16; refine (base_15 _).mono ?_; rintro e w' ⟨rfl, g⟩; have hg := Lib.hid (Grown.trans' hg.out g); clear g) | (go_at_call 15; refine (is_int _ (by decide) (by decide) _).mono ?_; rintro e w' ⟨he, g⟩; (first | rw [f2.out] at he | rw [f3.out] at he | rw [f5.out] at he | rw [f6.out] at he); subst he; have hg := Lib.hid (Grown.trans' hg.out g); clear g))
  go_ret
  exact ⟨rfl, hg.out⟩
end Go.Proofs.Ytlmacnehoddjfaa

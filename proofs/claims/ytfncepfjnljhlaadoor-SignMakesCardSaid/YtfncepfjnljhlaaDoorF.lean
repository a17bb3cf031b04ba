/- Contracts of both packages side by side; the examples. -/
import Derived.Test.YtfncepfjnljhlaaDoorE
namespace Go.Proofs.YtfncepfjnljhlaaDoor.grp
open Go.RowKit
set_option linter.unusedVariables false
theorem inv_both (a : Nat) (ha : a < 4294967296) : ∃ m e : Int,
    (∀ w, Calls Tryd.prog 51 #[.int .u32 (a : Int)] w fun x w' => x = .returned (.tuple #[.int .u32 m, .int .i64 e]) ∧ Grown w w') ∧
    (∀ w, Calls Tryd.prog 88 #[.int .u32 (a : Int)] w fun x w' => x = .returned (.tuple #[.int .u32 m, .int .i64 e]) ∧ w' = w) := by
  cases h : inG a
  · exact ⟨0, 2, inv_bad a ha h, rinv_bad a ha h⟩
  · exact ⟨_, 0, inv_ok a h, rinv_ok a h⟩
theorem is_both (a : Nat) (ha : a < 4294967296) : ∃ m : Bool,
    (∀ w, Calls Tryd.prog 45 #[.int .u32 (a : Int)] w fun x w' => x = .returned (.bool m) ∧ Grown w w') ∧
    (∀ w, Calls Tryd.prog 49 #[.int .u32 (a : Int)] w fun x w' => x = .returned (.bool m) ∧ w' = w) := ⟨_, is_any a ha, ris_any a ha⟩
theorem base_both (n : Nat) (hn : n < 18446744073709551616) : ∃ m : Int,
    (∀ w, Calls Tryd.prog 46 #[.int .u64 (n : Int)] w fun x w' => x = .returned (.int .u32 m) ∧ Grown w w') ∧
    (∀ w, Calls Tryd.prog 83 #[.int .u64 (n : Int)] w fun x w' => x = .returned (.int .u32 m) ∧ w' = w) := ⟨_, base_any n hn, rbase_any n hn⟩
/-- the group's test, for numbers as the walk spells them -/
def inGI (x : Int) : Bool := inG x.toNat
theorem is_int (x : Int) (h0 : 0 ≤ x) (h1 : x < 4294967296) (w : World) : Calls Tryd.prog 45 #[.int .u32 x] w fun e w' => e = .returned (.bool (inGI x)) ∧ Grown w w' := by
  obtain ⟨a, rfl⟩ := Int.eq_ofNat_of_zero_le h0
  exact is_any a (by omega) w
theorem pw_eq (a n : Nat) (hn : n < 2 ^ 64) : pw a n = pwF 64 1 a n := by
  rw [pwF_eq 64 1 a n hn (by decide), Nat.one_mul]; exact (Nat.mod_eq_of_lt (pw_lt _ _)).symm
theorem inG_eq (a : Nat) : inG a = decide (1 ≤ a ∧ a < GP ∧ pwF 64 1 a 500000003 = 1) := by unfold inG; rw [pw_eq _ _ (by decide)]
theorem in2 : inGI 2 = true := by rw [show inGI 2 = inG 2 from rfl, inG_eq]; decide +kernel
theorem in3 : inGI 3 = true := by rw [show inGI 3 = inG 3 from rfl, inG_eq]; decide +kernel
theorem in4 : inG 4 = true := by rw [inG_eq]; decide +kernel
theorem in5 : inGI 5 = false := by rw [show inGI 5 = inG 5 from rfl, inG_eq]; decide +kernel
theorem inLast : inGI 1000000006 = false := by rw [show inGI 1000000006 = inG 1000000006 from rfl, inG_eq]; decide +kernel
theorem pw_4_15 : pw 4 15 = 73741817 := by rw [pw_eq _ _ (by decide)]; decide +kernel
theorem pw_4_inv : pw 4 500000002 = 250000002 := by rw [pw_eq _ _ (by decide)]; decide +kernel
theorem inv_4 (w : World) : Calls Tryd.prog 51 #[.int .u32 4] w fun e w' => e = .returned (.tuple #[.int .u32 250000002, .int .i64 0]) ∧ Grown w w' := by
  have h := inv_ok 4 in4 w
  rw [pw_4_inv] at h
  exact h
theorem base_15 (w : World) : Calls Tryd.prog 46 #[.int .u64 15] w fun e w' => e = .returned (.int .u32 73741817) ∧ Grown w w' := by
  have h := base_any 15 (by decide) w
  rw [pw_4_15] at h
  exact h
theorem plus_ex (w : World) : Calls Tryd.prog 65 #[.int .u32 500000002, .int .u32 2] w fun e w' => e = .returned (.tuple #[.int .u32 1, .int .i64 0]) ∧ Grown w w' :=
  plus_ok 500000002 2 (by decide) (by decide) w
end Go.Proofs.YtfncepfjnljhlaaDoor.grp

/- Contracts of both packages side by side; the examples. -/
import Derived.Test.YtpklfohaifeboaaDoorE
namespace Go.Proofs.YtpklfohaifeboaaDoor.grp
open Go.RowKit
set_option linter.unusedVariables false
/-- the group's test, for numbers as the walk spells them -/
def inGI (x : Int) : Bool := inG x.toNat
theorem is_int (x : Int) (h0 : 0 ≤ x) (h1 : x < 4294967296) (w : World) : Calls Tryd.prog 47 #[.int .u32 x] w fun e w' => e = .returned (.bool (inGI x)) ∧ Grown w w' := by
  obtain ⟨a, rfl⟩ := Int.eq_ofNat_of_zero_le h0
  exact is_any a (by omega) w
theorem pw_eq (a n : Nat) (hn : n < 2 ^ 64) : pw a n = pwF 64 1 a n := by
  rw [pwF_eq 64 1 a n hn (by decide), Nat.one_mul]; exact (Nat.mod_eq_of_lt (pw_lt _ _)).symm
theorem inG_eq (a : Nat) : inG a = decide (1 ≤ a ∧ a < GP ∧ pwF 64 1 a 500000003 = 1) := by unfold inG; rw [pw_eq _ _ (by decide)]
theorem in2 : inGI 2 = true := by rw [show inGI 2 = inG 2 from rfl, inG_eq]; decide +kernel
theorem in3 : inGI 3 = true := by rw [show inGI 3 = inG 3 from rfl, inG_eq]; decide +kernel
theorem in4 : inG 4 = true := by rw [inG_eq]; decide +kernel
theorem in5 : inGI 5 = false := by rw [show inGI 5 = inG 5 from rfl, inG_eq]; decide +kernel
theorem inLast : inGI 1000000006 = false := by rw [show inGI 1000000006 = inG 1000000006 from rfl, inG_eq]; decide +kernel
theorem pw_4_15 : pw 4 15 = 73741817 := by rw [pw_eq _ _ (by decide)]; decide +kernel
theorem pw_4_inv : pw 4 500000002 = 250000002 := by rw [pw_eq _ _ (by decide)]; decide +kernel
theorem inv_4 (w : World) : Calls Tryd.prog 60 #[.int .u32 4] w fun e w' => e = .returned (.tuple #[.int .u32 250000002, .int .i64 0]) ∧ Grown w w' := by
  have h := inv_ok 4 in4 w
  rw [pw_4_inv] at h
  exact h
theorem base_15 (w : World) : Calls Tryd.prog 42 #[.int .u64 15] w fun e w' => e = .returned (.int .u32 73741817) ∧ Grown w w' := by
  have h := base_any 15 (by decide) w
  rw [pw_4_15] at h
  exact h
theorem plus_ex (w : World) : Calls Tryd.prog 46 #[.int .u32 500000002, .int .u32 2] w fun e w' => e = .returned (.tuple #[.int .u32 1, .int .i64 0]) ∧ Grown w w' :=
  plus_ok 500000002 2 (by decide) (by decide) w
end Go.Proofs.YtpklfohaifeboaaDoor.grp

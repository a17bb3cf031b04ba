/- SignTells' walk. -/
import Derived.Test.YtnknkiiikeefgaaGreatDoorS03m
namespace Go.Proofs.YtnknkiiikeefgaaGreatDoor
open Go.RowKit Go.YtnknkiiikeefgaaGreatDoor
set_option linter.unusedVariables false
theorem rexp_any (a : Nat) (ha : a < 4294967296) (b : Bool) (hb : decide (a < 500000003) = b) (w : World) : Calls Tryz.prog 146 #[.int .u32 (a : Int)] w fun e w' => e = .returned (.bool b) ∧ w' = w := by
  subst hb; exact grp.exponent_any a ha w
/-- What is known of a signature and a public key of the group. -/
structure TellOf (y S E : Nat) (m : List Int) where
  P : Nat
  I : Nat
  B : Nat
  R : Nat
  C : Nat
  hR : R < 4294967296
  hC : C < 500000003
  pow : ∀ w, Calls Tryz.prog 136 #[.int .u32 (y : Int), .int .u64 (E : Int)] w fun e w' => e = .returned (.tuple #[.int .u32 (P : Int), .int .i64 0]) ∧ Below w.heap.size w w'
  inv : ∀ w, Calls Tryz.prog 137 #[.int .u32 (P : Int)] w fun e w' => e = .returned (.tuple #[.int .u32 (I : Int), .int .i64 0]) ∧ Below w.heap.size w w'
  base : ∀ w, Calls Tryz.prog 120 #[.int .u64 (S : Int)] w fun e w' => e = .returned (.int .u32 (B : Int)) ∧ Below w.heap.size w w'
  mul : ∀ w, Calls Tryz.prog 138 #[.int .u32 (B : Int), .int .u32 (I : Int)] w fun e w' => e = .returned (.tuple #[.int .u32 (R : Int), .int .i64 0]) ∧ Below w.heap.size w w'
  chal : ∀ w mv, RdB w mv m → GlobW w → Calls Tryz.prog 122 #[.int .u32 (R : Int), .int .u32 (y : Int), mv] w fun e w' => e = .returned (.tuple #[.int .u32 (C : Int), .int .i64 0]) ∧ Below w.heap.size w w'
  ver : ∀ w mv, RdB w mv m → GlobW w → Calls Tryz.prog 74 #[.int .u32 (y : Int), mv, .agg #[.int .u32 (E : Int), .int .u32 (S : Int)]] w fun e w' => e = .returned (.int .i64 (if C = E then 0 else 22)) ∧ Below w.heap.size w w'
theorem tellOf (y S E : Nat) (m : List Int) (hy : grp.inG y = true) (hS : S < 500000003) (hE : E < 500000003) (hmb : Bytes m) (hml : m.length ≤ 9991) : Nonempty (TellOf y S E m) := ⟨{
  P := grp.pw y E
  I := grp.pw (grp.pw y E) 500000002
  B := grp.pw 4 S
  R := rN y S E
  C := chalN (rN y S E) y m
  hR := grp.GP_u32 (Nat.mod_lt _ grp.GP_pos)
  hC := chalN_lt _ _ _
  pow := grp.pow_ok y E hy (Nat.lt_trans hE (by decide))
  inv := grp.inv_ok _ (grp.inG_pw y E hy)
  base := grp.base_any S (Nat.lt_trans hS (by decide))
  mul := grp.mul_ok _ _ (grp.inG_pw 4 S grp.in4) (grp.inG_pw _ _ (grp.inG_pw y E hy))
  chal := fun w mv hm hg => chal_ok (rN y S E) y (grp.GP_u32 (Nat.mod_lt _ grp.GP_pos)) (grp.inG_u32 hy) mv m w hm hmb hml hg
  ver := fun w mv hm hg => by
    have h := verify_any y hy S E (Nat.lt_trans hS (by decide)) (Nat.lt_trans hE (by decide)) mv m w hm hmb hml hg
    have hr : rightB y m S E = decide (chalN (rN y S E) y m = E) := by
      unfold rightB; rw [decide_eq_true hS, decide_eq_true hE, Bool.true_and, Bool.true_and]
    rw [hr] at h
    simpa using h }⟩
theorem verify_no (y : Nat) (hy : grp.inG y = true) (S E : Nat) (hS : S < 4294967296) (hE : E < 4294967296) (mv : Value) (m : List Int) (w : World) (hm : RdB w mv m) (hmb : Bytes m) (hml : m.length ≤ 9991) (hgl : GlobW w) (h : 500000003 ≤ S ∨ 500000003 ≤ E) :
    Calls Tryz.prog 74 #[.int .u32 (y : Int), mv, .agg #[.int .u32 (E : Int), .int .u32 (S : Int)]] w fun e w' => e = .returned (.int .i64 22) ∧ Below w.heap.size w w' := by
  have hv := verify_any y hy S E hS hE mv m w hm hmb hml hgl
  rw [right_more y m S E h] at hv
  exact hv
end Go.Proofs.YtnknkiiikeefgaaGreatDoor

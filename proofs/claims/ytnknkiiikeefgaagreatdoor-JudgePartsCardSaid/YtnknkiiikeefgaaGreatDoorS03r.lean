/- SignRight's walk. -/
import Derived.Test.YtnknkiiikeefgaaGreatDoorS03k
namespace Go.Proofs.YtnknkiiikeefgaaGreatDoor
open Go.RowKit Go.YtnknkiiikeefgaaGreatDoor
set_option linter.unusedVariables false
/-- What is known of a secret's signature of a message. -/
structure SigOf (a : Nat) (m : List Int) where
  E : Nat
  S : Nat
  X : Nat
  K : Nat
  R : Nat
  P : Nat
  hE : E < 500000003
  hS : S < 500000003
  hK1 : 1 ≤ K
  hK2 : K < 500000003
  hX : X < 4294967296
  hR : R < 4294967296
  pub : ∀ w, Calls Tryz.prog 87 #[.int .u32 (a : Int)] w fun e w' => e = .returned (.tuple #[.int .u32 (X : Int), .int .i64 0]) ∧ Below w.heap.size w w'
  nonce : ∀ w mv, RdB w mv m → GlobW w → Calls Tryz.prog 121 #[.int .u32 (a : Int), mv] w fun e w' => e = .returned (.tuple #[.int .u32 (K : Int), .int .i64 0]) ∧ Below w.heap.size w w'
  sign : ∀ w mv, RdB w mv m → GlobW w → Calls Tryz.prog 88 #[.int .u32 (a : Int), mv] w fun e w' => e = .returned (.tuple #[.agg #[.int .u32 (E : Int), .int .u32 (S : Int)], .int .i64 0]) ∧ Below w.heap.size w w'
  yes : ∀ w mv, RdB w mv m → GlobW w → Calls Tryz.prog 74 #[.int .u32 (X : Int), mv, .agg #[.int .u32 (E : Int), .int .u32 (S : Int)]] w fun e w' => e = .returned (.int .i64 0) ∧ Below w.heap.size w w'
  chal : ∀ w mv, RdB w mv m → GlobW w → Calls Tryz.prog 122 #[.int .u32 (R : Int), .int .u32 (X : Int), mv] w fun e w' => e = .returned (.tuple #[.int .u32 (E : Int), .int .i64 0]) ∧ Below w.heap.size w w'
  isX : ∀ w, Calls Tryz.prog 91 #[.int .u32 (X : Int)] w fun e w' => e = .returned (.bool true) ∧ Below w.heap.size w w'
  baseA : ∀ w, Calls Tryz.prog 120 #[.int .u64 (a : Int)] w fun e w' => e = .returned (.int .u32 (X : Int)) ∧ Below w.heap.size w w'
  baseK : ∀ w, Calls Tryz.prog 120 #[.int .u64 (K : Int)] w fun e w' => e = .returned (.int .u32 (R : Int)) ∧ Below w.heap.size w w'
  baseS : ∀ w, Calls Tryz.prog 120 #[.int .u64 (S : Int)] w fun e w' => e = .returned (.int .u32 ((R * P % grp.GP : Nat) : Int)) ∧ Below w.heap.size w w'
  pow : ∀ w, Calls Tryz.prog 136 #[.int .u32 (X : Int), .int .u64 (E : Int)] w fun e w' => e = .returned (.tuple #[.int .u32 (P : Int), .int .i64 0]) ∧ Below w.heap.size w w'
  mul : ∀ w, Calls Tryz.prog 138 #[.int .u32 (R : Int), .int .u32 (P : Int)] w fun e w' => e = .returned (.tuple #[.int .u32 ((R * P % grp.GP : Nat) : Int), .int .i64 0]) ∧ Below w.heap.size w w'
theorem sigOf (a : Nat) (h : 1 ≤ a ∧ a < 500000003) (m : List Int) (hmb : Bytes m) (hml : m.length ≤ 9991) : Nonempty (SigOf a m) := ⟨{
  E := eN a m
  S := sN a m
  X := grp.pw 4 a
  K := nonceN a m
  R := grp.pw 4 (nonceN a m)
  P := grp.pw (grp.pw 4 a) (eN a m)
  hE := eN_lt a m
  hS := sN_lt a m
  hK1 := (nonceN_lt a m).1
  hK2 := (nonceN_lt a m).2
  hX := pw_u32 4 a
  hR := pw_u32 4 _
  pub := public_ok a h
  nonce := fun w mv hm hg => nonce_ok a h mv m w hm hmb hml hg
  sign := fun w mv hm hg => sign_ok a h mv m w hm hmb hml hg
  yes := fun w mv hm hg => by
    have hr := signed_right a m
    have hv := verify_any (grp.pw 4 a) (grp.inG_pw 4 a grp.in4) (sN a m) (eN a m) (Nat.lt_trans (sN_lt a m) (by decide)) (Nat.lt_trans (eN_lt a m) (by decide)) mv m w hm hmb hml hg
    rw [hr] at hv
    exact hv
  chal := fun w mv hm hg => chal_ok (grp.pw 4 (nonceN a m)) (grp.pw 4 a) (pw_u32 _ _) (pw_u32 _ _) mv m w hm hmb hml hg
  isX := grp.is_pw4 a
  baseA := grp.base_any a (Nat.lt_trans h.2 (by decide))
  baseK := grp.base_any _ (Nat.lt_trans (nonceN_lt a m).2 (by decide))
  baseS := fun w => by
    have hb := grp.base_any (sN a m) (Nat.lt_trans (sN_lt a m) (by decide)) w
    rw [show grp.pw 4 (sN a m) = grp.pw 4 (nonceN a m) * grp.pw (grp.pw 4 a) (eN a m) % grp.GP from grp.signed_made a (nonceN a m) (eN a m)] at hb
    exact hb
  pow := grp.pow_ok _ _ (grp.inG_pw 4 a grp.in4) (Nat.lt_trans (eN_lt a m) (by decide))
  mul := grp.mul_ok _ _ (grp.inG_pw 4 _ grp.in4) (grp.inG_pw _ _ (grp.inG_pw 4 a grp.in4)) }⟩
theorem own_nil (w : World) : OwnB w.heap.size 5 (w.alloc (.cells #[] 5)) (.slice (some ⟨w.heap.size, 0, none⟩) 0 0) [] :=
  ⟨rfl, .inr ⟨w.heap.size, 0, _, rfl, Nat.le_refl _, heap_alloc_new w _, Nat.le_refl _, by decide, rfl, rfl⟩⟩
end Go.Proofs.YtnknkiiikeefgaaGreatDoor

/- SignKeys' walk. SignRight's walk. SignMade's walk. SignTells' walk. SignNames' walk. -/
import Derived.Test.YtnknkiiikeefgaaGreatDoorS03f
import Derived.Test.YtnknkiiikeefgaaGreatDoorM02c
import Derived.Test.YtnknkiiikeefgaaGreatDoorLibB
namespace Go.Proofs.YtnknkiiikeefgaaGreatDoor
open Go.RowKit Go.YtnknkiiikeefgaaGreatDoor
set_option linter.unusedVariables false
/-- The world is behind 'w', and the listed variables are there. -/
def Since (w wi : World) : Prop := Below w.heap.size w wi ∧ GlobW wi
theorem Since.start {w : World} (h : GlobW w) : Since w w := ⟨Below.refl _ _, h⟩
theorem Since.step {w wi wj : World} (h : Since w wi) (hb : Below wi.heap.size wi wj) : Since w wj := ⟨h.1.trans (hb.mono h.1.size), h.2.mono hb⟩
theorem Since.gl {w wi : World} (h : Since w wi) : GlobW wi := h.2
end Go.Proofs.YtnknkiiikeefgaaGreatDoor
namespace Go.Proofs.YtnknkiiikeefgaaGreatDoor
open Go.RowKit Go.YtnknkiiikeefgaaGreatDoor
set_option linter.unusedVariables false
/-- What is known of a secret's signature of a message. -/
structure SigOf (a : Nat) (m : List Int) where
  E : Nat
  S : Nat
  X : Nat
  K : Nat
  R : Nat
  P : Nat
  hE : E < 500000003
  hS : S < 500000003
  hK1 : 1 ≤ K
  hK2 : K < 500000003
  hX : X < 4294967296
  hR : R < 4294967296
  pub : ∀ w, Calls Tryz.prog 87 #[.int .u32 (a : Int)] w fun e w' => e = .returned (.tuple #[.int .u32 (X : Int), .int .i64 0]) ∧ Below w.heap.size w w'
  nonce : ∀ w mv, RdB w mv m → GlobW w → Calls Tryz.prog 121 #[.int .u32 (a : Int), mv] w fun e w' => e = .returned (.tuple #[.int .u32 (K : Int), .int .i64 0]) ∧ Below w.heap.size w w'
  sign : ∀ w mv, RdB w mv m → GlobW w → Calls Tryz.prog 88 #[.int .u32 (a : Int), mv] w fun e w' => e = .returned (.tuple #[.agg #[.int .u32 (E : Int), .int .u32 (S : Int)], .int .i64 0]) ∧ Below w.heap.size w w'
  yes : ∀ w mv, RdB w mv m → GlobW w → Calls Tryz.prog 74 #[.int .u32 (X : Int), mv, .agg #[.int .u32 (E : Int), .int .u32 (S : Int)]] w fun e w' => e = .returned (.int .i64 0) ∧ Below w.heap.size w w'
  chal : ∀ w mv, RdB w mv m → GlobW w → Calls Tryz.prog 122 #[.int .u32 (R : Int), .int .u32 (X : Int), mv] w fun e w' => e = .returned (.tuple #[.int .u32 (E : Int), .int .i64 0]) ∧ Below w.heap.size w w'
  isX : ∀ w, Calls Tryz.prog 91 #[.int .u32 (X : Int)] w fun e w' => e = .returned (.bool true) ∧ Below w.heap.size w w'
  baseA : ∀ w, Calls Tryz.prog 120 #[.int .u64 (a : Int)] w fun e w' => e = .returned (.int .u32 (X : Int)) ∧ Below w.heap.size w w'
  baseK : ∀ w, Calls Tryz.prog 120 #[.int .u64 (K : Int)] w fun e w' => e = .returned (.int .u32 (R : Int)) ∧ Below w.heap.size w w'
  baseS : ∀ w, Calls Tryz.prog 120 #[.int .u64 (S : Int)] w fun e w' => e = .returned (.int .u32 ((R * P % grp.GP : Nat) : Int)) ∧ Below w.heap.size w w'
  pow : ∀ w, Calls Tryz.prog 136 #[.int .u32 (X : Int), .int .u64 (E : Int)] w fun e w' => e = .returned (.tuple #[.int .u32 (P : Int), .int .i64 0]) ∧ Below w.heap.size w w'
  mul : ∀ w, Calls Tryz.prog 138 #[.int .u32 (R : Int), .int .u32 (P : Int)] w fun e w' => e = .returned (.tuple #[.int .u32 ((R * P % grp.GP : Nat) : Int), .int .i64 0]) ∧ Below w.heap.size w w'
theorem sigOf (a : Nat) (h : 1 ≤ a ∧ a < 500000003) (m : List Int) (hmb : Bytes m) (hml : m.length ≤ 9991) : Nonempty (SigOf a m) := ⟨{
  E := eN a m
  S := sN a m
  X := grp.pw 4 a
  K := nonceN a m
  R := grp.pw 4 (nonceN a m)
  P := grp.pw (grp.pw 4 a) (eN a m)
  hE := eN_lt a m
  hS := sN_lt a m
  hK1 := (nonceN_lt a m).1
  hK2 := (nonceN_lt a m).2
  hX := pw_u32 4 a
  hR := pw_u32 4 _
  pub := public_ok a h
  nonce := fun w mv hm hg => nonce_ok a h mv m w hm hmb hml hg
  sign := fun w mv hm hg => sign_ok a h mv m w hm hmb hml hg
  yes := fun w mv hm hg => by
    have hr := signed_right a m
    have hv := verify_any (grp.pw 4 a) (grp.inG_pw 4 a grp.in4) (sN a m) (eN a m) (Nat.lt_trans (sN_lt a m) (by decide)) (Nat.lt_trans (eN_lt a m) (by decide)) mv m w hm hmb hml hg
    rw [hr] at hv
    exact hv
  chal := fun w mv hm hg => chal_ok (grp.pw 4 (nonceN a m)) (grp.pw 4 a) (pw_u32 _ _) (pw_u32 _ _) mv m w hm hmb hml hg
  isX := grp.is_pw4 a
  baseA := grp.base_any a (Nat.lt_trans h.2 (by decide))
  baseK := grp.base_any _ (Nat.lt_trans (nonceN_lt a m).2 (by decide))
  baseS := fun w => by
    have hb := grp.base_any (sN a m) (Nat.lt_trans (sN_lt a m) (by decide)) w
    rw [show grp.pw 4 (sN a m) = grp.pw 4 (nonceN a m) * grp.pw (grp.pw 4 a) (eN a m) % grp.GP from grp.signed_made a (nonceN a m) (eN a m)] at hb
    exact hb
  pow := grp.pow_ok _ _ (grp.inG_pw 4 a grp.in4) (Nat.lt_trans (eN_lt a m) (by decide))
  mul := grp.mul_ok _ _ (grp.inG_pw 4 _ grp.in4) (grp.inG_pw _ _ (grp.inG_pw 4 a grp.in4)) }⟩
theorem own_nil (w : World) : OwnB w.heap.size 5 (w.alloc (.cells #[] 5)) (.slice (some ⟨w.heap.size, 0, none⟩) 0 0) [] :=
  ⟨rfl, .inr ⟨w.heap.size, 0, _, rfl, Nat.le_refl _, heap_alloc_new w _, Nat.le_refl _, by decide, rfl, rfl⟩⟩
end Go.Proofs.YtnknkiiikeefgaaGreatDoor
namespace Go.Proofs.YtnknkiiikeefgaaGreatDoor
open Go.RowKit Go.YtnknkiiikeefgaaGreatDoor
set_option linter.unusedVariables false
end Go.Proofs.YtnknkiiikeefgaaGreatDoor
namespace Go.Proofs.YtnknkiiikeefgaaGreatDoor
open Go.RowKit Go.YtnknkiiikeefgaaGreatDoor
set_option linter.unusedVariables false
theorem rexp_any (a : Nat) (ha : a < 4294967296) (b : Bool) (hb : decide (a < 500000003) = b) (w : World) : Calls Tryz.prog 146 #[.int .u32 (a : Int)] w fun e w' => e = .returned (.bool b) ∧ w' = w := by
  subst hb; exact grp.exponent_any a ha w
/-- What is known of a signature and a public key of the group. -/
structure TellOf (y S E : Nat) (m : List Int) where
  P : Nat
  I : Nat
  B : Nat
  R : Nat
  C : Nat
  hR : R < 4294967296
  hC : C < 500000003
  pow : ∀ w, Calls Tryz.prog 136 #[.int .u32 (y : Int), .int .u64 (E : Int)] w fun e w' => e = .returned (.tuple #[.int .u32 (P : Int), .int .i64 0]) ∧ Below w.heap.size w w'
  inv : ∀ w, Calls Tryz.prog 137 #[.int .u32 (P : Int)] w fun e w' => e = .returned (.tuple #[.int .u32 (I : Int), .int .i64 0]) ∧ Below w.heap.size w w'
  base : ∀ w, Calls Tryz.prog 120 #[.int .u64 (S : Int)] w fun e w' => e = .returned (.int .u32 (B : Int)) ∧ Below w.heap.size w w'
  mul : ∀ w, Calls Tryz.prog 138 #[.int .u32 (B : Int), .int .u32 (I : Int)] w fun e w' => e = .returned (.tuple #[.int .u32 (R : Int), .int .i64 0]) ∧ Below w.heap.size w w'
  chal : ∀ w mv, RdB w mv m → GlobW w → Calls Tryz.prog 122 #[.int .u32 (R : Int), .int .u32 (y : Int), mv] w fun e w' => e = .returned (.tuple #[.int .u32 (C : Int), .int .i64 0]) ∧ Below w.heap.size w w'
  ver : ∀ w mv, RdB w mv m → GlobW w → Calls Tryz.prog 74 #[.int .u32 (y : Int), mv, .agg #[.int .u32 (E : Int), .int .u32 (S : Int)]] w fun e w' => e = .returned (.int .i64 (if C = E then 0 else 22)) ∧ Below w.heap.size w w'
theorem tellOf (y S E : Nat) (m : List Int) (hy : grp.inG y = true) (hS : S < 500000003) (hE : E < 500000003) (hmb : Bytes m) (hml : m.length ≤ 9991) : Nonempty (TellOf y S E m) := ⟨{
  P := grp.pw y E
  I := grp.pw (grp.pw y E) 500000002
  B := grp.pw 4 S
  R := rN y S E
  C := chalN (rN y S E) y m
  hR := grp.GP_u32 (Nat.mod_lt _ grp.GP_pos)
  hC := chalN_lt _ _ _
  pow := grp.pow_ok y E hy (Nat.lt_trans hE (by decide))
  inv := grp.inv_ok _ (grp.inG_pw y E hy)
  base := grp.base_any S (Nat.lt_trans hS (by decide))
  mul := grp.mul_ok _ _ (grp.inG_pw 4 S grp.in4) (grp.inG_pw _ _ (grp.inG_pw y E hy))
  chal := fun w mv hm hg => chal_ok (rN y S E) y (grp.GP_u32 (Nat.mod_lt _ grp.GP_pos)) (grp.inG_u32 hy) mv m w hm hmb hml hg
  ver := fun w mv hm hg => by
    have h := verify_any y hy S E (Nat.lt_trans hS (by decide)) (Nat.lt_trans hE (by decide)) mv m w hm hmb hml hg
    have hr : rightB y m S E = decide (chalN (rN y S E) y m = E) := by
      unfold rightB; rw [decide_eq_true hS, decide_eq_true hE, Bool.true_and, Bool.true_and]
    rw [hr] at h
    simpa using h }⟩
theorem verify_no (y : Nat) (hy : grp.inG y = true) (S E : Nat) (hS : S < 4294967296) (hE : E < 4294967296) (mv : Value) (m : List Int) (w : World) (hm : RdB w mv m) (hmb : Bytes m) (hml : m.length ≤ 9991) (hgl : GlobW w) (h : 500000003 ≤ S ∨ 500000003 ≤ E) :
    Calls Tryz.prog 74 #[.int .u32 (y : Int), mv, .agg #[.int .u32 (E : Int), .int .u32 (S : Int)]] w fun e w' => e = .returned (.int .i64 22) ∧ Below w.heap.size w w' := by
  have hv := verify_any y hy S E hS hE mv m w hm hmb hml hgl
  rw [right_more y m S E h] at hv
  exact hv
end Go.Proofs.YtnknkiiikeefgaaGreatDoor
namespace Go.Proofs.YtnknkiiikeefgaaGreatDoor
open Go.RowKit Go.YtnknkiiikeefgaaGreatDoor
set_option linter.unusedVariables false
theorem zeros_bytes (n : Nat) : Bytes (zerosB n) := bytes_replicate n
theorem ith_zeros (n i : Nat) : ith (zerosB n) i = 0 := by
  unfold ith zerosB; rw [List.getElem?_replicate]; split <;> simp
theorem sub_zeros {w : World} {g : Nat} {T : TypeId} {m : Nat × Nat} (n c : Nat) (hn : n ≤ c) (hc : c ≤ maxLen) (h : w.heap[g]? = some (.cells (u8s (zerosB c)) T m)) : RdB w (.slice (some ⟨g, 0, none⟩) n c) (zerosB n) := by
  refine .inr ⟨g, 0, c, by rw [zerosB_length], by rw [zerosB_length]; exact hn, hc, (Array.getElem?_eq_some_iff.1 h).1, fun i hi => ?_⟩
  rw [zerosB_length] at hi
  rw [Nat.zero_add, cell_of_row _ _ _ _ _ _ h, ith_zeros, ← ith_zeros c i]
  exact u8s_get _ _ (by rw [zerosB_length]; omega)
structure NamesP (Z : List Int) where
  E1 : Nat
  S1 : Nat
  E2 : Nat
  S2 : Nat
  C : Nat
  sign1 : ∀ w, GlobW w → Calls Tryz.prog 88 #[.int .u32 500000002, .slice none 0 0] w fun e w' => e = .returned (.tuple #[.agg #[.int .u32 (E1 : Int), .int .u32 (S1 : Int)], .int .i64 0]) ∧ Below w.heap.size w w'
  sign2 : ∀ w mv, RdB w mv Z → GlobW w → Calls Tryz.prog 88 #[.int .u32 1, mv] w fun e w' => e = .returned (.tuple #[.agg #[.int .u32 (E2 : Int), .int .u32 (S2 : Int)], .int .i64 0]) ∧ Below w.heap.size w w'
  ver1 : ∀ w, GlobW w → Calls Tryz.prog 74 #[.int .u32 250000002, .slice none 0 0, .agg #[.int .u32 (E1 : Int), .int .u32 (S1 : Int)]] w fun e w' => e = .returned (.int .i64 0) ∧ Below w.heap.size w w'
  ver2 : ∀ w mv, RdB w mv Z → GlobW w → Calls Tryz.prog 74 #[.int .u32 4, mv, .agg #[.int .u32 (E2 : Int), .int .u32 (S2 : Int)]] w fun e w' => e = .returned (.int .i64 0) ∧ Below w.heap.size w w'
  chal : ∀ w mv, RdB w mv Z → GlobW w → Calls Tryz.prog 122 #[.int .u32 0, .int .u32 4294967295, mv] w fun e w' => e = .returned (.tuple #[.int .u32 (C : Int), .int .i64 0]) ∧ Below w.heap.size w w'
theorem rd_nil (w : World) : RdB w (.slice none 0 0) [] := .inl ⟨none, 0, rfl, fun _ => rfl, rfl⟩
theorem ver_gen (a X : Nat) (hX : grp.pw 4 a = X) (m : List Int) (mv : Value) (w : World) (hm : RdB w mv m) (hmb : Bytes m) (hml : m.length ≤ 9991) (hg : GlobW w) :
    Calls Tryz.prog 74 #[.int .u32 (X : Int), mv, .agg #[.int .u32 (eN a m : Int), .int .u32 (sN a m : Int)]] w fun e w' => e = .returned (.int .i64 0) ∧ Below w.heap.size w w' := by
  subst hX
  have hv := verify_any (grp.pw 4 a) (grp.inG_pw 4 a grp.in4) (sN a m) (eN a m) (Nat.lt_trans (sN_lt a m) (by decide)) (Nat.lt_trans (eN_lt a m) (by decide)) mv m w hm hmb hml hg
  rw [signed_right a m] at hv
  exact hv
theorem namesP (Z : List Int) (hb : Bytes Z) (hl : Z.length ≤ 9991) : Nonempty (NamesP Z) := ⟨{
  E1 := eN 500000002 []
  S1 := sN 500000002 []
  E2 := eN 1 Z
  S2 := sN 1 Z
  C := chalN 0 4294967295 Z
  sign1 := fun w hg => sign_ok 500000002 (by decide) _ [] w (rd_nil w) bytes_nil (by decide) hg
  sign2 := fun w mv hm hg => sign_ok 1 (by decide) mv Z w hm hb hl hg
  ver1 := fun w hg => ver_gen 500000002 250000002 grp.pw_4_inv [] _ w (rd_nil w) bytes_nil (by decide) hg
  ver2 := fun w mv hm hg => ver_gen 1 4 (grp.pw_one 4 (by decide)) Z mv w hm hb hl hg
  chal := fun w mv hm hg => chal_ok 0 4294967295 (by decide) (by decide) mv Z w hm hb hl hg }⟩
def NSt (Z : List Int) (g1 : Nat) (w wi : World) : Prop := Below w.heap.size w wi ∧ GlobW wi ∧ RdB wi (.slice (some ⟨g1, 0, none⟩) 9991 9992) Z
theorem NSt.step {Z : List Int} {g1 : Nat} {w wi wj : World} (h : NSt Z g1 w wi) (hb : Below wi.heap.size wi wj) : NSt Z g1 w wj := ⟨h.1.trans (hb.mono h.1.size), h.2.1.mono hb, h.2.2.mono hb⟩
theorem NSt.gl {Z : List Int} {g1 : Nat} {w wi : World} (h : NSt Z g1 w wi) : GlobW wi := h.2.1
theorem NSt.rd {Z : List Int} {g1 : Nat} {w wi : World} (h : NSt Z g1 w wi) : RdB wi (.slice (some ⟨g1, 0, none⟩) 9991 9992) Z := h.2.2
def NC (Z : List Int) (g1 : Nat) (w : World) (g20 g22 : Nat) (c20 c22 : Array Value) (wi : World) : Prop := NSt Z g1 w wi ∧ Has wi g20 c20 33 ∧ Has wi g22 c22 33
theorem NC.step {Z : List Int} {g1 : Nat} {w : World} {g20 g22 : Nat} {c20 c22 : Array Value} {wi wj : World} (h : NC Z g1 w g20 g22 c20 c22 wi) (hb : Below wi.heap.size wi wj) : NC Z g1 w g20 g22 c20 c22 wj := ⟨h.1.step hb, h.2.1.step hb, h.2.2.step hb⟩
/-- A call that answers 'v', and changes nothing that was there. -/
abbrev AnsW (w : World) (f : FuncId) (args : Array Value) (v : Value) : Prop := Calls Tryz.prog f args w fun e w' => e = .returned v ∧ Below w.heap.size w w'
abbrev Ans (f : FuncId) (args : Array Value) (v : Value) : Prop := ∀ w, Calls Tryz.prog f args w fun e w' => e = .returned v ∧ Below w.heap.size w w'
theorem Ans.mk {f : FuncId} {args : Array Value} {v : Value} (h : ∀ w, Calls Tryz.prog f args w fun e w' => e = .returned v ∧ w' = w) : ∀ w, Calls Tryz.prog f args w fun e w' => e = .returned v ∧ Below w.heap.size w w' :=
  fun w => (h w).mono fun e w' ⟨h1, h2⟩ => ⟨h1, by subst h2; exact Below.refl _ _⟩
theorem pub_last (w : World) : Calls Tryz.prog 87 #[.int .u32 500000002] w fun e w' => e = .returned (.tuple #[.int .u32 250000002, .int .i64 0]) ∧ Below w.heap.size w w' := by
  have h := public_ok 500000002 (by decide) w
  rw [grp.pw_4_inv] at h
  exact h
theorem nv1 (wi : World) (o : GlobW wi) : AnsW wi 74 #[.int .u32 4, .slice none 0 0, .agg #[.int .u32 4294967295, .int .u32 0]] (.int .i64 22) := verify_no 4 grp.in4 0 4294967295 (by decide) (by decide) _ [] wi (rd_nil wi) bytes_nil (by decide) o (.inr (by decide))
theorem nv2 (wi : World) (o : GlobW wi) : AnsW wi 74 #[.int .u32 4, .slice none 0 0, .agg #[.int .u32 0, .int .u32 500000003]] (.int .i64 22) := verify_no 4 grp.in4 500000003 0 (by decide) (by decide) _ [] wi (rd_nil wi) bytes_nil (by decide) o (.inl (by decide))
theorem nq1  : Ans 87 #[.int .u32 0] (.tuple #[.int .u32 0, .int .i64 2]) := Ans.mk (public_bad 0 (by decide))
theorem nq2  : Ans 87 #[.int .u32 4294967295] (.tuple #[.int .u32 0, .int .i64 2]) := Ans.mk (public_bad 4294967295 (by decide))
theorem nn1 (g1 : Nat) : Ans 121 #[.int .u32 0, .slice (some ⟨g1, 0, none⟩) 9992 9992] (.tuple #[.int .u32 0, .int .i64 2]) := Ans.mk (nonce_bad 0 (by decide) _)
theorem nn2 (g1 : Nat) : Ans 121 #[.int .u32 1, .slice (some ⟨g1, 0, none⟩) 9992 9992] (.tuple #[.int .u32 0, .int .i64 4]) := Ans.mk (nonce_long 1 (by decide) _ 9992 9992 (by decide))
theorem nc2 (g1 : Nat) : Ans 122 #[.int .u32 0, .int .u32 4294967295, .slice (some ⟨g1, 0, none⟩) 9992 9992] (.tuple #[.int .u32 0, .int .i64 4]) := Ans.mk (chal_long 0 4294967295 _ 9992 9992 (by decide))
theorem ns3 (g1 : Nat) : Ans 88 #[.int .u32 500000003, .slice (some ⟨g1, 0, none⟩) 9992 9992] (.tuple #[.agg #[.int .u32 0, .int .u32 0], .int .i64 2]) := sign_bad 500000003 (by decide) _ 9992 9992
theorem ns4 (g1 : Nat) : Ans 88 #[.int .u32 1, .slice (some ⟨g1, 0, none⟩) 9992 9992] (.tuple #[.agg #[.int .u32 0, .int .u32 0], .int .i64 4]) := sign_long 1 (by decide) _ 9992 9992 (by decide)
theorem nv5 (g1 : Nat) (E2 S2 : Int) : Ans 74 #[.int .u32 4, .slice (some ⟨g1, 0, none⟩) 9992 9992, .agg #[.int .u32 E2, .int .u32 S2]] (.int .i64 4) := verify_long 4 grp.in4 _ 9992 9992 (by decide) E2 S2
theorem nv6 (g1 : Nat) (E2 S2 : Int) : Ans 74 #[.int .u32 5, .slice (some ⟨g1, 0, none⟩) 9992 9992, .agg #[.int .u32 E2, .int .u32 S2]] (.int .i64 2) := verify_arg 5 (by decide) grp.in5 _ 9992 9992 E2 S2
theorem nv7 (E1 S1 : Int) : Ans 74 #[.int .u32 0, .slice none 0 0, .agg #[.int .u32 E1, .int .u32 S1]] (.int .i64 2) := verify_arg 0 (by decide) grp.inG_zero none 0 0 E1 S1
theorem nk1  : Ans 119 #[.int .u32 1] (.int .i64 0) := Ans.mk (check_ok 1 (by decide))
theorem nk2  : Ans 119 #[.int .u32 500000002] (.int .i64 0) := Ans.mk (check_ok 500000002 (by decide))
theorem nst0 (w : World) (hgl : GlobW w) : NSt (zerosB 9991) w.heap.size w (w.alloc (.cells (u8s (zerosB 9992)) 5)) :=
  ⟨(Below.refl _ _).alloc (Nat.le_refl _) _, hgl.mono ((Below.refl _ _).alloc (Nat.le_refl _) _), sub_zeros 9991 9992 (by decide) (by decide) (heap_alloc_new w _)⟩
theorem names0 : Nonempty (NamesP (zerosB 9991)) := namesP (zerosB 9991) (zeros_bytes _) (by rw [zerosB_length]; exact Nat.le_refl _)
theorem mk9992 (wz : World) : (Instr.makeSlice 83 (.int .i64 9992) (.int .i64 9992)).run Tryz.prog wz = .ok (.slice (some ⟨wz.heap.size, 0, none⟩) 9992 9992) (wz.alloc (.cells (u8s (zerosB 9992)) 5)) :=
  run_makeB (P := Tryz.prog) wz 83 5 Tryz.underlying83 (by kernel_rfl) 9992 9992 (Nat.le_refl _) (by decide)
end Go.Proofs.YtnknkiiikeefgaaGreatDoor

/- The examples of layer 3. -/
import Derived.Test.YtnknkiiikeefgaaGreatDoorS03c
import Derived.Test.YtnknkiiikeefgaaGreatDoorD01l
import Derived.BigRegion
namespace Go.Proofs.YtnknkiiikeefgaaGreatDoor
open Go.RowKit Go.YtnknkiiikeefgaaGreatDoor
set_option linter.unusedVariables false
namespace grp
theorem signed_made (a K E : Nat) : pw 4 ((K + E * a % 500000003) % 500000003) = pw 4 K * pw (pw 4 a) E % GP := by
  have h4 := ((inG_iff 4).1 in4).2.2
  rw [← pw_rem 4 h4, pw_add, ← pw_rem 4 h4 (E * a), Nat.mul_comm E a, pw_mul]
theorem signed_r (a K E : Nat) : pw 4 ((K + E * a % 500000003) % 500000003) * pw (pw (pw 4 a) E) 500000002 % GP = pw 4 K := by
  have hX := inG_pw (pw 4 a) E (inG_pw 4 a in4)
  have hi := inv_mul _ hX
  have hK := pw_lt 4 K
  rw [signed_made]
  generalize pw (pw 4 a) E = X at *
  generalize pw X 500000002 = I at *
  generalize pw 4 K = k at *
  rw [Nat.mod_mul_mod, Nat.mul_assoc, ← Nat.mul_mod_mod, hi, Nat.mul_one, Nat.mod_eq_of_lt hK]
end grp
theorem signed_right (a : Nat) (m : List Int) : rightB (grp.pw 4 a) m (sN a m) (eN a m) = true := by
  have h1 : eN a m < 500000003 := chalN_lt _ _ _
  have h2 : sN a m < 500000003 := Nat.mod_lt _ (by decide)
  have h3 : rN (grp.pw 4 a) (sN a m) (eN a m) = grp.pw 4 (nonceN a m) := grp.signed_r a (nonceN a m) (eN a m)
  simp only [rightB, h1, h2, h3, decide_true, Bool.true_and]
  exact decide_eq_true rfl
theorem right_more (y : Nat) (m : List Int) (S E : Nat) (h : 500000003 ≤ S ∨ 500000003 ≤ E) : rightB y m S E = false := by
  unfold rightB
  rcases h with h | h
  · rw [decide_eq_false (show ¬ S < 500000003 by omega)]; simp
  · rw [decide_eq_false (show ¬ E < 500000003 by omega)]; simp
def msg : List Int := [109, 101, 115, 115, 97, 103, 101]
theorem msg_bytes : Bytes msg := by
  intro i
  match i with
  | 0 => decide
  | 1 => decide
  | 2 => decide
  | 3 => decide
  | 4 => decide
  | 5 => decide
  | 6 => decide
  | n + 7 => simp [ith, msg]
theorem pub1 (w : World) : Calls Tryz.prog 87 #[.int .u32 1] w fun e w' => e = .returned (.tuple #[.int .u32 4, .int .i64 0]) ∧ Below w.heap.size w w' := by
  have h := public_ok 1 (by decide) w
  rw [show grp.pw 4 1 = 4 from grp.pw_one 4 (by decide)] at h
  exact h
theorem pw42 : grp.pw 4 2 = 16 := by rw [grp.pw_eq _ _ (by decide)]; decide +kernel
theorem pub2 (w : World) : Calls Tryz.prog 87 #[.int .u32 2] w fun e w' => e = .returned (.tuple #[.int .u32 16, .int .i64 0]) ∧ Below w.heap.size w w' := by
  have h := public_ok 2 (by decide) w
  rw [pw42] at h
  exact h
/-- What a world has: a row at a place. -/
def Has (w : World) (g : Nat) (cs : Array Value) (T : TypeId) : Prop := w.heap[g]? = some (.cells cs T (0, 0))
theorem Has.lt {w : World} {g : Nat} {cs : Array Value} {T : TypeId} (h : Has w g cs T) : g < w.heap.size := (Array.getElem?_eq_some_iff.1 h).1
theorem Has.step {w w' : World} {g : Nat} {cs : Array Value} {T : TypeId} (h : Has w g cs T) (hb : Below w.heap.size w w') : Has w' g cs T := (hb.block _ h.lt).trans h
theorem Has.two {w : World} {g : Nat} {a b : Value} {T : TypeId} (h : Has w g #[a, b] T) : w.cell? ⟨g, 0, none⟩ = some a ∧ w.cell? ⟨g, 1, none⟩ = some b := ⟨cell_of_row _ _ _ _ _ _ h, cell_of_row _ _ _ _ _ _ h⟩
theorem Has.free {w : World} {g : Nat} {a b : Value} {T : TypeId} (h : Has w g #[a, b] T) : w.frozen? ⟨g, 0, none⟩ = false ∧ w.frozen? ⟨g, 1, none⟩ = false := ⟨frozen_of_row _ _ _ _ _ h, frozen_of_row _ _ _ _ _ h⟩
theorem set_two {w : World} {B g8 g9 : Nat} {a b x y : Value} {T : TypeId} (h8 : Has w g8 #[a, b] T) (h9 : Has w g9 #[a, b] T) (hne : g8 ≠ g9) (b8 : B ≤ g8) (b9 : B ≤ g9) :
    Has ((w.setCell ⟨g8, 1, none⟩ x).setCell ⟨g9, 0, none⟩ y) g8 #[a, x] T ∧ Has ((w.setCell ⟨g8, 1, none⟩ x).setCell ⟨g9, 0, none⟩ y) g9 #[y, b] T ∧ Below B w ((w.setCell ⟨g8, 1, none⟩ x).setCell ⟨g9, 0, none⟩ y) := by
  have h9' : Has (w.setCell ⟨g8, 1, none⟩ x) g9 #[a, b] T := (setCell_rows g8 1 x g9 (fun h => hne h.symm)).trans h9
  refine ⟨?_, setCell_row h9' 0 y, ((Below.refl _ _).setCell b8 _).setCell b9 _⟩
  exact (setCell_rows g9 0 y g8 hne).trans (setCell_row h8 1 x)
def Live (w wz : World) (mv : Value) (g : Nat) (cs : Array Value) : Prop := Below w.heap.size w wz ∧ GlobW wz ∧ RdB wz mv msg ∧ Has wz g cs 33
theorem Live.gl {w wz : World} {mv : Value} {g : Nat} {cs : Array Value} (h : Live w wz mv g cs) : GlobW wz := h.2.1
theorem Live.rd {w wz : World} {mv : Value} {g : Nat} {cs : Array Value} (h : Live w wz mv g cs) : RdB wz mv msg := h.2.2.1
theorem Live.step {w wz wy : World} {mv : Value} {g : Nat} {cs : Array Value} (h : Live w wz mv g cs) (hb : Below wz.heap.size wz wy) : Live w wy mv g cs :=
  ⟨h.1.trans (hb.mono h.1.size), h.2.1.mono hb, h.2.2.1.mono hb, h.2.2.2.step hb⟩
theorem check0 (w : World) : Calls Tryz.prog 119 #[.int .u32 0] w fun e w' => e = .returned (.int .i64 2) ∧ w' = w := check_bad 0 (by decide) w
theorem checkQ (w : World) : Calls Tryz.prog 119 #[.int .u32 500000003] w fun e w' => e = .returned (.int .i64 2) ∧ w' = w := check_bad 500000003 (by decide) w
theorem in16 : grp.inG 16 = true := by rw [← pw42]; exact grp.inG_pw 4 2 grp.in4
/-- What the examples need of the signature (E, S) of the message. -/
structure SigEx where
  E : Nat
  S : Nat
  hE : E < 500000003
  hS : S < 500000003
  sign : ∀ w mv, RdB w mv msg → GlobW w → Calls Tryz.prog 88 #[.int .u32 2, mv] w fun e w' => e = .returned (.tuple #[.agg #[.int .u32 (E : Int), .int .u32 (S : Int)], .int .i64 0]) ∧ Below w.heap.size w w'
  yes : ∀ w mv, RdB w mv msg → GlobW w → Calls Tryz.prog 74 #[.int .u32 16, mv, .agg #[.int .u32 (E : Int), .int .u32 (S : Int)]] w fun e w' => e = .returned (.int .i64 0) ∧ Below w.heap.size w w'
  more : ∀ w mv, RdB w mv msg → GlobW w → Calls Tryz.prog 74 #[.int .u32 16, mv, .agg #[.int .u32 (E : Int), .int .u32 ((S : Int) + 500000003)]] w fun e w' => e = .returned (.int .i64 22) ∧ Below w.heap.size w w'
  other : ∀ w mv, RdB w mv msg → GlobW w → Calls Tryz.prog 74 #[.int .u32 16, mv, .agg #[.int .u32 ((E : Int) + 500000003), .int .u32 (S : Int)]] w fun e w' => e = .returned (.int .i64 22) ∧ Below w.heap.size w w'
theorem eN_lt (a : Nat) (m : List Int) : eN a m < 500000003 := chalN_lt _ _ _
theorem sN_lt (a : Nat) (m : List Int) : sN a m < 500000003 := Nat.mod_lt _ (by decide)
theorem sigEx : Nonempty SigEx := ⟨{
  E := eN 2 msg
  S := sN 2 msg
  hE := eN_lt 2 msg
  hS := sN_lt 2 msg
  sign := fun w mv hm hg => sign_ok 2 (by decide) mv msg w hm msg_bytes (by decide) hg
  yes := fun w mv hm hg => by
    have hr := signed_right 2 msg
    rw [pw42] at hr
    have h := verify_any 16 in16 (sN 2 msg) (eN 2 msg) (Nat.lt_trans (sN_lt 2 msg) (by decide)) (Nat.lt_trans (eN_lt 2 msg) (by decide)) mv msg w hm msg_bytes (by decide) hg
    rw [hr] at h
    exact h
  more := fun w mv hm hg => by
    have hS := sN_lt 2 msg
    have h := verify_any 16 in16 (sN 2 msg + 500000003) (eN 2 msg) (Nat.lt_of_lt_of_le (Nat.add_lt_add_right hS _) (by decide)) (Nat.lt_trans (eN_lt 2 msg) (by decide)) mv msg w hm msg_bytes (by decide) hg
    rw [right_more _ _ _ _ (.inl (Nat.le_add_left _ _)), Int.natCast_add] at h
    exact h
  other := fun w mv hm hg => by
    have hE := eN_lt 2 msg
    have h := verify_any 16 in16 (sN 2 msg) (eN 2 msg + 500000003) (Nat.lt_trans (sN_lt 2 msg) (by decide)) (Nat.lt_of_lt_of_le (Nat.add_lt_add_right hE _) (by decide)) mv msg w hm msg_bytes (by decide) hg
    rw [right_more _ _ _ _ (.inr (Nat.le_add_left _ _)), Int.natCast_add] at h
    exact h }⟩
theorem sig_info2 (a b : Value) : (Tryz.prog.info? 33).map (·.size) = some (#[a, b] : Array Value).size := sig_info
end Go.Proofs.YtnknkiiikeefgaaGreatDoor

/- Layer 6: Decode: contract of package op. -/
import Derived.Test.YtnknkiiikeefgaaGreatDoorK06
import Derived.Test.YtnknkiiikeefgaaGreatDoorK01
namespace Go.Proofs.YtnknkiiikeefgaaGreatDoor.wir.val
open Go.RowKit Go.YtnknkiiikeefgaaGreatDoor
set_option linter.unusedVariables false
def decPost (w : World) (l : List Int) (e : Ending) (w' : World) : Prop :=
  Below w.heap.size w w' ∧ ((decO l = none ∧ e = .returned (.tuple #[.agg (zO.c (.slice none 0 0)), .int .i64 12])) ∨
    ∃ (o : Od) (a : Option Addr) (c : Nat), decO l = some o ∧ e = .returned (.tuple #[.agg (o.c (.slice a o.n c)), .int .i64 0]) ∧ HeldI w.heap.size w' (.slice a o.n c) o.n o.F)
theorem decPost_eq {w w' : World} {l : List Int} {e e' : Ending} (h : decPost w l e w') (he : e' = e) : decPost w l e' w' := he ▸ h
theorem dec_no {l : List Int} (h : rOp l = none) : decO l = none := by unfold decO; rw [h]
theorem dec_rest {l m : List Int} {o : Od} (h : rOp l = some (o, m)) (hm : ¬ m.length = 0) : decO l = none := by unfold decO; rw [h]; simp only; rw [if_neg (fun x => hm x.1)]
theorem dec_chk {l m : List Int} {o : Od} (h : rOp l = some (o, m)) (hm : ¬ chkO o = 0) : decO l = none := by unfold decO; rw [h]; simp only; rw [if_neg (fun x => hm x.2)]
theorem dec_yes {l m : List Int} {o : Od} (h : rOp l = some (o, m)) (hm : m.length = 0) (hc : chkO o = 0) : decO l = some o := by unfold decO; rw [h]; simp only; rw [if_pos ⟨hm, hc⟩]
theorem rd_one0 (v : Value) (b : Bool) (a : Option Addr) (n c : Nat) : (#[Value.slice a n c, .bool b] : Array Value).all (·.oneCell') = true := by simp [Value.oneCell']
set_option maxHeartbeats 4000000 in
set_option maxRecDepth 100000 in
theorem opDecode_any (l : List Int) (bv : Value) (w : World) (hr : RdB w bv l) (hl : Bytes l) (hlm : l.length ≤ 1000000) :
    Calls Tryz.prog 52 #[bv] w (decPost w l) := by
  obtain ⟨ba, bc, rfl⟩ := hr.slice
  obtain ⟨W, hW⟩ : ∃ W, W = w.alloc (.cells (zO.c (.slice none 0 0)) 35) := ⟨_, rfl⟩
  have hB0 : Below w.heap.size w W := by rw [hW]; exact below_a w _
  have hrz : W.heap[w.heap.size]? = some (.cells (zO.c (.slice none 0 0)) 35 (0, 0)) := by rw [hW]; exact heap_alloc_new w _
  have hWs : W.heap.size = w.heap.size + 1 := by rw [hW]; simp
  have hb1 := below_a W (.cells #[.slice ba l.length bc, .bool false] 122)
  have hS : St w W.heap.size (W.alloc (.cells #[.slice ba l.length bc, .bool false] 122)) l false :=
    ⟨hB0.trans (hb1.mono hB0.size), hB0.size, ba, bc, hr, heap_alloc_new W _⟩
  have hO := Lib.hid (operation_rd hS hl hlm)
  have hrow1 := Lib.hid (rowB hrz hb1 (by omega))
  have hB1 := Lib.hid (hB0.trans (hb1.mono hB0.size))
  have hgs := Lib.hid (show w.heap.size < (W.alloc (.cells #[.slice ba l.length bc, .bool false] 122)).heap.size by simp; omega)
  have hgr := Lib.hid (show w.heap.size < W.heap.size by omega)
  clear hS hr hrz hB0 hb1 hl hlm
  go_enter Tryz.func52, Tryz.ntmps52
  go_upto_region 1 with fail
  change Code.wp _ _ _ _ (w.alloc (.cells (zO.c (.slice none 0 0)) 35))
  rw [← hW]
  clear hW hWs
  go_upto_region 2 with fail
  generalize W.alloc (.cells #[.slice ba l.length bc, .bool false] 122) = W1 at *
  generalize W.heap.size = g2 at *
  go_upto_region 3 with (go_at_call 85; (with_reducible refine (hO.out).mono ?_); rintro e w1 ⟨o, pa, pc, rfl, fo, hn4, hI, l', f', q1, q2, q3, q4, q5⟩; have fo := Lib.hid fo; have hn4 := Lib.hid hn4; have hI := Lib.hid hI; have q1 := Lib.hid q1; have q2 := Lib.hid q2; have q5 := Lib.hid q5)
  have hbz := below_a w1 (.cells (o.c (.slice pa o.n pc)) 35)
  have hl2 := Lib.hid (heap_alloc_new w1 (.cells (o.c (.slice pa o.n pc)) 35))
  have hI2 := Lib.hid (heldI_mono hI.out hbz)
  have hp2 := Lib.hid (hI2.out _ (fun _ _ _ => rfl) (Nat.le_refl _))
  obtain ⟨_, _, a', c', hrr, hrw⟩ := q1.out.kept hbz
  have hrw2 := Lib.hid hrw
  have hrow2 := Lib.hid (rowB (butRow q2.out hrow1.out (by have := hgr.out; omega)) hbz (Nat.lt_of_lt_of_le hgs.out q2.out.size))
  have hB2 := Lib.hid (show Below w.heap.size w (w1.alloc (.cells (o.c (.slice pa o.n pc)) 35)) from (hB1.out.grown q2.out (Nat.le_of_lt hgs.out) (fun k e => by have := Option.some.inj e; have := hgr.out; omega)).trans (hbz.mono (Nat.le_of_lt (Nat.lt_of_lt_of_le hgs.out q2.out.size))))
  clear hbz hrow1 hB1 q1 q2 hI hO hrr hrw
  change Code.wp _ _ _ _ (w1.alloc (.cells (o.c (.slice pa o.n pc)) 35))
  generalize w1.heap.size = g3 at *
  generalize w1.alloc (.cells (o.c (.slice pa o.n pc)) 35) = w2 at *
  have u0 : w2.cell? ⟨g2, 0, none⟩ = some (.slice a' l'.length c') := cell_of_row _ _ _ _ _ _ hrw2.out
  have u1 : w2.cell? ⟨g2, 1, none⟩ = some (.bool f') := cell_of_row _ _ _ _ _ _ hrw2.out
  have hC := Lib.hid (opCheck_any o fo.out (.slice pa o.n pc) w2 hp2.out)
  have hno : decO l = none → ∀ w9, Below w.heap.size w2 w9 → decPost w l (.returned (.tuple #[.agg (zO.c (.slice none 0 0)), .int .i64 12])) w9 := fun hd w9 hb9 => ⟨hB2.out.trans hb9, .inl ⟨hd, rfl⟩⟩
  have hno := Lib.hid hno
  cases f' with
  | true =>
    have hd : decO l = none := by
      rcases q5.out with ⟨_, h⟩ | ⟨h, _⟩
      · exact dec_no h
      · cases h
    have hno := Lib.hid (hno.out hd)
    clear hd q5 hC hp2 hI2 hl2
    go_wp2_with (refine storeOver _ w.heap.size _ rfl 35 _ _ rfl (zO.c (.slice none 0 0)) 35 hrow2.out rfl rfl info_op rfl (op_one zO _ _ _) ?_; intro w9 hr9 hb9; have hr9' := Lib.hid hr9; have hb9' := Lib.hid hb9; clear hr9 hb9)
    exact bodyPost_ret (results_row_tmp rfl _ _ w.heap.size 35 _ _ _ rfl hr9'.out Tryz.underlying35 rfl info_op) rfl (decPost_eq (hno.out _ hb9'.out) rfl)
  | false =>
    have hr : rOp l = some (o, l') := by
      rcases q5.out with ⟨h, _⟩ | ⟨_, h⟩
      · cases h
      · exact h
    by_cases hN : l'.length = 0
    · have i1 : decide ((0 : Int) < (l'.length : Int)) = false := decide_eq_false (by omega)
      have i2 : ¬ (0 : Int) < (l'.length : Int) := by omega
      have hd1 := Lib.hid (fun h => dec_chk hr h)
      have hd2 := Lib.hid (fun h => dec_yes hr hN h)
      have hNh := Lib.hid hN
      clear hr q5
      generalize l'.length = N at *
      by_cases h0 : chkO o = 0
      · have hyes := Lib.hid (fun (w9 : World) (hb9 : Below w.heap.size w2 w9) (h9 : HeldI w.heap.size w9 (.slice pa o.n pc) o.n o.F) => (show decPost w l (.returned (.tuple #[.agg (o.c (.slice pa o.n pc)), .int .i64 0])) w9 from ⟨hB2.out.trans hb9, .inr ⟨o, pa, pc, hd2.out h0, rfl, h9⟩⟩))
        rw [h0] at hC
        clear hd1 hd2 h0 hno
        have hN0 : N = 0 := hNh.out
        subst hN0
        go_wp2_with (first
          | (refine wpList_load_row_g rfl 35 _ rfl g3 rfl 35 (o.c (.slice pa o.n pc)) (0, 0) _ hl2.out Tryz.underlying35 rfl info_op ?_)
          | (go_at_call 56; (with_reducible refine (hC.out).mono ?_); rintro e w3 ⟨rfl, h3⟩; have hb3 := Lib.hid h3; have hl3 := Lib.hid (rowB hl2.out h3 (Array.getElem?_eq_some_iff.1 hl2.out).1); have hrow3 := Lib.hid (rowB hrow2.out h3 (Array.getElem?_eq_some_iff.1 hrow2.out).1); clear h3)
          | (refine wpList_load_row_g rfl 35 _ rfl g3 rfl 35 (o.c (.slice pa o.n pc)) (0, 0) _ hl3.out Tryz.underlying35 rfl info_op ?_)
          | (refine wpList_store_row rfl 35 _ _ rfl w.heap.size (o.c (.slice pa o.n pc)) rfl rfl 35 _ hrow3.out info_op rfl (op_one o pa o.n pc) ?_; have hr9 := Lib.hid (setRow_heap _ _ _ (o.c (.slice pa o.n pc)) _ _ hrow3.out); have hb9 := Lib.hid (below_setRow' (B := w.heap.size) (g := w.heap.size) (Below.refl _ w3) (Nat.le_refl _) (o.c (.slice pa o.n pc)))))
        exact bodyPost_ret (results_row_tmp rfl _ _ w.heap.size 35 _ _ _ rfl hr9.out Tryz.underlying35 rfl info_op) rfl (decPost_eq (hyes.out _ ((hb3.out.mono hB2.out.size).trans hb9.out) (heldI_lower (heldI_setRow (heldI_mono hI2.out hb3.out) hgs.out _) (Nat.le_of_lt hgs.out))) rfl)
      · have hx : (chkO o != 0) = true := by simpa using h0
        have hno := Lib.hid (hno.out (hd1.out h0))
        generalize chkO o = E at *
        clear hd1 hd2 h0
        have hN0 : N = 0 := hNh.out
        subst hN0
        go_wp2_with (first
          | (refine wpList_load_row_g rfl 35 _ rfl g3 rfl 35 (o.c (.slice pa o.n pc)) (0, 0) _ hl2.out Tryz.underlying35 rfl info_op ?_)
          | (go_at_call 56; (with_reducible refine (hC.out).mono ?_); rintro e w3 ⟨rfl, h3⟩; have hb3 := Lib.hid h3; have hrow3 := Lib.hid (rowB hrow2.out h3 (Array.getElem?_eq_some_iff.1 hrow2.out).1); clear h3)
          | (refine storeOver _ w.heap.size _ rfl 35 _ _ rfl (zO.c (.slice none 0 0)) 35 hrow3.out rfl rfl info_op rfl (op_one zO _ _ _) ?_; intro w9 hr9 hb9; have hr9' := Lib.hid hr9; have hb9' := Lib.hid hb9; clear hr9 hb9))
        exact bodyPost_ret (results_row_tmp rfl _ _ w.heap.size 35 _ _ _ rfl hr9'.out Tryz.underlying35 rfl info_op) rfl (decPost_eq (hno.out _ ((hb3.out.mono hB2.out.size).trans hb9'.out)) rfl)
    · have hno := Lib.hid (hno.out (dec_rest hr hN))
      clear hr q5 hC hp2 hI2 hl2
      generalize l'.length = N at *
      have i1 : decide ((0 : Int) < (N : Int)) = true := decide_eq_true (by omega)
      have i2 : (0 : Int) < (N : Int) := by omega
      go_wp2_with (refine storeOver _ w.heap.size _ rfl 35 _ _ rfl (zO.c (.slice none 0 0)) 35 hrow2.out rfl rfl info_op rfl (op_one zO _ _ _) ?_; intro w9 hr9 hb9; have hr9' := Lib.hid hr9; have hb9' := Lib.hid hb9; clear hr9 hb9)
      exact bodyPost_ret (results_row_tmp rfl _ _ w.heap.size 35 _ _ _ rfl hr9'.out Tryz.underlying35 rfl info_op) rfl (decPost_eq (hno.out _ hb9'.out) rfl)
end Go.Proofs.YtnknkiiikeefgaaGreatDoor.wir.val

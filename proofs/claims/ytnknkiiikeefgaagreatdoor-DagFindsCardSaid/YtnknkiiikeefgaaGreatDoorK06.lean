/- Layer 6: the reader of operations: a whole operation. -/
import Derived.Test.YtnknkiiikeefgaaGreatDoorK02
import Derived.Test.YtnknkiiikeefgaaGreatDoorQ13
namespace Go.Proofs.YtnknkiiikeefgaaGreatDoor.wir.val
open Go.RowKit Go.YtnknkiiikeefgaaGreatDoor
set_option linter.unusedVariables false
theorem eleven_of {w : World} {g : Nat} {x0 x1 x2 x3 x4 x5 x6 x7 x8 x9 x10 : Value} {T : TypeId} (h : w.heap[g]? = some (.cells #[x0, x1, x2, x3, x4, x5, x6, x7, x8, x9, x10] T (0, 0))) :
    (w.cell? ⟨g, 0, none⟩ = some x0 ∧ w.cell? ⟨g, 1, none⟩ = some x1 ∧ w.cell? ⟨g, 2, none⟩ = some x2 ∧ w.cell? ⟨g, 3, none⟩ = some x3 ∧ w.cell? ⟨g, 4, none⟩ = some x4 ∧ w.cell? ⟨g, 5, none⟩ = some x5 ∧ w.cell? ⟨g, 6, none⟩ = some x6 ∧ w.cell? ⟨g, 7, none⟩ = some x7 ∧ w.cell? ⟨g, 8, none⟩ = some x8 ∧ w.cell? ⟨g, 9, none⟩ = some x9 ∧ w.cell? ⟨g, 10, none⟩ = some x10) ∧
    w.frozen? ⟨g, 0, none⟩ = false ∧ w.frozen? ⟨g, 1, none⟩ = false ∧ w.frozen? ⟨g, 2, none⟩ = false ∧ w.frozen? ⟨g, 3, none⟩ = false ∧ w.frozen? ⟨g, 4, none⟩ = false ∧ w.frozen? ⟨g, 5, none⟩ = false ∧ w.frozen? ⟨g, 6, none⟩ = false ∧ w.frozen? ⟨g, 7, none⟩ = false ∧ w.frozen? ⟨g, 8, none⟩ = false ∧ w.frozen? ⟨g, 9, none⟩ = false ∧ w.frozen? ⟨g, 10, none⟩ = false :=
  ⟨⟨cell_of_row _ _ _ _ _ _ h, cell_of_row _ _ _ _ _ _ h, cell_of_row _ _ _ _ _ _ h, cell_of_row _ _ _ _ _ _ h, cell_of_row _ _ _ _ _ _ h, cell_of_row _ _ _ _ _ _ h, cell_of_row _ _ _ _ _ _ h, cell_of_row _ _ _ _ _ _ h, cell_of_row _ _ _ _ _ _ h, cell_of_row _ _ _ _ _ _ h, cell_of_row _ _ _ _ _ _ h⟩, frozen_of_row _ _ _ _ _ h, frozen_of_row _ _ _ _ _ h, frozen_of_row _ _ _ _ _ h, frozen_of_row _ _ _ _ _ h, frozen_of_row _ _ _ _ _ h, frozen_of_row _ _ _ _ _ h, frozen_of_row _ _ _ _ _ h, frozen_of_row _ _ _ _ _ h, frozen_of_row _ _ _ _ _ h, frozen_of_row _ _ _ _ _ h, frozen_of_row _ _ _ _ _ h⟩
theorem heldI_set {B k i : Nat} {w : World} {v x : Value} {n : Nat} {F : List Int} (h : HeldI B w v n F) (hk : k < B) : HeldI B (w.setCell ⟨k, i, none⟩ x) v n F :=
  heldI_but h hk (but_cell w k i x)
theorem heldI_setRow {B k : Nat} {w : World} {v : Value} {n : Nat} {F : List Int} (h : HeldI B w v n F) (hk : k < B) (cs : Array Value) : HeldI B (w.setRow k cs) v n F := fun wx h1 h2 =>
  have hs : w.heap.size ≤ (w.setRow k cs).heap.size := (below_setRow' (B := 0) (g := k) (Below.refl 0 w) (Nat.zero_le _) cs).size
  h wx (fun i k1 k2 => (h1 i k1 (Nat.lt_of_lt_of_le k2 hs)).trans (setRow_other w k i cs (by omega))) (Nat.le_trans hs h2)
theorem rOp_first {l : List Int} (h : rNext l = none) : rOp l = none := by unfold rOp; rw [if_pos (rNext_none h)]
theorem rOp_mark {l l1 : List Int} {x : Int} (h : rNext l = some (x, l1)) (hx : ¬ x = 111) : rOp l = none := by
  obtain ⟨a1, a2, a3⟩ := rNext_some h
  unfold rOp; rw [if_neg a1, if_neg (by rw [a2]; exact hx)]
theorem rOp_go {l l1 : List Int} {x : Int} (h : rNext l = some (x, l1)) (hx : x = 111) : rOp l = (match rSmall l1 with
    | none => none
    | some a => match rIds a.2 with
      | none => none
      | some i => match rNum i.2 with
        | none => none
        | some t => match rAct t.2 with
          | none => none
          | some c => match rSmall c.2 with
            | none => none
            | some x => match rSmall x.2 with
              | none => none
              | some y => some (⟨a.1, i.1.1, i.1.2, t.1, c.1.k, c.1.key, c.1.v, x.1, y.1⟩, y.2)) := by
  obtain ⟨a1, a2, a3⟩ := rNext_some h
  unfold rOp; rw [if_neg a1, if_pos (by rw [a2]; exact hx), a3]
  rfl
theorem op_ends {l l1 l2 l3 l4 l5 l6 l7 F : List Int} {fl f1 f1' f2 f3 f4 f5 f6 f7 : Bool} {x : Int} {au n st e s : Nat} {c : Ac} (q1 : Ends fl (rNext l) x l1 f1) (hx : f1' = if x = 111 then f1 else true)
    (q2 : Ends f1' (rSmall l1) au l2 f2) (q3 : Ends f2 (rIds l2) (n, F) l3 f3) (q4 : Ends f3 (rNum l3) st l4 f4) (q5 : Ends f4 (rAct l4) c l5 f5) (q6 : Ends f5 (rSmall l5) e l6 f6) (q7 : Ends f6 (rSmall l6) s l7 f7) :
    Ends fl (rOp l) (⟨au, n, F, st, c.k, c.key, c.v, e, s⟩ : Od) l7 f7 := by
  have up : f1' = true → f7 = true := fun h => q7.up (q6.up (q5.up (q4.up (q3.up (q2.up h)))))
  rcases q1 with ⟨h1, h2⟩ | ⟨h1, h2⟩
  · refine .inl ⟨up ?_, rOp_first h2⟩
    rw [hx]; split
    · exact h1
    · rfl
  by_cases h111 : x = 111
  · rw [if_pos h111] at hx
    have hg := rOp_go h2 h111
    rcases q2 with ⟨a1, a2⟩ | ⟨a1, a2⟩
    · exact .inl ⟨q7.up (q6.up (q5.up (q4.up (q3.up a1)))), by rw [hg, a2]⟩
    rcases q3 with ⟨b1, b2⟩ | ⟨b1, b2⟩
    · exact .inl ⟨q7.up (q6.up (q5.up (q4.up b1))), by rw [hg, a2]; simp only [b2]⟩
    rcases q4 with ⟨c1, c2⟩ | ⟨c1, c2⟩
    · exact .inl ⟨q7.up (q6.up (q5.up c1)), by rw [hg, a2]; simp only [b2, c2]⟩
    rcases q5 with ⟨d1, d2⟩ | ⟨d1, d2⟩
    · exact .inl ⟨q7.up (q6.up d1), by rw [hg, a2]; simp only [b2, c2, d2]⟩
    rcases q6 with ⟨e1, e2⟩ | ⟨e1, e2⟩
    · exact .inl ⟨q7.up e1, by rw [hg, a2]; simp only [b2, c2, d2, e2]⟩
    rcases q7 with ⟨g1, g2⟩ | ⟨g1, g2⟩
    · exact .inl ⟨g1, by rw [hg, a2]; simp only [b2, c2, d2, e2, g2]⟩
    · exact .inr ⟨by rw [g1, e1, d1, c1, b1, a1, hx, h1], by rw [hg, a2]; simp only [b2, c2, d2, e2, g2]⟩
  · exact .inl ⟨up (by rw [hx, if_neg h111]), rOp_mark h2 h111⟩
set_option maxHeartbeats 4000000 in
set_option maxRecDepth 100000 in
theorem operation_rd {W0 w : World} {g : Nat} {l : List Int} {fl : Bool} (h : St W0 g w l fl) (hl : Bytes l) (hlm : l.length ≤ 1000000) :
    Calls Tryz.prog 85 #[.pointer (some ⟨g, 0, none⟩)] w fun e w' => ∃ (o : Od) (a : Option Addr) (c : Nat), e = .returned (.agg (o.c (.slice a o.n c))) ∧ o.Fit ∧ o.n ≤ 4 ∧ HeldI w.heap.size w' (.slice a o.n c) o.n o.F ∧ RdOut W0 g w l fl (rOp l) o w' := by
  have hlt := Lib.hid h.lt
  have hB0 := below_a w (.cells #[.int .u32 0, .slice none 0 0, .int .u64 0, .int .u8 0, .string ⟨#[]⟩, .int .u8 0, .int .i64 0, .int .u64 0, .string ⟨#[]⟩, .int .u32 0, .int .u32 0] 35)
  have hrow := Lib.hid (heap_alloc_new w (.cells #[.int .u32 0, .slice none 0 0, .int .u64 0, .int .u8 0, .string ⟨#[]⟩, .int .u8 0, .int .i64 0, .int .u64 0, .string ⟨#[]⟩, .int .u32 0, .int .u32 0] 35))
  obtain ⟨W, hW⟩ : ∃ W, W = w.alloc (.cells #[.int .u32 0, .slice none 0 0, .int .u64 0, .int .u8 0, .string ⟨#[]⟩, .int .u8 0, .int .i64 0, .int .u64 0, .string ⟨#[]⟩, .int .u32 0, .int .u32 0] 35) := ⟨_, rfl⟩
  rw [← hW] at hrow hB0
  have hX := Lib.hid (next_any (h.kept hB0) hl hlm)
  have hWs := Lib.hid (show w.heap.size < W.heap.size from (Array.getElem?_eq_some_iff.1 hrow.out).1)
  have hbs := Lib.hid h.b.size
  have hg0 := Lib.hid (but_of (r := some g) hB0)
  have hll := Lib.hid hlm
  clear h hl hB0 hlm
  go_enter Tryz.func85, Tryz.ntmps85
  go_upto_region 1 with fail
  rw [← hW]
  clear hW
  go_upto_if 6 with (go_at_call 112; (with_reducible refine (hX.out).mono ?_); rintro e w1 ⟨x, rfl, hx, l1, f1, q1, q2, q3, q4, q5⟩; have hx := Lib.hid hx; have q1 := Lib.hid q1; have q2 := Lib.hid q2; have q3 := Lib.hid q3; have q4 := Lib.hid q4; have q5 := Lib.hid q5; have hrow1 := Lib.hid (butRow q2.out hrow.out (by have := hlt.out; omega)))
  by_cases hx1 : x = 111
  · have t1 : (x != 111) = false := by rw [hx1]; rfl
    obtain ⟨f1x, hfx0⟩ : ∃ f, f = f1 := ⟨_, rfl⟩
    have hfx := Lib.hid (show f1x = if x = 111 then f1 else true by rw [if_pos hx1]; exact hfx0)
    rw [← hfx0] at q1
    clear hfx0
    go_upto_region 4 with fail
    have hl := Lib.hid (heap_alloc_new w1 (.cells #[.int .u32 0, .slice none 0 0, .int .u64 0, .int .u8 0, .string ⟨#[]⟩, .int .u8 0, .int .i64 0, .int .u64 0, .string ⟨#[]⟩, .int .u32 0, .int .u32 0] 35))
    have hbz := below_a w1 (.cells #[.int .u32 0, .slice none 0 0, .int .u64 0, .int .u8 0, .string ⟨#[]⟩, .int .u8 0, .int .i64 0, .int .u64 0, .string ⟨#[]⟩, .int .u32 0, .int .u32 0] 35)
    have ss := Lib.hid (q1.out.kept hbz)
    have gg := Lib.hid (but_trans (but_trans hg0.out q2.out) (but_of (r := some g) hbz))
    have hr := Lib.hid (rowB hrow1.out hbz (Array.getElem?_eq_some_iff.1 hrow1.out).1)
    have hg3 := Lib.hid (show w.heap.size < w1.heap.size from Nat.lt_of_lt_of_le hWs.out q2.out.size)
    have hWz := Lib.hid (show w.heap.size ≤ w1.heap.size from Nat.le_of_lt hg3.out)
    clear hbz q1 q2 hrow1 hrow hX hg0
    generalize w1.heap.size = g3 at *
    generalize w1.alloc (.cells #[.int .u32 0, .slice none 0 0, .int .u64 0, .int .u8 0, .string ⟨#[]⟩, .int .u8 0, .int .i64 0, .int .u64 0, .string ⟨#[]⟩, .int .u32 0, .int .u32 0] 35) = wy at *
    have hgg3 := Lib.hid (show g ≠ g3 by have := hlt.out; have := hg3.out; omega)
    have hgw := Lib.hid (show g ≠ w.heap.size by have := hlt.out; omega)
    have hWg3 := Lib.hid (show W0.heap.size ≤ g3 by have := hbs.out; have := hg3.out; omega)
    have hne := Lib.hid (show w.heap.size ≠ g3 by have := hg3.out; omega)
    have hle := Lib.hid (Nat.le_of_lt hg3.out)
    have hM := Lib.hid (small_rd ss.out q4.out (by have := hll.out; have := q3.out; omega))
    go_upto_region 5 with (go_at_call 113; (with_reducible refine (hM.out).mono ?_); rintro e wz ⟨au, rfl, hau, l2, f2, ra, rb, z1c, z1d, z1e⟩; have hau := Lib.hid hau; have ra := Lib.hid ra; have rb := Lib.hid rb; have z1c := Lib.hid z1c; have z1d := Lib.hid z1d; have z1e := Lib.hid z1e; replace hl := Lib.hid (butRow rb.out hl.out hgg3.out); obtain ⟨⟨k0, k1, k2, k3, k4, k5, k6, k7, k8, k9, k10⟩, y0, y1, y2, y3, y4, y5, y6, y7, y8, y9, y10⟩ := eleven_of hl.out)
    have hlx := Lib.hid (show (wz.setCell ⟨g3, 0, none⟩ (.int .u32 (au : Int))).heap[g3]? = some (.cells #[.int .u32 (au : Int), .slice none 0 0, .int .u64 0, .int .u8 0, .string ⟨#[]⟩, .int .u8 0, .int .i64 0, .int .u64 0, .string ⟨#[]⟩, .int .u32 0, .int .u32 0] 35 (0, 0)) from (setCell_row hl.out 0 (.int .u32 (au : Int))))
    have sx := Lib.hid (ra.out.other hgg3.out hWg3.out 0 (.int .u32 (au : Int)))
    have gx := Lib.hid (but_set (but_trans gg.out rb.out) g3 0 (.int .u32 (au : Int)) hle.out)
    have rx := Lib.hid ((setCell_rows (w := wz) g3 0 (.int .u32 (au : Int)) w.heap.size hne.out).trans (butRow rb.out hr.out hgw.out))
    clear hl ss gg hr ra rb hM k0 y0 k1 y1 k2 y2 k3 y3 k4 y4 k5 y5 k6 y6 k7 y7 k8 y8 k9 y9 k10 y10
    have hl := hlx; have ss := sx; have gg := gx; have hr := rx; clear hlx sx gx rx
    generalize (wz.setCell ⟨g3, 0, none⟩ (.int .u32 (au : Int))) = wy1 at *
    have hlo := hl
    have hM := Lib.hid (ids_rd ss.out z1d.out (by have := hll.out; have := q3.out; have := z1c.out; omega))
    go_upto_region 6 with (go_at_call 114; (with_reducible refine (hM.out).mono ?_); rintro e wz ⟨ia, n, ic, F, rfl, hI, hFb, hn4, l3, f3, ra, rb, z2c, z2d, z2e⟩; have hI := Lib.hid hI; have hFb := Lib.hid hFb; have hn4 := Lib.hid hn4; have ra := Lib.hid ra; have rb := Lib.hid rb; have z2c := Lib.hid z2c; have z2d := Lib.hid z2d; have z2e := Lib.hid z2e; replace hl := Lib.hid (butRow rb.out hl.out hgg3.out); obtain ⟨⟨k0, k1, k2, k3, k4, k5, k6, k7, k8, k9, k10⟩, y0, y1, y2, y3, y4, y5, y6, y7, y8, y9, y10⟩ := eleven_of hl.out)
    have hgI := Lib.hid (show g < wy1.heap.size from ss.out.lt)
    have hg3I := Lib.hid (show g3 < wy1.heap.size from (Array.getElem?_eq_some_iff.1 hlo.out).1)
    have hWI := Lib.hid (show w.heap.size < wy1.heap.size from Nat.lt_trans hg3.out hg3I.out)
    have hlx := Lib.hid (show (wz.setCell ⟨g3, 1, none⟩ (.slice ia n ic)).heap[g3]? = some (.cells #[.int .u32 (au : Int), .slice ia n ic, .int .u64 0, .int .u8 0, .string ⟨#[]⟩, .int .u8 0, .int .i64 0, .int .u64 0, .string ⟨#[]⟩, .int .u32 0, .int .u32 0] 35 (0, 0)) from (setCell_row hl.out 1 (.slice ia n ic)))
    have sx := Lib.hid (ra.out.other hgg3.out hWg3.out 1 (.slice ia n ic))
    have gx := Lib.hid (but_set (but_trans gg.out rb.out) g3 1 (.slice ia n ic) hle.out)
    have rx := Lib.hid ((setCell_rows (w := wz) g3 1 (.slice ia n ic) w.heap.size hne.out).trans (butRow rb.out hr.out hgw.out))
    replace hI := Lib.hid (heldI_set (k := g3) (i := 1) (x := .slice ia n ic) hI.out hg3I.out)
    clear hl ss gg hr ra rb hM k0 y0 k1 y1 k2 y2 k3 y3 k4 y4 k5 y5 k6 y6 k7 y7 k8 y8 k9 y9 k10 y10
    have hl := hlx; have ss := sx; have gg := gx; have hr := rx; clear hlx sx gx rx
    generalize (wz.setCell ⟨g3, 1, none⟩ (.slice ia n ic)) = wy2 at *
    have hM := Lib.hid (number_rd ss.out z2d.out (by have := hll.out; have := q3.out; have := z1c.out; have := z2c.out; omega))
    go_upto_region 7 with (go_at_call 115; (with_reducible refine (hM.out).mono ?_); rintro e wz ⟨st, rfl, hst, l4, f4, ra, rb, z3c, z3d, z3e⟩; have hst := Lib.hid hst; have ra := Lib.hid ra; have rb := Lib.hid rb; have z3c := Lib.hid z3c; have z3d := Lib.hid z3d; have z3e := Lib.hid z3e; replace hl := Lib.hid (butRow rb.out hl.out hgg3.out); obtain ⟨⟨k0, k1, k2, k3, k4, k5, k6, k7, k8, k9, k10⟩, y0, y1, y2, y3, y4, y5, y6, y7, y8, y9, y10⟩ := eleven_of hl.out)
    replace hI := Lib.hid (heldI_but hI.out hgI.out rb.out)
    have hlx := Lib.hid (show (wz.setCell ⟨g3, 2, none⟩ (.int .u64 (st : Int))).heap[g3]? = some (.cells #[.int .u32 (au : Int), .slice ia n ic, .int .u64 (st : Int), .int .u8 0, .string ⟨#[]⟩, .int .u8 0, .int .i64 0, .int .u64 0, .string ⟨#[]⟩, .int .u32 0, .int .u32 0] 35 (0, 0)) from (setCell_row hl.out 2 (.int .u64 (st : Int))))
    have sx := Lib.hid (ra.out.other hgg3.out hWg3.out 2 (.int .u64 (st : Int)))
    have gx := Lib.hid (but_set (but_trans gg.out rb.out) g3 2 (.int .u64 (st : Int)) hle.out)
    have rx := Lib.hid ((setCell_rows (w := wz) g3 2 (.int .u64 (st : Int)) w.heap.size hne.out).trans (butRow rb.out hr.out hgw.out))
    replace hI := Lib.hid (heldI_set (k := g3) (i := 2) (x := .int .u64 (st : Int)) hI.out hg3I.out)
    clear hl ss gg hr ra rb hM k0 y0 k1 y1 k2 y2 k3 y3 k4 y4 k5 y5 k6 y6 k7 y7 k8 y8 k9 y9 k10 y10
    have hl := hlx; have ss := sx; have gg := gx; have hr := rx; clear hlx sx gx rx
    generalize (wz.setCell ⟨g3, 2, none⟩ (.int .u64 (st : Int))) = wy3 at *
    have hM := Lib.hid (act_rd ss.out z3d.out (by have := hll.out; have := q3.out; have := z1c.out; have := z2c.out; have := z3c.out; omega))
    go_upto_region 8 with (go_at_call 116; (with_reducible refine (hM.out).mono ?_); rintro e wz ⟨⟨ck, ckey, vk, vn, vb, vs⟩, rfl, hck, hckey, hcv, l5, f5, ra, rb, z4c, z4d, z4e⟩; dsimp only at *; have hck := Lib.hid hck; have hckey := Lib.hid hckey; have hcv := Lib.hid hcv; have ra := Lib.hid ra; have rb := Lib.hid rb; have z4c := Lib.hid z4c; have z4d := Lib.hid z4d; have z4e := Lib.hid z4e; replace hl := Lib.hid (butRow rb.out hl.out hgg3.out); obtain ⟨⟨k0, k1, k2, k3, k4, k5, k6, k7, k8, k9, k10⟩, y0, y1, y2, y3, y4, y5, y6, y7, y8, y9, y10⟩ := eleven_of hl.out)
    replace hI := Lib.hid (heldI_but hI.out hgI.out rb.out)
    have hlx := Lib.hid (show ((((((wz.setCell ⟨g3, 3, none⟩ (.int .u8 ck)).setCell ⟨g3, 4, none⟩ (.string ckey)).setCell ⟨g3, 5, none⟩ (.int .u8 vk)).setCell ⟨g3, 6, none⟩ (.int .i64 vn)).setCell ⟨g3, 7, none⟩ (.int .u64 (vb : Int))).setCell ⟨g3, 8, none⟩ (.string vs)).heap[g3]? = some (.cells #[.int .u32 (au : Int), .slice ia n ic, .int .u64 (st : Int), .int .u8 ck, .string ckey, .int .u8 vk, .int .i64 vn, .int .u64 (vb : Int), .string vs, .int .u32 0, .int .u32 0] 35 (0, 0)) from (setCell_row (setCell_row (setCell_row (setCell_row (setCell_row (setCell_row hl.out 3 (.int .u8 ck)) 4 (.string ckey)) 5 (.int .u8 vk)) 6 (.int .i64 vn)) 7 (.int .u64 (vb : Int))) 8 (.string vs)))
    have sx := Lib.hid ((((((ra.out.other hgg3.out hWg3.out 3 (.int .u8 ck)).other hgg3.out hWg3.out 4 (.string ckey)).other hgg3.out hWg3.out 5 (.int .u8 vk)).other hgg3.out hWg3.out 6 (.int .i64 vn)).other hgg3.out hWg3.out 7 (.int .u64 (vb : Int))).other hgg3.out hWg3.out 8 (.string vs))
    have gx := Lib.hid (but_set (but_set (but_set (but_set (but_set (but_set (but_trans gg.out rb.out) g3 3 (.int .u8 ck) hle.out) g3 4 (.string ckey) hle.out) g3 5 (.int .u8 vk) hle.out) g3 6 (.int .i64 vn) hle.out) g3 7 (.int .u64 (vb : Int)) hle.out) g3 8 (.string vs) hle.out)
    have rx := Lib.hid ((setCell_rows (w := (((((wz.setCell ⟨g3, 3, none⟩ (.int .u8 ck)).setCell ⟨g3, 4, none⟩ (.string ckey)).setCell ⟨g3, 5, none⟩ (.int .u8 vk)).setCell ⟨g3, 6, none⟩ (.int .i64 vn)).setCell ⟨g3, 7, none⟩ (.int .u64 (vb : Int)))) g3 8 (.string vs) w.heap.size hne.out).trans ((setCell_rows (w := ((((wz.setCell ⟨g3, 3, none⟩ (.int .u8 ck)).setCell ⟨g3, 4, none⟩ (.string ckey)).setCell ⟨g3, 5, none⟩ (.int .u8 vk)).setCell ⟨g3, 6, none⟩ (.int .i64 vn))) g3 7 (.int .u64 (vb : Int)) w.heap.size hne.out).trans ((setCell_rows (w := (((wz.setCell ⟨g3, 3, none⟩ (.int .u8 ck)).setCell ⟨g3, 4, none⟩ (.string ckey)).setCell ⟨g3, 5, none⟩ (.int .u8 vk))) g3 6 (.int .i64 vn) w.heap.size hne.out).trans ((setCell_rows (w := ((wz.setCell ⟨g3, 3, none⟩ (.int .u8 ck)).setCell ⟨g3, 4, none⟩ (.string ckey))) g3 5 (.int .u8 vk) w.heap.size hne.out).trans ((setCell_rows (w := (wz.setCell ⟨g3, 3, none⟩ (.int .u8 ck))) g3 4 (.string ckey) w.heap.size hne.out).trans ((setCell_rows (w := wz) g3 3 (.int .u8 ck) w.heap.size hne.out).trans (butRow rb.out hr.out hgw.out)))))))
    replace hI := Lib.hid (heldI_set (k := g3) (i := 8) (x := .string vs) (heldI_set (k := g3) (i := 7) (x := .int .u64 (vb : Int)) (heldI_set (k := g3) (i := 6) (x := .int .i64 vn) (heldI_set (k := g3) (i := 5) (x := .int .u8 vk) (heldI_set (k := g3) (i := 4) (x := .string ckey) (heldI_set (k := g3) (i := 3) (x := .int .u8 ck) hI.out hg3I.out) hg3I.out) hg3I.out) hg3I.out) hg3I.out) hg3I.out)
    clear hl ss gg hr ra rb hM k0 y0 k1 y1 k2 y2 k3 y3 k4 y4 k5 y5 k6 y6 k7 y7 k8 y8 k9 y9 k10 y10
    have hl := hlx; have ss := sx; have gg := gx; have hr := rx; clear hlx sx gx rx
    generalize ((((((wz.setCell ⟨g3, 3, none⟩ (.int .u8 ck)).setCell ⟨g3, 4, none⟩ (.string ckey)).setCell ⟨g3, 5, none⟩ (.int .u8 vk)).setCell ⟨g3, 6, none⟩ (.int .i64 vn)).setCell ⟨g3, 7, none⟩ (.int .u64 (vb : Int))).setCell ⟨g3, 8, none⟩ (.string vs)) = wy4 at *
    have hM := Lib.hid (small_rd ss.out z4d.out (by have := hll.out; have := q3.out; have := z1c.out; have := z2c.out; have := z3c.out; have := z4c.out; omega))
    go_upto_region 9 with (go_at_call 113; (with_reducible refine (hM.out).mono ?_); rintro e wz ⟨ee, rfl, hee, l6, f6, ra, rb, z5c, z5d, z5e⟩; have hee := Lib.hid hee; have ra := Lib.hid ra; have rb := Lib.hid rb; have z5c := Lib.hid z5c; have z5d := Lib.hid z5d; have z5e := Lib.hid z5e; replace hl := Lib.hid (butRow rb.out hl.out hgg3.out); obtain ⟨⟨k0, k1, k2, k3, k4, k5, k6, k7, k8, k9, k10⟩, y0, y1, y2, y3, y4, y5, y6, y7, y8, y9, y10⟩ := eleven_of hl.out)
    replace hI := Lib.hid (heldI_but hI.out hgI.out rb.out)
    have hlx := Lib.hid (show (wz.setCell ⟨g3, 9, none⟩ (.int .u32 (ee : Int))).heap[g3]? = some (.cells #[.int .u32 (au : Int), .slice ia n ic, .int .u64 (st : Int), .int .u8 ck, .string ckey, .int .u8 vk, .int .i64 vn, .int .u64 (vb : Int), .string vs, .int .u32 (ee : Int), .int .u32 0] 35 (0, 0)) from (setCell_row hl.out 9 (.int .u32 (ee : Int))))
    have sx := Lib.hid (ra.out.other hgg3.out hWg3.out 9 (.int .u32 (ee : Int)))
    have gx := Lib.hid (but_set (but_trans gg.out rb.out) g3 9 (.int .u32 (ee : Int)) hle.out)
    have rx := Lib.hid ((setCell_rows (w := wz) g3 9 (.int .u32 (ee : Int)) w.heap.size hne.out).trans (butRow rb.out hr.out hgw.out))
    replace hI := Lib.hid (heldI_set (k := g3) (i := 9) (x := .int .u32 (ee : Int)) hI.out hg3I.out)
    clear hl ss gg hr ra rb hM k0 y0 k1 y1 k2 y2 k3 y3 k4 y4 k5 y5 k6 y6 k7 y7 k8 y8 k9 y9 k10 y10
    have hl := hlx; have ss := sx; have gg := gx; have hr := rx; clear hlx sx gx rx
    generalize (wz.setCell ⟨g3, 9, none⟩ (.int .u32 (ee : Int))) = wy5 at *
    have hM := Lib.hid (small_rd ss.out z5d.out (by have := hll.out; have := q3.out; have := z1c.out; have := z2c.out; have := z3c.out; have := z4c.out; have := z5c.out; omega))
    go_upto_region 10 with (go_at_call 113; (with_reducible refine (hM.out).mono ?_); rintro e wz ⟨es, rfl, hes, l7, f7, ra, rb, z6c, z6d, z6e⟩; have hes := Lib.hid hes; have ra := Lib.hid ra; have rb := Lib.hid rb; have z6c := Lib.hid z6c; have z6d := Lib.hid z6d; have z6e := Lib.hid z6e; replace hl := Lib.hid (butRow rb.out hl.out hgg3.out); obtain ⟨⟨k0, k1, k2, k3, k4, k5, k6, k7, k8, k9, k10⟩, y0, y1, y2, y3, y4, y5, y6, y7, y8, y9, y10⟩ := eleven_of hl.out)
    replace hI := Lib.hid (heldI_but hI.out hgI.out rb.out)
    have hlx := Lib.hid (show (wz.setCell ⟨g3, 10, none⟩ (.int .u32 (es : Int))).heap[g3]? = some (.cells #[.int .u32 (au : Int), .slice ia n ic, .int .u64 (st : Int), .int .u8 ck, .string ckey, .int .u8 vk, .int .i64 vn, .int .u64 (vb : Int), .string vs, .int .u32 (ee : Int), .int .u32 (es : Int)] 35 (0, 0)) from (setCell_row hl.out 10 (.int .u32 (es : Int))))
    have sx := Lib.hid (ra.out.other hgg3.out hWg3.out 10 (.int .u32 (es : Int)))
    have gx := Lib.hid (but_set (but_trans gg.out rb.out) g3 10 (.int .u32 (es : Int)) hle.out)
    have rx := Lib.hid ((setCell_rows (w := wz) g3 10 (.int .u32 (es : Int)) w.heap.size hne.out).trans (butRow rb.out hr.out hgw.out))
    replace hI := Lib.hid (heldI_set (k := g3) (i := 10) (x := .int .u32 (es : Int)) hI.out hg3I.out)
    clear hl ss gg hr ra rb hM k0 y0 k1 y1 k2 y2 k3 y3 k4 y4 k5 y5 k6 y6 k7 y7 k8 y8 k9 y9 k10 y10
    have hl := hlx; have ss := sx; have gg := gx; have hr := rx; clear hlx sx gx rx
    generalize (wz.setCell ⟨g3, 10, none⟩ (.int .u32 (es : Int))) = wy6 at *
    have hE := Lib.hid (op_ends (c := ⟨ck, ckey, vk, vn, vb, vs⟩) q5.out hfx.out z1e.out z2e.out z3e.out z4e.out z5e.out z6e.out)
    have hR := Lib.hid (show RdOut W0 g w l fl (rOp l) (⟨au, n, F, st, ck, ckey, ⟨vk, vn, vb, vs⟩, ee, es⟩ : Od) wy6 from ⟨l7, f7, ss.out, gg.out, by have := q3.out; have := z1c.out; have := z2c.out; have := z3c.out; have := z4c.out; have := z5c.out; have := z6c.out; omega, z6d.out, hE.out⟩)
    clear q5 z1e z2e z3e z4e z5e z6e hE ss gg
    go_wp2_with (first
      | (refine wpList_load_row_g rfl 35 _ rfl g3 rfl 35 ((⟨au, n, F, st, ck, ckey, ⟨vk, vn, vb, vs⟩, ee, es⟩ : Od).c (.slice ia n ic)) (0, 0) _ hl.out Tryz.underlying35 rfl info_op ?_)
      | (refine wpList_store_row rfl 35 _ _ rfl w.heap.size ((⟨au, n, F, st, ck, ckey, ⟨vk, vn, vb, vs⟩, ee, es⟩ : Od).c (.slice ia n ic)) rfl rfl 35 _ hr.out info_op rfl (op_one ⟨au, n, F, st, ck, ckey, ⟨vk, vn, vb, vs⟩, ee, es⟩ ia n ic) ?_; have hr9 := Lib.hid (setRow_heap _ _ _ ((⟨au, n, F, st, ck, ckey, ⟨vk, vn, vb, vs⟩, ee, es⟩ : Od).c (.slice ia n ic)) _ _ hr.out); have hb9 := Lib.hid (below_setRow' (B := w.heap.size) (g := w.heap.size) (Below.refl _ wy6) (Nat.le_refl _) ((⟨au, n, F, st, ck, ckey, ⟨vk, vn, vb, vs⟩, ee, es⟩ : Od).c (.slice ia n ic)))))
    exact bodyPost_ret (results_cell_row rfl _ _ w.heap.size 35 _ _ _ rfl hr9.out Tryz.underlying35 rfl info_op) rfl ⟨⟨au, n, F, st, ck, ckey, ⟨vk, vn, vb, vs⟩, ee, es⟩, ia, ic, rfl, ⟨hau.out, hFb.out, Nat.le_trans hn4.out (by decide), hst.out, hck.out, Nat.le_trans hckey.out (by decide), hcv.out, hee.out, hes.out⟩, hn4.out, heldI_lower (heldI_setRow hI.out hWI.out _) (Nat.le_of_lt hWI.out), RdOut.low hR.out hb9.out hlt.out hbs.out⟩
  · have t1 : (x != 111) = true := by simpa using hx1
    obtain ⟨f1x, hfx0⟩ : ∃ f, f = true := ⟨_, rfl⟩
    have hfx := Lib.hid (show f1x = if x = 111 then f1 else true by rw [if_neg hx1]; exact hfx0)
    obtain ⟨_, _, a1, c1, _, hrg⟩ := q1.out
    have u1 : w1.cell? ⟨g, 1, none⟩ = some (.bool f1) := cell_of_row _ _ _ _ _ _ hrg
    have y1 := frozen_of_row w1 g 1 _ _ hrg
    clear hrg
    go_upto_region 3 with fail
    replace q1 := Lib.hid q1.out.fail
    replace q2 := Lib.hid (but_trans q2.out (but_cell w1 g 1 (.bool true)))
    replace hrow1 := Lib.hid ((setCell_rows (w := w1) g 1 (.bool true) w.heap.size (by have := hlt.out; omega)).trans hrow1.out)
    clear u1 y1
    obtain ⟨w0y, hw0⟩ : ∃ w0y, w0y = w1.setCell ⟨g, 1, none⟩ (.bool true) := ⟨_, rfl⟩
    rw [← hw0] at q1 q2 hrow1 ⊢
    rw [← hfx0] at q1
    clear hfx0 hw0
    go_upto_region 4 with fail
    have hl := Lib.hid (heap_alloc_new w0y (.cells #[.int .u32 0, .slice none 0 0, .int .u64 0, .int .u8 0, .string ⟨#[]⟩, .int .u8 0, .int .i64 0, .int .u64 0, .string ⟨#[]⟩, .int .u32 0, .int .u32 0] 35))
    have hbz := below_a w0y (.cells #[.int .u32 0, .slice none 0 0, .int .u64 0, .int .u8 0, .string ⟨#[]⟩, .int .u8 0, .int .i64 0, .int .u64 0, .string ⟨#[]⟩, .int .u32 0, .int .u32 0] 35)
    have ss := Lib.hid (q1.out.kept hbz)
    have gg := Lib.hid (but_trans (but_trans hg0.out q2.out) (but_of (r := some g) hbz))
    have hr := Lib.hid (rowB hrow1.out hbz (Array.getElem?_eq_some_iff.1 hrow1.out).1)
    have hg3 := Lib.hid (show w.heap.size < w0y.heap.size from Nat.lt_of_lt_of_le hWs.out q2.out.size)
    have hWz := Lib.hid (show w.heap.size ≤ w0y.heap.size from Nat.le_of_lt hg3.out)
    clear hbz q1 q2 hrow1 hrow hX hg0
    generalize w0y.heap.size = g3 at *
    generalize w0y.alloc (.cells #[.int .u32 0, .slice none 0 0, .int .u64 0, .int .u8 0, .string ⟨#[]⟩, .int .u8 0, .int .i64 0, .int .u64 0, .string ⟨#[]⟩, .int .u32 0, .int .u32 0] 35) = wy at *
    have hgg3 := Lib.hid (show g ≠ g3 by have := hlt.out; have := hg3.out; omega)
    have hgw := Lib.hid (show g ≠ w.heap.size by have := hlt.out; omega)
    have hWg3 := Lib.hid (show W0.heap.size ≤ g3 by have := hbs.out; have := hg3.out; omega)
    have hne := Lib.hid (show w.heap.size ≠ g3 by have := hg3.out; omega)
    have hle := Lib.hid (Nat.le_of_lt hg3.out)
    have hM := Lib.hid (small_rd ss.out q4.out (by have := hll.out; have := q3.out; omega))
    go_upto_region 5 with (go_at_call 113; (with_reducible refine (hM.out).mono ?_); rintro e wz ⟨au, rfl, hau, l2, f2, ra, rb, z1c, z1d, z1e⟩; have hau := Lib.hid hau; have ra := Lib.hid ra; have rb := Lib.hid rb; have z1c := Lib.hid z1c; have z1d := Lib.hid z1d; have z1e := Lib.hid z1e; replace hl := Lib.hid (butRow rb.out hl.out hgg3.out); obtain ⟨⟨k0, k1, k2, k3, k4, k5, k6, k7, k8, k9, k10⟩, y0, y1, y2, y3, y4, y5, y6, y7, y8, y9, y10⟩ := eleven_of hl.out)
    have hlx := Lib.hid (show (wz.setCell ⟨g3, 0, none⟩ (.int .u32 (au : Int))).heap[g3]? = some (.cells #[.int .u32 (au : Int), .slice none 0 0, .int .u64 0, .int .u8 0, .string ⟨#[]⟩, .int .u8 0, .int .i64 0, .int .u64 0, .string ⟨#[]⟩, .int .u32 0, .int .u32 0] 35 (0, 0)) from (setCell_row hl.out 0 (.int .u32 (au : Int))))
    have sx := Lib.hid (ra.out.other hgg3.out hWg3.out 0 (.int .u32 (au : Int)))
    have gx := Lib.hid (but_set (but_trans gg.out rb.out) g3 0 (.int .u32 (au : Int)) hle.out)
    have rx := Lib.hid ((setCell_rows (w := wz) g3 0 (.int .u32 (au : Int)) w.heap.size hne.out).trans (butRow rb.out hr.out hgw.out))
    clear hl ss gg hr ra rb hM k0 y0 k1 y1 k2 y2 k3 y3 k4 y4 k5 y5 k6 y6 k7 y7 k8 y8 k9 y9 k10 y10
    have hl := hlx; have ss := sx; have gg := gx; have hr := rx; clear hlx sx gx rx
    generalize (wz.setCell ⟨g3, 0, none⟩ (.int .u32 (au : Int))) = wy1 at *
    have hlo := hl
    have hM := Lib.hid (ids_rd ss.out z1d.out (by have := hll.out; have := q3.out; have := z1c.out; omega))
    go_upto_region 6 with (go_at_call 114; (with_reducible refine (hM.out).mono ?_); rintro e wz ⟨ia, n, ic, F, rfl, hI, hFb, hn4, l3, f3, ra, rb, z2c, z2d, z2e⟩; have hI := Lib.hid hI; have hFb := Lib.hid hFb; have hn4 := Lib.hid hn4; have ra := Lib.hid ra; have rb := Lib.hid rb; have z2c := Lib.hid z2c; have z2d := Lib.hid z2d; have z2e := Lib.hid z2e; replace hl := Lib.hid (butRow rb.out hl.out hgg3.out); obtain ⟨⟨k0, k1, k2, k3, k4, k5, k6, k7, k8, k9, k10⟩, y0, y1, y2, y3, y4, y5, y6, y7, y8, y9, y10⟩ := eleven_of hl.out)
    have hgI := Lib.hid (show g < wy1.heap.size from ss.out.lt)
    have hg3I := Lib.hid (show g3 < wy1.heap.size from (Array.getElem?_eq_some_iff.1 hlo.out).1)
    have hWI := Lib.hid (show w.heap.size < wy1.heap.size from Nat.lt_trans hg3.out hg3I.out)
    have hlx := Lib.hid (show (wz.setCell ⟨g3, 1, none⟩ (.slice ia n ic)).heap[g3]? = some (.cells #[.int .u32 (au : Int), .slice ia n ic, .int .u64 0, .int .u8 0, .string ⟨#[]⟩, .int .u8 0, .int .i64 0, .int .u64 0, .string ⟨#[]⟩, .int .u32 0, .int .u32 0] 35 (0, 0)) from (setCell_row hl.out 1 (.slice ia n ic)))
    have sx := Lib.hid (ra.out.other hgg3.out hWg3.out 1 (.slice ia n ic))
    have gx := Lib.hid (but_set (but_trans gg.out rb.out) g3 1 (.slice ia n ic) hle.out)
    have rx := Lib.hid ((setCell_rows (w := wz) g3 1 (.slice ia n ic) w.heap.size hne.out).trans (butRow rb.out hr.out hgw.out))
    replace hI := Lib.hid (heldI_set (k := g3) (i := 1) (x := .slice ia n ic) hI.out hg3I.out)
    clear hl ss gg hr ra rb hM k0 y0 k1 y1 k2 y2 k3 y3 k4 y4 k5 y5 k6 y6 k7 y7 k8 y8 k9 y9 k10 y10
    have hl := hlx; have ss := sx; have gg := gx; have hr := rx; clear hlx sx gx rx
    generalize (wz.setCell ⟨g3, 1, none⟩ (.slice ia n ic)) = wy2 at *
    have hM := Lib.hid (number_rd ss.out z2d.out (by have := hll.out; have := q3.out; have := z1c.out; have := z2c.out; omega))
    go_upto_region 7 with (go_at_call 115; (with_reducible refine (hM.out).mono ?_); rintro e wz ⟨st, rfl, hst, l4, f4, ra, rb, z3c, z3d, z3e⟩; have hst := Lib.hid hst; have ra := Lib.hid ra; have rb := Lib.hid rb; have z3c := Lib.hid z3c; have z3d := Lib.hid z3d; have z3e := Lib.hid z3e; replace hl := Lib.hid (butRow rb.out hl.out hgg3.out); obtain ⟨⟨k0, k1, k2, k3, k4, k5, k6, k7, k8, k9, k10⟩, y0, y1, y2, y3, y4, y5, y6, y7, y8, y9, y10⟩ := eleven_of hl.out)
    replace hI := Lib.hid (heldI_but hI.out hgI.out rb.out)
    have hlx := Lib.hid (show (wz.setCell ⟨g3, 2, none⟩ (.int .u64 (st : Int))).heap[g3]? = some (.cells #[.int .u32 (au : Int), .slice ia n ic, .int .u64 (st : Int), .int .u8 0, .string ⟨#[]⟩, .int .u8 0, .int .i64 0, .int .u64 0, .string ⟨#[]⟩, .int .u32 0, .int .u32 0] 35 (0, 0)) from (setCell_row hl.out 2 (.int .u64 (st : Int))))
    have sx := Lib.hid (ra.out.other hgg3.out hWg3.out 2 (.int .u64 (st : Int)))
    have gx := Lib.hid (but_set (but_trans gg.out rb.out) g3 2 (.int .u64 (st : Int)) hle.out)
    have rx := Lib.hid ((setCell_rows (w := wz) g3 2 (.int .u64 (st : Int)) w.heap.size hne.out).trans (butRow rb.out hr.out hgw.out))
    replace hI := Lib.hid (heldI_set (k := g3) (i := 2) (x := .int .u64 (st : Int)) hI.out hg3I.out)
    clear hl ss gg hr ra rb hM k0 y0 k1 y1 k2 y2 k3 y3 k4 y4 k5 y5 k6 y6 k7 y7 k8 y8 k9 y9 k10 y10
    have hl := hlx; have ss := sx; have gg := gx; have hr := rx; clear hlx sx gx rx
    generalize (wz.setCell ⟨g3, 2, none⟩ (.int .u64 (st : Int))) = wy3 at *
    have hM := Lib.hid (act_rd ss.out z3d.out (by have := hll.out; have := q3.out; have := z1c.out; have := z2c.out; have := z3c.out; omega))
    go_upto_region 8 with (go_at_call 116; (with_reducible refine (hM.out).mono ?_); rintro e wz ⟨⟨ck, ckey, vk, vn, vb, vs⟩, rfl, hck, hckey, hcv, l5, f5, ra, rb, z4c, z4d, z4e⟩; dsimp only at *; have hck := Lib.hid hck; have hckey := Lib.hid hckey; have hcv := Lib.hid hcv; have ra := Lib.hid ra; have rb := Lib.hid rb; have z4c := Lib.hid z4c; have z4d := Lib.hid z4d; have z4e := Lib.hid z4e; replace hl := Lib.hid (butRow rb.out hl.out hgg3.out); obtain ⟨⟨k0, k1, k2, k3, k4, k5, k6, k7, k8, k9, k10⟩, y0, y1, y2, y3, y4, y5, y6, y7, y8, y9, y10⟩ := eleven_of hl.out)
    replace hI := Lib.hid (heldI_but hI.out hgI.out rb.out)
    have hlx := Lib.hid (show ((((((wz.setCell ⟨g3, 3, none⟩ (.int .u8 ck)).setCell ⟨g3, 4, none⟩ (.string ckey)).setCell ⟨g3, 5, none⟩ (.int .u8 vk)).setCell ⟨g3, 6, none⟩ (.int .i64 vn)).setCell ⟨g3, 7, none⟩ (.int .u64 (vb : Int))).setCell ⟨g3, 8, none⟩ (.string vs)).heap[g3]? = some (.cells #[.int .u32 (au : Int), .slice ia n ic, .int .u64 (st : Int), .int .u8 ck, .string ckey, .int .u8 vk, .int .i64 vn, .int .u64 (vb : Int), .string vs, .int .u32 0, .int .u32 0] 35 (0, 0)) from (setCell_row (setCell_row (setCell_row (setCell_row (setCell_row (setCell_row hl.out 3 (.int .u8 ck)) 4 (.string ckey)) 5 (.int .u8 vk)) 6 (.int .i64 vn)) 7 (.int .u64 (vb : Int))) 8 (.string vs)))
    have sx := Lib.hid ((((((ra.out.other hgg3.out hWg3.out 3 (.int .u8 ck)).other hgg3.out hWg3.out 4 (.string ckey)).other hgg3.out hWg3.out 5 (.int .u8 vk)).other hgg3.out hWg3.out 6 (.int .i64 vn)).other hgg3.out hWg3.out 7 (.int .u64 (vb : Int))).other hgg3.out hWg3.out 8 (.string vs))
    have gx := Lib.hid (but_set (but_set (but_set (but_set (but_set (but_set (but_trans gg.out rb.out) g3 3 (.int .u8 ck) hle.out) g3 4 (.string ckey) hle.out) g3 5 (.int .u8 vk) hle.out) g3 6 (.int .i64 vn) hle.out) g3 7 (.int .u64 (vb : Int)) hle.out) g3 8 (.string vs) hle.out)
    have rx := Lib.hid ((setCell_rows (w := (((((wz.setCell ⟨g3, 3, none⟩ (.int .u8 ck)).setCell ⟨g3, 4, none⟩ (.string ckey)).setCell ⟨g3, 5, none⟩ (.int .u8 vk)).setCell ⟨g3, 6, none⟩ (.int .i64 vn)).setCell ⟨g3, 7, none⟩ (.int .u64 (vb : Int)))) g3 8 (.string vs) w.heap.size hne.out).trans ((setCell_rows (w := ((((wz.setCell ⟨g3, 3, none⟩ (.int .u8 ck)).setCell ⟨g3, 4, none⟩ (.string ckey)).setCell ⟨g3, 5, none⟩ (.int .u8 vk)).setCell ⟨g3, 6, none⟩ (.int .i64 vn))) g3 7 (.int .u64 (vb : Int)) w.heap.size hne.out).trans ((setCell_rows (w := (((wz.setCell ⟨g3, 3, none⟩ (.int .u8 ck)).setCell ⟨g3, 4, none⟩ (.string ckey)).setCell ⟨g3, 5, none⟩ (.int .u8 vk))) g3 6 (.int .i64 vn) w.heap.size hne.out).trans ((setCell_rows (w := ((wz.setCell ⟨g3, 3, none⟩ (.int .u8 ck)).setCell ⟨g3, 4, none⟩ (.string ckey))) g3 5 (.int .u8 vk) w.heap.size hne.out).trans ((setCell_rows (w := (wz.setCell ⟨g3, 3, none⟩ (.int .u8 ck))) g3 4 (.string ckey) w.heap.size hne.out).trans ((setCell_rows (w := wz) g3 3 (.int .u8 ck) w.heap.size hne.out).trans (butRow rb.out hr.out hgw.out)))))))
    replace hI := Lib.hid (heldI_set (k := g3) (i := 8) (x := .string vs) (heldI_set (k := g3) (i := 7) (x := .int .u64 (vb : Int)) (heldI_set (k := g3) (i := 6) (x := .int .i64 vn) (heldI_set (k := g3) (i := 5) (x := .int .u8 vk) (heldI_set (k := g3) (i := 4) (x := .string ckey) (heldI_set (k := g3) (i := 3) (x := .int .u8 ck) hI.out hg3I.out) hg3I.out) hg3I.out) hg3I.out) hg3I.out) hg3I.out)
    clear hl ss gg hr ra rb hM k0 y0 k1 y1 k2 y2 k3 y3 k4 y4 k5 y5 k6 y6 k7 y7 k8 y8 k9 y9 k10 y10
    have hl := hlx; have ss := sx; have gg := gx; have hr := rx; clear hlx sx gx rx
    generalize ((((((wz.setCell ⟨g3, 3, none⟩ (.int .u8 ck)).setCell ⟨g3, 4, none⟩ (.string ckey)).setCell ⟨g3, 5, none⟩ (.int .u8 vk)).setCell ⟨g3, 6, none⟩ (.int .i64 vn)).setCell ⟨g3, 7, none⟩ (.int .u64 (vb : Int))).setCell ⟨g3, 8, none⟩ (.string vs)) = wy4 at *
    have hM := Lib.hid (small_rd ss.out z4d.out (by have := hll.out; have := q3.out; have := z1c.out; have := z2c.out; have := z3c.out; have := z4c.out; omega))
    go_upto_region 9 with (go_at_call 113; (with_reducible refine (hM.out).mono ?_); rintro e wz ⟨ee, rfl, hee, l6, f6, ra, rb, z5c, z5d, z5e⟩; have hee := Lib.hid hee; have ra := Lib.hid ra; have rb := Lib.hid rb; have z5c := Lib.hid z5c; have z5d := Lib.hid z5d; have z5e := Lib.hid z5e; replace hl := Lib.hid (butRow rb.out hl.out hgg3.out); obtain ⟨⟨k0, k1, k2, k3, k4, k5, k6, k7, k8, k9, k10⟩, y0, y1, y2, y3, y4, y5, y6, y7, y8, y9, y10⟩ := eleven_of hl.out)
    replace hI := Lib.hid (heldI_but hI.out hgI.out rb.out)
    have hlx := Lib.hid (show (wz.setCell ⟨g3, 9, none⟩ (.int .u32 (ee : Int))).heap[g3]? = some (.cells #[.int .u32 (au : Int), .slice ia n ic, .int .u64 (st : Int), .int .u8 ck, .string ckey, .int .u8 vk, .int .i64 vn, .int .u64 (vb : Int), .string vs, .int .u32 (ee : Int), .int .u32 0] 35 (0, 0)) from (setCell_row hl.out 9 (.int .u32 (ee : Int))))
    have sx := Lib.hid (ra.out.other hgg3.out hWg3.out 9 (.int .u32 (ee : Int)))
    have gx := Lib.hid (but_set (but_trans gg.out rb.out) g3 9 (.int .u32 (ee : Int)) hle.out)
    have rx := Lib.hid ((setCell_rows (w := wz) g3 9 (.int .u32 (ee : Int)) w.heap.size hne.out).trans (butRow rb.out hr.out hgw.out))
    replace hI := Lib.hid (heldI_set (k := g3) (i := 9) (x := .int .u32 (ee : Int)) hI.out hg3I.out)
    clear hl ss gg hr ra rb hM k0 y0 k1 y1 k2 y2 k3 y3 k4 y4 k5 y5 k6 y6 k7 y7 k8 y8 k9 y9 k10 y10
    have hl := hlx; have ss := sx; have gg := gx; have hr := rx; clear hlx sx gx rx
    generalize (wz.setCell ⟨g3, 9, none⟩ (.int .u32 (ee : Int))) = wy5 at *
    have hM := Lib.hid (small_rd ss.out z5d.out (by have := hll.out; have := q3.out; have := z1c.out; have := z2c.out; have := z3c.out; have := z4c.out; have := z5c.out; omega))
    go_upto_region 10 with (go_at_call 113; (with_reducible refine (hM.out).mono ?_); rintro e wz ⟨es, rfl, hes, l7, f7, ra, rb, z6c, z6d, z6e⟩; have hes := Lib.hid hes; have ra := Lib.hid ra; have rb := Lib.hid rb; have z6c := Lib.hid z6c; have z6d := Lib.hid z6d; have z6e := Lib.hid z6e; replace hl := Lib.hid (butRow rb.out hl.out hgg3.out); obtain ⟨⟨k0, k1, k2, k3, k4, k5, k6, k7, k8, k9, k10⟩, y0, y1, y2, y3, y4, y5, y6, y7, y8, y9, y10⟩ := eleven_of hl.out)
    replace hI := Lib.hid (heldI_but hI.out hgI.out rb.out)
    have hlx := Lib.hid (show (wz.setCell ⟨g3, 10, none⟩ (.int .u32 (es : Int))).heap[g3]? = some (.cells #[.int .u32 (au : Int), .slice ia n ic, .int .u64 (st : Int), .int .u8 ck, .string ckey, .int .u8 vk, .int .i64 vn, .int .u64 (vb : Int), .string vs, .int .u32 (ee : Int), .int .u32 (es : Int)] 35 (0, 0)) from (setCell_row hl.out 10 (.int .u32 (es : Int))))
    have sx := Lib.hid (ra.out.other hgg3.out hWg3.out 10 (.int .u32 (es : Int)))
    have gx := Lib.hid (but_set (but_trans gg.out rb.out) g3 10 (.int .u32 (es : Int)) hle.out)
    have rx := Lib.hid ((setCell_rows (w := wz) g3 10 (.int .u32 (es : Int)) w.heap.size hne.out).trans (butRow rb.out hr.out hgw.out))
    replace hI := Lib.hid (heldI_set (k := g3) (i := 10) (x := .int .u32 (es : Int)) hI.out hg3I.out)
    clear hl ss gg hr ra rb hM k0 y0 k1 y1 k2 y2 k3 y3 k4 y4 k5 y5 k6 y6 k7 y7 k8 y8 k9 y9 k10 y10
    have hl := hlx; have ss := sx; have gg := gx; have hr := rx; clear hlx sx gx rx
    generalize (wz.setCell ⟨g3, 10, none⟩ (.int .u32 (es : Int))) = wy6 at *
    have hE := Lib.hid (op_ends (c := ⟨ck, ckey, vk, vn, vb, vs⟩) q5.out hfx.out z1e.out z2e.out z3e.out z4e.out z5e.out z6e.out)
    have hR := Lib.hid (show RdOut W0 g w l fl (rOp l) (⟨au, n, F, st, ck, ckey, ⟨vk, vn, vb, vs⟩, ee, es⟩ : Od) wy6 from ⟨l7, f7, ss.out, gg.out, by have := q3.out; have := z1c.out; have := z2c.out; have := z3c.out; have := z4c.out; have := z5c.out; have := z6c.out; omega, z6d.out, hE.out⟩)
    clear q5 z1e z2e z3e z4e z5e z6e hE ss gg
    go_wp2_with (first
      | (refine wpList_load_row_g rfl 35 _ rfl g3 rfl 35 ((⟨au, n, F, st, ck, ckey, ⟨vk, vn, vb, vs⟩, ee, es⟩ : Od).c (.slice ia n ic)) (0, 0) _ hl.out Tryz.underlying35 rfl info_op ?_)
      | (refine wpList_store_row rfl 35 _ _ rfl w.heap.size ((⟨au, n, F, st, ck, ckey, ⟨vk, vn, vb, vs⟩, ee, es⟩ : Od).c (.slice ia n ic)) rfl rfl 35 _ hr.out info_op rfl (op_one ⟨au, n, F, st, ck, ckey, ⟨vk, vn, vb, vs⟩, ee, es⟩ ia n ic) ?_; have hr9 := Lib.hid (setRow_heap _ _ _ ((⟨au, n, F, st, ck, ckey, ⟨vk, vn, vb, vs⟩, ee, es⟩ : Od).c (.slice ia n ic)) _ _ hr.out); have hb9 := Lib.hid (below_setRow' (B := w.heap.size) (g := w.heap.size) (Below.refl _ wy6) (Nat.le_refl _) ((⟨au, n, F, st, ck, ckey, ⟨vk, vn, vb, vs⟩, ee, es⟩ : Od).c (.slice ia n ic)))))
    exact bodyPost_ret (results_cell_row rfl _ _ w.heap.size 35 _ _ _ rfl hr9.out Tryz.underlying35 rfl info_op) rfl ⟨⟨au, n, F, st, ck, ckey, ⟨vk, vn, vb, vs⟩, ee, es⟩, ia, ic, rfl, ⟨hau.out, hFb.out, Nat.le_trans hn4.out (by decide), hst.out, hck.out, Nat.le_trans hckey.out (by decide), hcv.out, hee.out, hes.out⟩, hn4.out, heldI_lower (heldI_setRow hI.out hWI.out _) (Nat.le_of_lt hWI.out), RdOut.low hR.out hb9.out hlt.out hbs.out⟩
end Go.Proofs.YtnknkiiikeefgaaGreatDoor.wir.val

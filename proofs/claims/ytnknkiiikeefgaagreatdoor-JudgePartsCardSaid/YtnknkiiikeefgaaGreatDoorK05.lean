/- Layer 6: the reader of operations: acts. -/
import Derived.Test.YtnknkiiikeefgaaGreatDoorK04
namespace Go.Proofs.YtnknkiiikeefgaaGreatDoor.wir.val
open Go.RowKit Go.YtnknkiiikeefgaaGreatDoor
set_option linter.unusedVariables false
theorem fit_zero : Va.fit ⟨0, 0, 0, ⟨#[]⟩⟩ := ⟨by decide, by decide, by decide, by decide⟩
theorem nil_size : (ByteArray.mk #[]).size ≤ 20 := by decide
theorem rNext_some {l l1 : List Int} {x : Int} (h : rNext l = some (x, l1)) : ¬ l.length = 0 ∧ ith l 0 = x ∧ l.drop 1 = l1 := by
  unfold rNext at h
  by_cases h0 : l.length = 0
  · rw [if_pos h0] at h; cases h
  · rw [if_neg h0] at h
    obtain ⟨h1, h2⟩ := Prod.mk.inj (Option.some.inj h)
    exact ⟨h0, h1, h2⟩
theorem rNext_none {l : List Int} (h : rNext l = none) : l.length = 0 := by
  unfold rNext at h
  by_cases h0 : l.length = 0
  · exact h0
  · rw [if_neg h0] at h; cases h
/-- How a part of the reader ends. -/
abbrev Ends {α : Type} (fl : Bool) (r : Option (α × List Int)) (x : α) (l' : List Int) (fl' : Bool) : Prop := (fl' = true ∧ r = none) ∨ (fl' = fl ∧ r = some (x, l'))
theorem Ends.up {α : Type} {fl fl' : Bool} {r : Option (α × List Int)} {x : α} {l' : List Int} (h : Ends fl r x l' fl') (hf : fl = true) : fl' = true := by
  rcases h with h | h
  · exact h.1
  · exact h.1.trans hf
theorem St.other {W0 w : World} {g k : Nat} {l : List Int} {fl : Bool} (h : St W0 g w l fl) (hk : g ≠ k) (hW : W0.heap.size ≤ k) (i : Nat) (v : Value) : St W0 g (w.setCell ⟨k, i, none⟩ v) l fl := by
  obtain ⟨hb, hg0, a, c, hr, hrow⟩ := h
  exact ⟨hb.setCell hW _, hg0, a, c, hr, (setCell_rows k i v g hk).trans hrow⟩
theorem but_set {w w2 : World} {r : Option Nat} (h : w.grownBy w2 r) (k i : Nat) (v : Value) (hk : w.heap.size ≤ k) : w.grownBy (w2.setCell ⟨k, i, none⟩ v) r :=
  but_below h ((Below.refl _ _).setCell (p := ⟨k, i, none⟩) hk v)
theorem six_of {w : World} {g : Nat} {x0 x1 x2 x3 x4 x5 : Value} {T : TypeId} (h : w.heap[g]? = some (.cells #[x0, x1, x2, x3, x4, x5] T (0, 0))) :
    (w.cell? ⟨g, 0, none⟩ = some x0 ∧ w.cell? ⟨g, 1, none⟩ = some x1 ∧ w.cell? ⟨g, 2, none⟩ = some x2 ∧ w.cell? ⟨g, 3, none⟩ = some x3 ∧ w.cell? ⟨g, 4, none⟩ = some x4 ∧ w.cell? ⟨g, 5, none⟩ = some x5) ∧
    w.frozen? ⟨g, 0, none⟩ = false ∧ w.frozen? ⟨g, 1, none⟩ = false ∧ w.frozen? ⟨g, 2, none⟩ = false ∧ w.frozen? ⟨g, 3, none⟩ = false ∧ w.frozen? ⟨g, 4, none⟩ = false ∧ w.frozen? ⟨g, 5, none⟩ = false :=
  ⟨⟨cell_of_row _ _ _ _ _ _ h, cell_of_row _ _ _ _ _ _ h, cell_of_row _ _ _ _ _ _ h, cell_of_row _ _ _ _ _ _ h, cell_of_row _ _ _ _ _ _ h, cell_of_row _ _ _ _ _ _ h⟩, frozen_of_row _ _ _ _ _ h, frozen_of_row _ _ _ _ _ h, frozen_of_row _ _ _ _ _ h, frozen_of_row _ _ _ _ _ h, frozen_of_row _ _ _ _ _ h, frozen_of_row _ _ _ _ _ h⟩
theorem act_one (k n b : Int) (s t : ByteArray) (j : Int) : (#[Value.int .u8 k, .string s, .int .u8 j, .int .i64 n, .int .u64 b, .string t] : Array Value).all (·.oneCell') = true := by simp [Value.oneCell']
theorem act_ends1 {l l1 : List Int} {fl f1 : Bool} {x : Int} (q : Ends fl (rNext l) x l1 f1) (hx : x = 1) : Ends fl (rAct l) ⟨x, ⟨#[]⟩, ⟨0, 0, 0, ⟨#[]⟩⟩⟩ l1 f1 := by
  rcases q with ⟨h1, h2⟩ | ⟨h1, h2⟩
  · exact .inl ⟨h1, by unfold rAct; rw [if_pos (rNext_none h2)]⟩
  · obtain ⟨a1, a2, a3⟩ := rNext_some h2
    exact .inr ⟨h1, by unfold rAct; rw [if_neg a1, if_pos (a2.trans hx), a2, a3]⟩
theorem act_ends2 {l l1 l2 : List Int} {fl f1 f2 : Bool} {x : Int} {s : ByteArray} (q : Ends fl (rNext l) x l1 f1) (r : Ends f1 (rKey l1) s l2 f2) (hx : ¬ x = 1) (hx4 : ¬ x = 4) : Ends fl (rAct l) ⟨x, s, ⟨0, 0, 0, ⟨#[]⟩⟩⟩ l2 f2 := by
  rcases q with ⟨h1, h2⟩ | ⟨h1, h2⟩
  · exact .inl ⟨r.up h1, by unfold rAct; rw [if_pos (rNext_none h2)]⟩
  · obtain ⟨a1, a2, a3⟩ := rNext_some h2
    rcases r with ⟨r1, r2⟩ | ⟨r1, r2⟩
    · exact .inl ⟨r1, by unfold rAct; rw [if_neg a1, a2, a3, if_neg hx, r2]⟩
    · exact .inr ⟨r1.trans h1, by unfold rAct; rw [if_neg a1, a2, a3, if_neg hx, r2]; simp only; rw [if_neg hx4]⟩
theorem act_ends3 {l l1 l2 l3 : List Int} {fl f1 f2 f3 : Bool} {x : Int} {s : ByteArray} {v : Va} (q : Ends fl (rNext l) x l1 f1) (r : Ends f1 (rKey l1) s l2 f2) (t : Ends f2 (rVal l2) v l3 f3) (hx : ¬ x = 1) (hx4 : x = 4) : Ends fl (rAct l) ⟨x, s, v⟩ l3 f3 := by
  rcases q with ⟨h1, h2⟩ | ⟨h1, h2⟩
  · exact .inl ⟨t.up (r.up h1), by unfold rAct; rw [if_pos (rNext_none h2)]⟩
  · obtain ⟨a1, a2, a3⟩ := rNext_some h2
    rcases r with ⟨r1, r2⟩ | ⟨r1, r2⟩
    · exact .inl ⟨t.up r1, by unfold rAct; rw [if_neg a1, a2, a3, if_neg hx, r2]⟩
    · rcases t with ⟨t1, t2⟩ | ⟨t1, t2⟩
      · exact .inl ⟨t1, by unfold rAct; rw [if_neg a1, a2, a3, if_neg hx, r2]; simp only; rw [if_pos hx4, t2]⟩
      · exact .inr ⟨t1.trans (r1.trans h1), by unfold rAct; rw [if_neg a1, a2, a3, if_neg hx, r2]; simp only; rw [if_pos hx4, t2]⟩
set_option maxHeartbeats 2000000 in
set_option maxRecDepth 100000 in
theorem act_rd {W0 w : World} {g : Nat} {l : List Int} {fl : Bool} (h : St W0 g w l fl) (hl : Bytes l) (hlm : l.length ≤ 1000000) :
    Calls Tryz.prog 116 #[.pointer (some ⟨g, 0, none⟩)] w fun e w' => ∃ c : Ac, e = .returned (aA c.k c.key c.v) ∧ (0 ≤ c.k ∧ c.k < 256) ∧ c.key.size ≤ 20 ∧ c.v.fit ∧ RdOut W0 g w l fl (rAct l) c w' := by
  have hlt := Lib.hid h.lt
  have hB0 := below_a w (.cells (aC 0 ⟨#[]⟩ ⟨0, 0, 0, ⟨#[]⟩⟩) 31)
  have hrow := Lib.hid (heap_alloc_new w (.cells (aC 0 ⟨#[]⟩ ⟨0, 0, 0, ⟨#[]⟩⟩) 31))
  obtain ⟨W, hW⟩ : ∃ W, W = w.alloc (.cells (aC 0 ⟨#[]⟩ ⟨0, 0, 0, ⟨#[]⟩⟩) 31) := ⟨_, rfl⟩
  rw [← hW] at hrow hB0
  have hX := Lib.hid (next_any (h.kept hB0) hl hlm)
  have hWs := Lib.hid (show w.heap.size < W.heap.size from (Array.getElem?_eq_some_iff.1 hrow.out).1)
  have hbs := Lib.hid h.b.size
  have hg0 := Lib.hid (but_of (r := some g) hB0)
  have hll := Lib.hid hlm
  clear h hl hB0 hlm
  go_enter Tryz.func116, Tryz.ntmps116
  go_upto_region 1 with fail
  change Code.wp _ _ _ _ (w.alloc (.cells (aC 0 ⟨#[]⟩ ⟨0, 0, 0, ⟨#[]⟩⟩) 31))
  rw [← hW]
  clear hW
  go_upto_region 2 with (go_at_call 112; (with_reducible refine (hX.out).mono ?_); rintro e w1 ⟨x, rfl, hx, l1, f1, q1, q2, q3, q4, q5⟩; have hx := Lib.hid hx; have q1 := Lib.hid q1; have q2 := Lib.hid q2; have q3 := Lib.hid q3; have q4 := Lib.hid q4; have q5 := Lib.hid q5)
  have hrow1 := Lib.hid (butRow q2.out hrow.out (by have := hlt.out; omega))
  have hl1 := Lib.hid (heap_alloc_new w1 (.cells (aC x ⟨#[]⟩ ⟨0, 0, 0, ⟨#[]⟩⟩) 31))
  have hb2 := below_a w1 (.cells (aC x ⟨#[]⟩ ⟨0, 0, 0, ⟨#[]⟩⟩) 31)
  have s2 := Lib.hid (q1.out.kept hb2)
  have g2 := Lib.hid (but_trans (but_trans hg0.out q2.out) (but_of (r := some g) hb2))
  have hrow2 := Lib.hid (rowB hrow1.out hb2 (Array.getElem?_eq_some_iff.1 hrow1.out).1)
  have hg3 := Lib.hid (show w.heap.size < w1.heap.size from Nat.lt_of_lt_of_le hWs.out q2.out.size)
  clear hb2 q1 q2 hrow1 hrow hX hg0
  change Code.wp _ _ _ _ (w1.alloc (.cells (aC x ⟨#[]⟩ ⟨0, 0, 0, ⟨#[]⟩⟩) 31))
  generalize w1.heap.size = g3 at *
  generalize w1.alloc (.cells (aC x ⟨#[]⟩ ⟨0, 0, 0, ⟨#[]⟩⟩) 31) = w2 at *
  have hgg3 := Lib.hid (show g ≠ g3 by have := hlt.out; have := hg3.out; omega)
  have hgw := Lib.hid (show g ≠ w.heap.size by have := hlt.out; omega)
  have hWg3 := Lib.hid (show W0.heap.size ≤ g3 by have := hbs.out; have := hg3.out; omega)
  obtain ⟨k0, k1, k2, k3, k4, k5⟩ := (six_of hl1.out).1
  by_cases hk1 : x = 1
  · have t1 : (x != 1) = false := by rw [hk1]; rfl
    have t4 : (x == 4) = false := by rw [hk1]; rfl
    have hE := Lib.hid (act_ends1 q5.out hk1)
    have hR := Lib.hid (show RdOut W0 g w l fl (rAct l) ⟨x, ⟨#[]⟩, ⟨0, 0, 0, ⟨#[]⟩⟩⟩ w2 from ⟨l1, f1, s2.out, g2.out, q3.out, q4.out, hE.out⟩)
    clear q5 hk1 hE
    go_wp2_with (first
      | (refine wpList_load_row_g rfl 31 _ rfl g3 rfl 31 (aC x ⟨#[]⟩ ⟨0, 0, 0, ⟨#[]⟩⟩) (0, 0) _ hl1.out Tryz.underlying31 rfl info_act ?_)
      | (refine storeOver _ w.heap.size _ rfl 31 _ _ rfl (aC x ⟨#[]⟩ ⟨0, 0, 0, ⟨#[]⟩⟩) 31 hrow2.out rfl rfl info_act rfl (act_one _ _ _ _ _ _) ?_; intro w9 hr9 hb9; have hr9' := Lib.hid hr9; have hb9' := Lib.hid hb9; clear hr9 hb9))
    exact bodyPost_ret (results_cell_row rfl _ _ w.heap.size 31 _ _ _ rfl hr9'.out Tryz.underlying31 rfl info_act) rfl ⟨⟨x, ⟨#[]⟩, ⟨0, 0, 0, ⟨#[]⟩⟩⟩, rfl, hx.out, nil_size, fit_zero, RdOut.low hR.out hb9'.out hlt.out hbs.out⟩
  · have t1 : (x != 1) = true := by simpa using hk1
    have hK := Lib.hid (key_rd s2.out q4.out (by have := hll.out; have := q3.out; omega))
    have hk1 := Lib.hid hk1
    go_upto_region 4 with (go_at_call 158; (with_reducible refine (hK.out).mono ?_); rintro e w3 ⟨s, rfl, hs, l2, f2, p1, p2, p3, p4, p5⟩; have hs := Lib.hid hs; have p1 := Lib.hid p1; have p2 := Lib.hid p2; have p3 := Lib.hid p3; have p4 := Lib.hid p4; have p5 := Lib.hid p5; have hl3 := Lib.hid (butRow p2.out hl1.out hgg3.out); clear k0 k1 k2 k3 k4 k5; obtain ⟨⟨k0, k1, k2, k3, k4, k5⟩, y0, y1, y2, y3, y4, y5⟩ := six_of hl3.out)
    have hrow4 := Lib.hid ((setCell_rows g3 1 (.string s) w.heap.size (by have := hg3.out; omega)).trans (butRow p2.out hrow2.out hgw.out))
    have hl4 := Lib.hid (show (w3.setCell ⟨g3, 1, none⟩ (.string s)).heap[g3]? = some (.cells (aC x s ⟨0, 0, 0, ⟨#[]⟩⟩) 31 (0, 0)) from setCell_row hl3.out 1 _)
    have s4 := Lib.hid (p1.out.other hgg3.out hWg3.out 1 (.string s))
    have g4 := Lib.hid (but_set (but_trans g2.out p2.out) g3 1 (.string s) (Nat.le_of_lt hg3.out))
    clear p1 p2 hl3 k0 k1 k2 k3 k4 k5 y0 y1 y2 y3 y4 y5 hl1 hrow2 s2 g2 hK
    generalize w3.setCell ⟨g3, 1, none⟩ (.string s) = w4 at *
    obtain ⟨k0, k1, k2, k3, k4, k5⟩ := (six_of hl4.out).1
    by_cases hk4 : x = 4
    · have t4 : (x == 4) = true := by rw [hk4]; rfl
      have hV := Lib.hid (value_rd s4.out p4.out (by have := hll.out; have := q3.out; have := p3.out; omega))
      go_upto_region 6 with (go_at_call 159; (with_reducible refine (hV.out).mono ?_); rintro e w5 ⟨⟨vk, vn, vb, vs⟩, rfl, hv, l3, f3, r1, r2, r3, r4, r5⟩; dsimp only at *; have hv := Lib.hid hv; have r1 := Lib.hid r1; have r2 := Lib.hid r2; have r3 := Lib.hid r3; have r4 := Lib.hid r4; have r5 := Lib.hid r5; have hl5 := Lib.hid (butRow r2.out hl4.out hgg3.out); clear k0 k1 k2 k3 k4 k5; obtain ⟨⟨k0, k1, k2, k3, k4, k5⟩, y0, y1, y2, y3, y4, y5⟩ := six_of hl5.out)
      have hne := Lib.hid (show w.heap.size ≠ g3 by have := hg3.out; omega)
      have hle := Lib.hid (Nat.le_of_lt hg3.out)
      have hl6 := Lib.hid (show ((((w5.setCell ⟨g3, 2, none⟩ (.int .u8 vk)).setCell ⟨g3, 3, none⟩ (.int .i64 vn)).setCell ⟨g3, 4, none⟩ (.int .u64 (vb : Int))).setCell ⟨g3, 5, none⟩ (.string vs)).heap[g3]? = some (.cells (aC x s ⟨vk, vn, vb, vs⟩) 31 (0, 0)) from setCell_row (setCell_row (setCell_row (setCell_row hl5.out 2 _) 3 _) 4 _) 5 _)
      have s6 := Lib.hid ((((r1.out.other hgg3.out hWg3.out 2 (.int .u8 vk)).other hgg3.out hWg3.out 3 (.int .i64 vn)).other hgg3.out hWg3.out 4 (.int .u64 (vb : Int))).other hgg3.out hWg3.out 5 (.string vs))
      have g6 := Lib.hid (but_set (but_set (but_set (but_set (but_trans g4.out r2.out) g3 2 (.int .u8 vk) hle.out) g3 3 (.int .i64 vn) hle.out) g3 4 (.int .u64 (vb : Int)) hle.out) g3 5 (.string vs) hle.out)
      have hrow6 := Lib.hid ((setCell_rows (w := ((w5.setCell ⟨g3, 2, none⟩ (.int .u8 vk)).setCell ⟨g3, 3, none⟩ (.int .i64 vn)).setCell ⟨g3, 4, none⟩ (.int .u64 (vb : Int))) g3 5 (.string vs) w.heap.size hne.out).trans ((setCell_rows (w := (w5.setCell ⟨g3, 2, none⟩ (.int .u8 vk)).setCell ⟨g3, 3, none⟩ (.int .i64 vn)) g3 4 (.int .u64 (vb : Int)) w.heap.size hne.out).trans ((setCell_rows (w := w5.setCell ⟨g3, 2, none⟩ (.int .u8 vk)) g3 3 (.int .i64 vn) w.heap.size hne.out).trans ((setCell_rows (w := w5) g3 2 (.int .u8 vk) w.heap.size hne.out).trans (butRow r2.out hrow4.out hgw.out)))))
      clear r1 r2 hl5 k0 k1 k2 k3 k4 k5 y0 y1 y2 y3 y4 y5 hl4 hrow4 s4 g4 hV
      generalize (((w5.setCell ⟨g3, 2, none⟩ (.int .u8 vk)).setCell ⟨g3, 3, none⟩ (.int .i64 vn)).setCell ⟨g3, 4, none⟩ (.int .u64 (vb : Int))).setCell ⟨g3, 5, none⟩ (.string vs) = w6 at *
      have hE := Lib.hid (act_ends3 q5.out p5.out r5.out hk1.out hk4)
      have hR := Lib.hid (show RdOut W0 g w l fl (rAct l) ⟨x, s, ⟨vk, vn, vb, vs⟩⟩ w6 from ⟨l3, f3, s6.out, g6.out, by have := q3.out; have := p3.out; have := r3.out; omega, r4.out, hE.out⟩)
      clear q5 p5 r5 hE
      go_wp2_with (first
        | (refine wpList_load_row_g rfl 31 _ rfl g3 rfl 31 (aC x s ⟨vk, vn, vb, vs⟩) (0, 0) _ hl6.out Tryz.underlying31 rfl info_act ?_)
        | (refine storeOver _ w.heap.size _ rfl 31 _ _ rfl (aC x s ⟨vk, vn, vb, vs⟩) 31 hrow6.out rfl rfl info_act rfl (act_one _ _ _ _ _ _) ?_; intro w9 hr9 hb9; have hr9' := Lib.hid hr9; have hb9' := Lib.hid hb9; clear hr9 hb9))
      exact bodyPost_ret (results_cell_row rfl _ _ w.heap.size 31 _ _ _ rfl hr9'.out Tryz.underlying31 rfl info_act) rfl ⟨⟨x, s, ⟨vk, vn, vb, vs⟩⟩, rfl, hx.out, hs.out, hv.out, RdOut.low hR.out hb9'.out hlt.out hbs.out⟩
    · have t4 : (x == 4) = false := by simpa using hk4
      have hE := Lib.hid (act_ends2 q5.out p5.out hk1.out hk4)
      have hR := Lib.hid (show RdOut W0 g w l fl (rAct l) ⟨x, s, ⟨0, 0, 0, ⟨#[]⟩⟩⟩ w4 from ⟨l2, f2, s4.out, g4.out, by have := q3.out; have := p3.out; omega, p4.out, hE.out⟩)
      clear q5 p5 hk4 hE
      go_wp2_with (first
        | (refine wpList_load_row_g rfl 31 _ rfl g3 rfl 31 (aC x s ⟨0, 0, 0, ⟨#[]⟩⟩) (0, 0) _ hl4.out Tryz.underlying31 rfl info_act ?_)
        | (refine storeOver _ w.heap.size _ rfl 31 _ _ rfl (aC x s ⟨0, 0, 0, ⟨#[]⟩⟩) 31 hrow4.out rfl rfl info_act rfl (act_one _ _ _ _ _ _) ?_; intro w9 hr9 hb9; have hr9' := Lib.hid hr9; have hb9' := Lib.hid hb9; clear hr9 hb9))
      exact bodyPost_ret (results_cell_row rfl _ _ w.heap.size 31 _ _ _ rfl hr9'.out Tryz.underlying31 rfl info_act) rfl ⟨⟨x, s, ⟨0, 0, 0, ⟨#[]⟩⟩⟩, rfl, hx.out, hs.out, fit_zero, RdOut.low hR.out hb9'.out hlt.out hbs.out⟩
end Go.Proofs.YtnknkiiikeefgaaGreatDoor.wir.val

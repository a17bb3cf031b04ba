/- The reference's Cmp, and what both programs answer alike. -/
import Derived.Test.YtpklfohaifeboaaV31
import Derived.Test.YtpklfohaifeboaaV20
namespace Go.Proofs.Ytpklfohaifeboaa
open Go.RowKit Go.Ytpklfohaifeboaa
set_option linter.unusedVariables false
set_option maxHeartbeats 2000000 in
set_option maxRecDepth 100000 in
theorem rcmp_bad (k n : Int) (b : Nat) (s : ByteArray) (k' n' : Int) (b' : Nat) (s' : ByteArray) (fv : VFit k n b s) (fw : VFit k' n' b' s') (h : (validB k n b s && validB k' n' b' s') = false) (w : World) :
    Calls Try.prog 25 #[vA k n b s, vA k' n' b' s'] w fun e w' => e = .returned (.tuple #[.int .i64 0, .int .i64 8]) ∧ Below w.heap.size w w' := by
  have hV := Lib.hid (fun w => rcheck_any k n b s fv.k fv.b fv.s w)
  have hW := Lib.hid (fun w => rcheck_any k' n' b' s' fw.k fw.b fw.s w)
  have hr0 := heap_alloc_new w (.cells (vC k n b s) 26)
  have es : (w.alloc (.cells (vC k n b s) 26)).heap.size = w.heap.size + 1 := by simp
  have hp := Lib.hid (rowB hr0 (below_a _ (.cells (vC k' n' b' s') 26)) (by simp))
  have hq0 := heap_alloc_new (w.alloc (.cells (vC k n b s) 26)) (.cells (vC k' n' b' s') 26)
  rw [es] at hq0
  have hq := Lib.hid hq0
  have hB := Lib.hid ((below_a w (.cells (vC k n b s) 26)).trans ((below_a _ (.cells (vC k' n' b' s') 26)).mono (by simp)))
  clear hr0 es hq0
  cases hv : validB k n b s
  · rw [show chkE k n b s = 8 by unfold chkE; rw [hv]; rfl] at hV
    clear hv h fv fw
    go_enter Try.func25, Try.ntmps25
    go_wp2_with (first | (go_at_call 22; (first | (with_reducible refine (hV.out _).mono ?_) | (with_reducible refine (hW.out _).mono ?_)); rintro e w9 ⟨rfl, h9⟩; have hp := Lib.hid (rowB hp.out h9 (Array.getElem?_eq_some_iff.1 hp.out).1); have hq := Lib.hid (rowB hq.out h9 (Array.getElem?_eq_some_iff.1 hq.out).1); have hB := Lib.hid (hB.out.trans (h9.mono hB.out.size)); clear h9) | (refine wpList_load_row_g rfl 26 _ rfl w.heap.size rfl 26 (vC k n b s) (0, 0) _ hp.out Try.underlying26 rfl info_val ?_) | (refine wpList_load_row_g rfl 26 _ rfl (w.heap.size + 1) rfl 26 (vC k' n' b' s') (0, 0) _ hq.out Try.underlying26 rfl info_val ?_))
    go_ret2
    exact ⟨rfl, hB.out⟩
  · rw [hv, Bool.true_and] at h
    rw [show chkE k n b s = 0 by unfold chkE; rw [hv]; rfl] at hV
    rw [show chkE k' n' b' s' = 8 by unfold chkE; rw [h]; rfl] at hW
    clear hv h fv fw
    go_enter Try.func25, Try.ntmps25
    go_wp2_with (first | (go_at_call 22; (first | (with_reducible refine (hV.out _).mono ?_) | (with_reducible refine (hW.out _).mono ?_)); rintro e w9 ⟨rfl, h9⟩; have hp := Lib.hid (rowB hp.out h9 (Array.getElem?_eq_some_iff.1 hp.out).1); have hq := Lib.hid (rowB hq.out h9 (Array.getElem?_eq_some_iff.1 hq.out).1); have hB := Lib.hid (hB.out.trans (h9.mono hB.out.size)); clear h9) | (refine wpList_load_row_g rfl 26 _ rfl w.heap.size rfl 26 (vC k n b s) (0, 0) _ hp.out Try.underlying26 rfl info_val ?_) | (refine wpList_load_row_g rfl 26 _ rfl (w.heap.size + 1) rfl 26 (vC k' n' b' s') (0, 0) _ hq.out Try.underlying26 rfl info_val ?_))
    go_ret2
    exact ⟨rfl, hB.out⟩
set_option maxHeartbeats 2000000 in
set_option maxRecDepth 100000 in
theorem rcmp_ok (k n : Int) (b : Nat) (s : ByteArray) (k' n' : Int) (b' : Nat) (s' : ByteArray) (fv : VFit k n b s) (fw : VFit k' n' b' s') (hv : validB k n b s = true) (hw : validB k' n' b' s' = true) (w : World) :
    Calls Try.prog 25 #[vA k n b s, vA k' n' b' s'] w fun e w' => e = .returned (.tuple #[.int .i64 (cmpV k n b s k' n' b' s'), .int .i64 0]) ∧ Below w.heap.size w w' := by
  have hV := Lib.hid (fun w => rcheck_any k n b s fv.k fv.b fv.s w)
  have hW := Lib.hid (fun w => rcheck_any k' n' b' s' fw.k fw.b fw.s w)
  have hr0 := heap_alloc_new w (.cells (vC k n b s) 26)
  have es : (w.alloc (.cells (vC k n b s) 26)).heap.size = w.heap.size + 1 := by simp
  have hp := Lib.hid (rowB hr0 (below_a _ (.cells (vC k' n' b' s') 26)) (by simp))
  have hq0 := heap_alloc_new (w.alloc (.cells (vC k n b s) 26)) (.cells (vC k' n' b' s') 26)
  rw [es] at hq0
  have hq := Lib.hid hq0
  have hB := Lib.hid ((below_a w (.cells (vC k n b s) 26)).trans ((below_a _ (.cells (vC k' n' b' s') 26)).mono (by simp)))
  clear hr0 es hq0
  have hC := Lib.hid (fun w => rcompare_any k n b s k' n' b' s' fv fw hv hw w)
  rw [ref_cmp k n b s k' n' b' s' fv fw hv hw] at hC
  generalize cmpV k n b s k' n' b' s' = Q at *
  rw [show chkE k n b s = 0 by unfold chkE; rw [hv]; rfl] at hV
  rw [show chkE k' n' b' s' = 0 by unfold chkE; rw [hw]; rfl] at hW
  clear hv hw fv fw
  go_enter Try.func25, Try.ntmps25
  go_wp2_with (first | (go_at_call 22; (first | (with_reducible refine (hV.out _).mono ?_) | (with_reducible refine (hW.out _).mono ?_)); rintro e w9 ⟨rfl, h9⟩; have hp := Lib.hid (rowB hp.out h9 (Array.getElem?_eq_some_iff.1 hp.out).1); have hq := Lib.hid (rowB hq.out h9 (Array.getElem?_eq_some_iff.1 hq.out).1); have hB := Lib.hid (hB.out.trans (h9.mono hB.out.size)); clear h9) | (go_at_call 46; (first | (with_reducible refine (hC.out _).mono ?_)); rintro e w9 ⟨rfl, h9⟩; have hp := Lib.hid (rowB hp.out h9 (Array.getElem?_eq_some_iff.1 hp.out).1); have hq := Lib.hid (rowB hq.out h9 (Array.getElem?_eq_some_iff.1 hq.out).1); have hB := Lib.hid (hB.out.trans (h9.mono hB.out.size)); clear h9) | (refine wpList_load_row_g rfl 26 _ rfl w.heap.size rfl 26 (vC k n b s) (0, 0) _ hp.out Try.underlying26 rfl info_val ?_) | (refine wpList_load_row_g rfl 26 _ rfl (w.heap.size + 1) rfl 26 (vC k' n' b' s') (0, 0) _ hq.out Try.underlying26 rfl info_val ?_))
  go_ret2
  exact ⟨rfl, hB.out⟩
theorem cmp_both (k n : Int) (b : Nat) (s : ByteArray) (k' n' : Int) (b' : Nat) (s' : ByteArray) (fv : VFit k n b s) (fw : VFit k' n' b' s') : ∃ q ce : Int,
    (∀ w : World, Calls Try.prog 14 #[vA k n b s, vA k' n' b' s'] w fun e w' => e = .returned (.tuple #[.int .i64 q, .int .i64 ce]) ∧ Below w.heap.size w w') ∧
    (∀ w : World, Calls Try.prog 25 #[vA k n b s, vA k' n' b' s'] w fun e w' => e = .returned (.tuple #[.int .i64 q, .int .i64 ce]) ∧ Below w.heap.size w w') := by
  cases h : (validB k n b s && validB k' n' b' s')
  · exact ⟨_, _, fun w => cmp_bad k n b s k' n' b' s' fv fw h w, fun w => rcmp_bad k n b s k' n' b' s' fv fw h w⟩
  · rw [Bool.and_eq_true] at h
    exact ⟨_, _, fun w => cmp_ok k n b s k' n' b' s' fv fw h.1 h.2 w, fun w => rcmp_ok k n b s k' n' b' s' fv fw h.1 h.2 w⟩
theorem nil_rd (w : World) : RdB w (.slice none 0 0) [] := .inl ⟨_, _, rfl, fun _ => rfl, rfl⟩
theorem enc_both (k n : Int) (b : Nat) (s : ByteArray) (fv : VFit k n b s) (hs : s.size ≤ 100) : ∃ (X : List Int) (ee : Int), X.length ≤ 1000 ∧
    (∀ w : World, Calls Try.prog 15 #[vA k n b s] w fun e w' => ∃ sx, e = .returned (.tuple #[sx, .int .i64 ee]) ∧ RdB w' sx X ∧ Below w.heap.size w w') ∧
    (∀ w : World, Calls Try.prog 26 #[vA k n b s] w fun e w' => ∃ sx, e = .returned (.tuple #[sx, .int .i64 ee]) ∧ RdB w' sx X ∧ Below w.heap.size w w') := by
  cases h : validB k n b s
  · exact ⟨[], 8, by simp, fun w => (enc_bad k n b s fv h w).mono fun e w' ⟨h1, h2⟩ => ⟨_, h1, nil_rd w', h2⟩, fun w => (renc_bad k n b s fv h w).mono fun e w' ⟨h1, h2⟩ => ⟨_, h1, nil_rd w', h2⟩⟩
  · exact ⟨encB k n b s, 0, encB_small fv hs, fun w => (enc_ok k n b s fv h w).mono fun e w' ⟨sx, h1, h2, h3⟩ => ⟨_, h1, h2.rd, h3⟩, fun w => (renc_ok k n b s fv h hs w).mono fun e w' ⟨sx, h1, h2, h3⟩ => ⟨_, h1, h2.rd, h3⟩⟩
theorem decR_form (l : List Int) : ∃ (k n : Int) (b : Nat) (s : ByteArray) (u de : Int), decR l = .tuple #[vA k n b s, .int .i64 u, .int .i64 de] := by
  unfold decR
  split
  · rename_i p _
    exact ⟨p.1.k, p.1.n, p.1.b, p.1.s, _, _, rfl⟩
  · exact ⟨_, _, _, _, _, _, rfl⟩
end Go.Proofs.Ytpklfohaifeboaa

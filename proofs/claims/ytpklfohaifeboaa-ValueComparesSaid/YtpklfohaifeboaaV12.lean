/- ValueOrder's walk. -/
import Derived.Test.YtpklfohaifeboaaV11
import Derived.Test.YtpklfohaifeboaaV04
namespace Go.Proofs.Ytpklfohaifeboaa
open Go.RowKit Go.Ytpklfohaifeboaa
set_option linter.unusedVariables false
theorem boxes3 (w : World) (o1 o2 o3 : Obj) : (((w.alloc o1).alloc o2).alloc o3).heap[w.heap.size]? = some o1 ∧ (((w.alloc o1).alloc o2).alloc o3).heap[w.heap.size + 1]? = some o2 ∧ (((w.alloc o1).alloc o2).alloc o3).heap[w.heap.size + 2]? = some o3 ∧ Below w.heap.size w (((w.alloc o1).alloc o2).alloc o3) := by
  have e1 : (w.alloc o1).heap.size = w.heap.size + 1 := by simp
  have e2 : ((w.alloc o1).alloc o2).heap.size = w.heap.size + 2 := by simp
  have h1 := heap_alloc_new w o1
  have h2 := heap_alloc_new (w.alloc o1) o2
  have h3 := heap_alloc_new ((w.alloc o1).alloc o2) o3
  have b2 := below_a (w.alloc o1) o2
  have b3 := below_a ((w.alloc o1).alloc o2) o3
  refine ⟨rowB (rowB h1 b2 (by omega)) b3 (by omega), ?_, ?_, ((below_a w o1).trans (b2.mono (by omega))).trans (b3.mono (by omega))⟩
  · rw [e1] at h2; exact rowB h2 b3 (by omega)
  · rw [e2] at h3; exact h3
def fitV (k n : Int) (b : Nat) (s : ByteArray) : Bool := decide (s.size ≤ 100) && validB k n b s
theorem fitV_ok {k n : Int} {b : Nat} {s : ByteArray} (p : 0 ≤ k ∧ k < 256) (q : -9223372036854775808 ≤ n ∧ n ≤ 9223372036854775807) (r : b < 18446744073709551616) (h : fitV k n b s = true) : VFit k n b s ∧ validB k n b s = true := by
  unfold fitV at h
  simp only [Bool.and_eq_true, decide_eq_true_eq] at h
  exact ⟨⟨p, q, r, by omega⟩, h.2⟩
set_option maxHeartbeats 8000000 in
set_option maxRecDepth 100000 in
theorem order_law (k0 n0 : Int) (b0 : Nat) (s0 : ByteArray) (k1 n1 : Int) (b1 : Nat) (s1 : ByteArray) (k2 n2 : Int) (b2 : Nat) (s2 : ByteArray) (p0 : 0 ≤ k0 ∧ k0 < 256) (q0 : -9223372036854775808 ≤ n0 ∧ n0 ≤ 9223372036854775807) (r0 : b0 < 18446744073709551616) (p1 : 0 ≤ k1 ∧ k1 < 256) (q1 : -9223372036854775808 ≤ n1 ∧ n1 ≤ 9223372036854775807) (r1 : b1 < 18446744073709551616) (p2 : 0 ≤ k2 ∧ k2 < 256) (q2 : -9223372036854775808 ≤ n2 ∧ n2 ≤ 9223372036854775807) (r2 : b2 < 18446744073709551616) (w : World) :
    Calls Try.prog 6 #[vA k0 n0 b0 s0, vA k1 n1 b1 s1, vA k2 n2 b2 s2] w fun e w' => e = .returned (.bool true) ∧ Below w.heap.size w w' := by
  have F0 := Lib.hid (fun w => fit_any k0 n0 b0 s0 p0 r0 w)
  have F1 := Lib.hid (fun w => fit_any k1 n1 b1 s1 p1 r1 w)
  have F2 := Lib.hid (fun w => fit_any k2 n2 b2 s2 p2 r2 w)
  rw [show (decide (s0.size ≤ 100) && validB k0 n0 b0 s0) = fitV k0 n0 b0 s0 from rfl] at F0
  rw [show (decide (s1.size ≤ 100) && validB k1 n1 b1 s1) = fitV k1 n1 b1 s1 from rfl] at F1
  rw [show (decide (s2.size ≤ 100) && validB k2 n2 b2 s2) = fitV k2 n2 b2 s2 from rfl] at F2
  have hal := Lib.hid (fun w => alive_any w)
  cases f0 : fitV k0 n0 b0 s0
  · rw [f0] at F0
    clear p0 q0 r0 p1 q1 r1 p2 q2 r2 f0
    obtain ⟨w9, hw9⟩ : ∃ x, x = ((w.alloc (.cells (vC k0 n0 b0 s0) 26)).alloc (.cells (vC k1 n1 b1 s1) 26)).alloc (.cells (vC k2 n2 b2 s2) 26) := ⟨_, rfl⟩
    have hr : w9.heap[w.heap.size]? = some (.cells (vC k0 n0 b0 s0) 26 (0, 0)) ∧ w9.heap[w.heap.size + 1]? = some (.cells (vC k1 n1 b1 s1) 26 (0, 0)) ∧ w9.heap[w.heap.size + 2]? = some (.cells (vC k2 n2 b2 s2) 26 (0, 0)) ∧ Below w.heap.size w w9 := by
      subst hw9
      exact boxes3 w _ _ _
    have hr0 := Lib.hid hr.1
    have hr1 := Lib.hid hr.2.1
    have hr2 := Lib.hid hr.2.2.1
    have hS := Lib.hid hr.2.2.2
    clear hr
    go_enter Try.func6, Try.ntmps6
    go_upto_region 1 with fail
    rw [← hw9]
    clear hw9
    go_wp2_with (first | (go_at_call 29; (first | (with_reducible refine (F0.out _).mono ?_) | (with_reducible refine (F1.out _).mono ?_) | (with_reducible refine (F2.out _).mono ?_)); rintro e w9 ⟨rfl, h9⟩; have hr0 := Lib.hid (rowB hr0.out h9 (Array.getElem?_eq_some_iff.1 hr0.out).1); have hr1 := Lib.hid (rowB hr1.out h9 (Array.getElem?_eq_some_iff.1 hr1.out).1); have hr2 := Lib.hid (rowB hr2.out h9 (Array.getElem?_eq_some_iff.1 hr2.out).1); have hS := Lib.hid (hS.out.trans (h9.mono hS.out.size)); clear h9) | (go_at_call 20; (first | (with_reducible refine (hal.out _).mono ?_)); rintro e w9 ⟨rfl, h9⟩; have hr0 := Lib.hid (rowB hr0.out h9 (Array.getElem?_eq_some_iff.1 hr0.out).1); have hr1 := Lib.hid (rowB hr1.out h9 (Array.getElem?_eq_some_iff.1 hr1.out).1); have hr2 := Lib.hid (rowB hr2.out h9 (Array.getElem?_eq_some_iff.1 hr2.out).1); have hS := Lib.hid (hS.out.trans (h9.mono hS.out.size)); clear h9) | (refine wpList_load_row_g rfl 26 _ rfl (w.heap.size) rfl 26 (vC k0 n0 b0 s0) (0, 0) _ hr0.out Try.underlying26 rfl info_val ?_) | (refine wpList_load_row_g rfl 26 _ rfl (w.heap.size + 1) rfl 26 (vC k1 n1 b1 s1) (0, 0) _ hr1.out Try.underlying26 rfl info_val ?_) | (refine wpList_load_row_g rfl 26 _ rfl (w.heap.size + 2) rfl 26 (vC k2 n2 b2 s2) (0, 0) _ hr2.out Try.underlying26 rfl info_val ?_))
    go_ret
    exact ⟨rfl, hS.out⟩
  cases f1 : fitV k1 n1 b1 s1
  · rw [f0] at F0
    rw [f1] at F1
    clear p0 q0 r0 p1 q1 r1 p2 q2 r2 f0 f1
    obtain ⟨w9, hw9⟩ : ∃ x, x = ((w.alloc (.cells (vC k0 n0 b0 s0) 26)).alloc (.cells (vC k1 n1 b1 s1) 26)).alloc (.cells (vC k2 n2 b2 s2) 26) := ⟨_, rfl⟩
    have hr : w9.heap[w.heap.size]? = some (.cells (vC k0 n0 b0 s0) 26 (0, 0)) ∧ w9.heap[w.heap.size + 1]? = some (.cells (vC k1 n1 b1 s1) 26 (0, 0)) ∧ w9.heap[w.heap.size + 2]? = some (.cells (vC k2 n2 b2 s2) 26 (0, 0)) ∧ Below w.heap.size w w9 := by
      subst hw9
      exact boxes3 w _ _ _
    have hr0 := Lib.hid hr.1
    have hr1 := Lib.hid hr.2.1
    have hr2 := Lib.hid hr.2.2.1
    have hS := Lib.hid hr.2.2.2
    clear hr
    go_enter Try.func6, Try.ntmps6
    go_upto_region 1 with fail
    rw [← hw9]
    clear hw9
    go_wp2_with (first | (go_at_call 29; (first | (with_reducible refine (F0.out _).mono ?_) | (with_reducible refine (F1.out _).mono ?_) | (with_reducible refine (F2.out _).mono ?_)); rintro e w9 ⟨rfl, h9⟩; have hr0 := Lib.hid (rowB hr0.out h9 (Array.getElem?_eq_some_iff.1 hr0.out).1); have hr1 := Lib.hid (rowB hr1.out h9 (Array.getElem?_eq_some_iff.1 hr1.out).1); have hr2 := Lib.hid (rowB hr2.out h9 (Array.getElem?_eq_some_iff.1 hr2.out).1); have hS := Lib.hid (hS.out.trans (h9.mono hS.out.size)); clear h9) | (go_at_call 20; (first | (with_reducible refine (hal.out _).mono ?_)); rintro e w9 ⟨rfl, h9⟩; have hr0 := Lib.hid (rowB hr0.out h9 (Array.getElem?_eq_some_iff.1 hr0.out).1); have hr1 := Lib.hid (rowB hr1.out h9 (Array.getElem?_eq_some_iff.1 hr1.out).1); have hr2 := Lib.hid (rowB hr2.out h9 (Array.getElem?_eq_some_iff.1 hr2.out).1); have hS := Lib.hid (hS.out.trans (h9.mono hS.out.size)); clear h9) | (refine wpList_load_row_g rfl 26 _ rfl (w.heap.size) rfl 26 (vC k0 n0 b0 s0) (0, 0) _ hr0.out Try.underlying26 rfl info_val ?_) | (refine wpList_load_row_g rfl 26 _ rfl (w.heap.size + 1) rfl 26 (vC k1 n1 b1 s1) (0, 0) _ hr1.out Try.underlying26 rfl info_val ?_) | (refine wpList_load_row_g rfl 26 _ rfl (w.heap.size + 2) rfl 26 (vC k2 n2 b2 s2) (0, 0) _ hr2.out Try.underlying26 rfl info_val ?_))
    go_ret
    exact ⟨rfl, hS.out⟩
  cases f2 : fitV k2 n2 b2 s2
  · rw [f0] at F0
    rw [f1] at F1
    rw [f2] at F2
    clear p0 q0 r0 p1 q1 r1 p2 q2 r2 f0 f1 f2
    obtain ⟨w9, hw9⟩ : ∃ x, x = ((w.alloc (.cells (vC k0 n0 b0 s0) 26)).alloc (.cells (vC k1 n1 b1 s1) 26)).alloc (.cells (vC k2 n2 b2 s2) 26) := ⟨_, rfl⟩
    have hr : w9.heap[w.heap.size]? = some (.cells (vC k0 n0 b0 s0) 26 (0, 0)) ∧ w9.heap[w.heap.size + 1]? = some (.cells (vC k1 n1 b1 s1) 26 (0, 0)) ∧ w9.heap[w.heap.size + 2]? = some (.cells (vC k2 n2 b2 s2) 26 (0, 0)) ∧ Below w.heap.size w w9 := by
      subst hw9
      exact boxes3 w _ _ _
    have hr0 := Lib.hid hr.1
    have hr1 := Lib.hid hr.2.1
    have hr2 := Lib.hid hr.2.2.1
    have hS := Lib.hid hr.2.2.2
    clear hr
    go_enter Try.func6, Try.ntmps6
    go_upto_region 1 with fail
    rw [← hw9]
    clear hw9
    go_wp2_with (first | (go_at_call 29; (first | (with_reducible refine (F0.out _).mono ?_) | (with_reducible refine (F1.out _).mono ?_) | (with_reducible refine (F2.out _).mono ?_)); rintro e w9 ⟨rfl, h9⟩; have hr0 := Lib.hid (rowB hr0.out h9 (Array.getElem?_eq_some_iff.1 hr0.out).1); have hr1 := Lib.hid (rowB hr1.out h9 (Array.getElem?_eq_some_iff.1 hr1.out).1); have hr2 := Lib.hid (rowB hr2.out h9 (Array.getElem?_eq_some_iff.1 hr2.out).1); have hS := Lib.hid (hS.out.trans (h9.mono hS.out.size)); clear h9) | (go_at_call 20; (first | (with_reducible refine (hal.out _).mono ?_)); rintro e w9 ⟨rfl, h9⟩; have hr0 := Lib.hid (rowB hr0.out h9 (Array.getElem?_eq_some_iff.1 hr0.out).1); have hr1 := Lib.hid (rowB hr1.out h9 (Array.getElem?_eq_some_iff.1 hr1.out).1); have hr2 := Lib.hid (rowB hr2.out h9 (Array.getElem?_eq_some_iff.1 hr2.out).1); have hS := Lib.hid (hS.out.trans (h9.mono hS.out.size)); clear h9) | (refine wpList_load_row_g rfl 26 _ rfl (w.heap.size) rfl 26 (vC k0 n0 b0 s0) (0, 0) _ hr0.out Try.underlying26 rfl info_val ?_) | (refine wpList_load_row_g rfl 26 _ rfl (w.heap.size + 1) rfl 26 (vC k1 n1 b1 s1) (0, 0) _ hr1.out Try.underlying26 rfl info_val ?_) | (refine wpList_load_row_g rfl 26 _ rfl (w.heap.size + 2) rfl 26 (vC k2 n2 b2 s2) (0, 0) _ hr2.out Try.underlying26 rfl info_val ?_))
    go_ret
    exact ⟨rfl, hS.out⟩
  have g0 := fitV_ok p0 q0 r0 f0
  have g1 := fitV_ok p1 q1 r1 f1
  have g2 := fitV_ok p2 q2 r2 f2
  have c01 := Lib.hid (fun w => cmp_ok k0 n0 b0 s0 k1 n1 b1 s1 g0.1 g1.1 g0.2 g1.2 w)
  have c10 := Lib.hid (fun w => cmp_ok k1 n1 b1 s1 k0 n0 b0 s0 g1.1 g0.1 g1.2 g0.2 w)
  have c12 := Lib.hid (fun w => cmp_ok k1 n1 b1 s1 k2 n2 b2 s2 g1.1 g2.1 g1.2 g2.2 w)
  have c02 := Lib.hid (fun w => cmp_ok k0 n0 b0 s0 k2 n2 b2 s2 g0.1 g2.1 g0.2 g2.2 w)
  have e10 := cmpV_anti ⟨k0, n0, b0, s0⟩ ⟨k1, n1, b1, s1⟩
  have hin := cmpV_in ⟨k0, n0, b0, s0⟩ ⟨k1, n1, b1, s1⟩
  have htr := cmpV_trans ⟨k0, n0, b0, s0⟩ ⟨k1, n1, b1, s1⟩ ⟨k2, n2, b2, s2⟩
  have heq := cmp_eqB ⟨k0, n0, b0, s0⟩ ⟨k1, n1, b1, s1⟩ g0.1 g1.1 g0.2 g1.2
  simp only [Va.cmp] at e10 hin htr heq
  rw [e10] at c10
  generalize cmpV k0 n0 b0 s0 k1 n1 b1 s1 = X at *
  generalize cmpV k1 n1 b1 s1 k2 n2 b2 s2 = Z at *
  generalize cmpV k0 n0 b0 s0 k2 n2 b2 s2 = W at *
  have hEq := Lib.hid heq
  have hwx : wrap64 X = X := by unfold wrap64; omega
  obtain ⟨hx1, hx2⟩ := hin
  have hx3 : decide (X < -1) = false := decide_eq_false (by omega)
  have hx4 : decide (1 < X) = false := decide_eq_false (by omega)
  have hcase : 0 < X ∨ ¬ 0 < X ∧ 0 < Z ∨ ¬ 0 < X ∧ ¬ 0 < Z ∧ W ≤ 0 := by omega
  rw [f0] at F0
  rw [f1] at F1
  rw [f2] at F2
  clear e10 htr heq f0 f1 f2 g0 g1 g2 p0 q0 r0 p1 q1 r1 p2 q2 r2
  obtain ⟨w9, hw9⟩ : ∃ x, x = ((w.alloc (.cells (vC k0 n0 b0 s0) 26)).alloc (.cells (vC k1 n1 b1 s1) 26)).alloc (.cells (vC k2 n2 b2 s2) 26) := ⟨_, rfl⟩
  have hr : w9.heap[w.heap.size]? = some (.cells (vC k0 n0 b0 s0) 26 (0, 0)) ∧ w9.heap[w.heap.size + 1]? = some (.cells (vC k1 n1 b1 s1) 26 (0, 0)) ∧ w9.heap[w.heap.size + 2]? = some (.cells (vC k2 n2 b2 s2) 26 (0, 0)) ∧ Below w.heap.size w w9 := by
    subst hw9
    exact boxes3 w _ _ _
  have hr0 := Lib.hid hr.1
  have hr1 := Lib.hid hr.2.1
  have hr2 := Lib.hid hr.2.2.1
  have hS := Lib.hid hr.2.2.2
  clear hr
  rcases hcase with h | ⟨h, h2⟩ | ⟨h, h2, h3⟩
  all_goals
    go_enter Try.func6, Try.ntmps6
    go_upto_region 1 with fail
    rw [← hw9]
    clear hw9
    go_wp2_with (first | (go_at_call 29; (first | (with_reducible refine (F0.out _).mono ?_) | (with_reducible refine (F1.out _).mono ?_) | (with_reducible refine (F2.out _).mono ?_)); rintro e w9 ⟨rfl, h9⟩; have hr0 := Lib.hid (rowB hr0.out h9 (Array.getElem?_eq_some_iff.1 hr0.out).1); have hr1 := Lib.hid (rowB hr1.out h9 (Array.getElem?_eq_some_iff.1 hr1.out).1); have hr2 := Lib.hid (rowB hr2.out h9 (Array.getElem?_eq_some_iff.1 hr2.out).1); have hS := Lib.hid (hS.out.trans (h9.mono hS.out.size)); clear h9) | (go_at_call 14; (first | (with_reducible refine (c01.out _).mono ?_) | (with_reducible refine (c10.out _).mono ?_) | (with_reducible refine (c12.out _).mono ?_) | (with_reducible refine (c02.out _).mono ?_)); rintro e w9 ⟨rfl, h9⟩; have hr0 := Lib.hid (rowB hr0.out h9 (Array.getElem?_eq_some_iff.1 hr0.out).1); have hr1 := Lib.hid (rowB hr1.out h9 (Array.getElem?_eq_some_iff.1 hr1.out).1); have hr2 := Lib.hid (rowB hr2.out h9 (Array.getElem?_eq_some_iff.1 hr2.out).1); have hS := Lib.hid (hS.out.trans (h9.mono hS.out.size)); clear h9) | (go_at_call 20; (first | (with_reducible refine (hal.out _).mono ?_)); rintro e w9 ⟨rfl, h9⟩; have hr0 := Lib.hid (rowB hr0.out h9 (Array.getElem?_eq_some_iff.1 hr0.out).1); have hr1 := Lib.hid (rowB hr1.out h9 (Array.getElem?_eq_some_iff.1 hr1.out).1); have hr2 := Lib.hid (rowB hr2.out h9 (Array.getElem?_eq_some_iff.1 hr2.out).1); have hS := Lib.hid (hS.out.trans (h9.mono hS.out.size)); clear h9) | (refine wpList_load_row_g rfl 26 _ rfl (w.heap.size) rfl 26 (vC k0 n0 b0 s0) (0, 0) _ hr0.out Try.underlying26 rfl info_val ?_) | (refine wpList_load_row_g rfl 26 _ rfl (w.heap.size + 1) rfl 26 (vC k1 n1 b1 s1) (0, 0) _ hr1.out Try.underlying26 rfl info_val ?_) | (refine wpList_load_row_g rfl 26 _ rfl (w.heap.size + 2) rfl 26 (vC k2 n2 b2 s2) (0, 0) _ hr2.out Try.underlying26 rfl info_val ?_) | (refine wpList_run_g rfl (.bool (X == 0)) (run_eqlV _ _ k0 n0 b0 s0 k1 n1 b1 s1 _ rfl rfl rfl hEq.out) ?_))
    go_ret
    exact ⟨rfl, hS.out⟩
end Go.Proofs.Ytpklfohaifeboaa

/- ValueBack's walk. -/
import Derived.Test.YtpklfohaifeboaaV18
import Derived.Test.YtpklfohaifeboaaV15
namespace Go.Proofs.Ytpklfohaifeboaa
open Go.RowKit Go.Ytpklfohaifeboaa
set_option linter.unusedVariables false
theorem encB_bytes {k n : Int} {b : Nat} {s : ByteArray} (fv : VFit k n b s) : Bytes (encB k n b s) := by
  unfold encB
  split
  · exact bytes_mk_cons (by decide) (numB_bytes _ (fold_lt n fv.n))
  · split
    · exact bytes_mk_cons (by decide) (be_bytes _ _)
    · refine bytes_mk_cons (by decide) ?_
      unfold textB
      rw [sI_length]
      refine bytes_append _ _ (numB_bytes _ (by have := fv.s; omega)) ?_
      intro i
      unfold sI ith
      rw [List.getElem?_map]
      cases s.data.toList[i]? with | none => exact ⟨by decide, by decide⟩ | some c => have := c.toNat_lt; simp; omega
theorem encB_small {k n : Int} {b : Nat} {s : ByteArray} (fv : VFit k n b s) (hs : s.size ≤ 100) : (encB k n b s).length ≤ 1000 := by
  unfold encB
  split
  · rw [List.length_cons, numB_length]; have := numL_le _ (fold_lt n fv.n); omega
  · split
    · rw [List.length_cons, be_length]; omega
    · unfold textB
      rw [List.length_cons, List.length_append, numB_length, sI_length]
      have := numL_le s.size (by omega); omega
theorem valid_small {k n : Int} {b : Nat} {s : ByteArray} (h : validB k n b s = true) : s.size ≤ 30 := by
  unfold validB at h
  split at h
  · simp only [Bool.and_eq_true, decide_eq_true_eq] at h; omega
  · split at h
    · simp only [Bool.and_eq_true, decide_eq_true_eq] at h; omega
    · split at h
      · simp only [Bool.and_eq_true, decide_eq_true_eq] at h; omega
      · cases h
theorem same_enc {k n : Int} {b : Nat} {s : ByteArray} {k' n' : Int} {b' : Nat} {s' : ByteArray} (fv : VFit k n b s) (fw : VFit k' n' b' s') (hv : validB k n b s = true) (hw : validB k' n' b' s' = true) :
    sameF (encB k n b s) (encB k' n' b' s') = eqB k n b s k' n' b' s' := by
  cases h : eqB k n b s k' n' b' s'
  · cases h2 : sameF (encB k n b s) (encB k' n' b' s')
    · rfl
    · have e : encB k n b s = encB k' n' b' s' := by simpa [sameF] using h2
      have d1 := decF_enc k n b s fv hv []
      have d2 := decF_enc k' n' b' s' fw hw []
      rw [e, d2] at d1
      simp only [Option.some.injEq, Prod.mk.injEq, Va.mk.injEq] at d1
      obtain ⟨⟨rfl, rfl, rfl, rfl⟩, _⟩ := d1
      rw [eqB_refl] at h; cases h
  · obtain ⟨rfl, rfl, rfl, rfl⟩ := eqB_eq h
    exact sameF_self _
theorem qa_neqV {ops : Array Oper} {C : World → Prop} {a : Act} {o : Oper} (x y : Operand) (k n : Int) (b : Nat) (s : ByteArray) (k' n' : Int) (b' : Nat) (s' : ByteArray) (B : Bool) (ho : o.op = .binOp .neq 26 x y 26)
    (hx : a.eval x = vA k n b s) (hy : a.eval y = vA k' n' b' s') (h : eqB k n b s k' n' b' s' = B) : ∀ w, C w → o.quietAt Try.prog a C w (.bool (!B)) := by
  intro w hw
  unfold Oper.quietAt
  rw [run_neqV x y k n b s k' n' b' s' B ho hx hy h w]
  exact ⟨rfl, rfl⟩
set_option maxHeartbeats 8000000 in
set_option maxRecDepth 100000 in
theorem back_law (k0 n0 : Int) (b0 : Nat) (s0 : ByteArray) (k1 n1 : Int) (b1 : Nat) (s1 : ByteArray) (p0 : 0 ≤ k0 ∧ k0 < 256) (q0 : -9223372036854775808 ≤ n0 ∧ n0 ≤ 9223372036854775807) (r0 : b0 < 18446744073709551616) (p1 : 0 ≤ k1 ∧ k1 < 256) (q1 : -9223372036854775808 ≤ n1 ∧ n1 ≤ 9223372036854775807) (r1 : b1 < 18446744073709551616) (l : List Int) (bv : Value) (w : World) (hr : RdB w bv l) (hl : Bytes l) :
    Calls Try.prog 8 #[vA k0 n0 b0 s0, vA k1 n1 b1 s1, bv] w fun e w' => e = .returned (.bool true) ∧ Below w.heap.size w w' := by
  have hal := Lib.hid (fun w => alive_any w)
  obtain ⟨w9, hw9⟩ : ∃ x, x = (w.alloc (.cells (vC k0 n0 b0 s0) 26)).alloc (.cells (vC k1 n1 b1 s1) 26) := ⟨_, rfl⟩
  have hbx := boxes2 w (.cells (vC k0 n0 b0 s0) 26) (.cells (vC k1 n1 b1 s1) 26)
  rw [← hw9] at hbx
  have hr0 := Lib.hid hbx.1
  have hr1 := Lib.hid hbx.2.1
  have hS := Lib.hid hbx.2.2
  have hbr := Lib.hid (hr.mono hbx.2.2)
  clear hbx
  by_cases h100 : 100 < l.length
  · obtain ⟨a, c, rfl⟩ := hr.slice
    have hN : ¬ (l.length : Int) ≤ 100 := by omega
    clear p0 q0 r0 p1 q1 r1 hl hr h100
    generalize l.length = N at *
    go_enter Try.func8, Try.ntmps8
    go_upto_region 1 with fail
    rw [← hw9]
    clear hw9
    go_wp2_with (first | (go_at_call 20; (first | (with_reducible refine (hal.out _).mono ?_)); rintro e w9 ⟨rfl, h9⟩; have hr0 := Lib.hid (rowB hr0.out h9 (Array.getElem?_eq_some_iff.1 hr0.out).1); have hr1 := Lib.hid (rowB hr1.out h9 (Array.getElem?_eq_some_iff.1 hr1.out).1); have hbr := Lib.hid (hbr.out.mono h9); have hS := Lib.hid (hS.out.trans (h9.mono hS.out.size)); clear h9))
    go_ret
    exact ⟨rfl, hS.out⟩
  have F0 := Lib.hid (fun w => fit_any k0 n0 b0 s0 p0 r0 w)
  have F1 := Lib.hid (fun w => fit_any k1 n1 b1 s1 p1 r1 w)
  rw [show (decide (s0.size ≤ 100) && validB k0 n0 b0 s0) = fitV k0 n0 b0 s0 from rfl] at F0
  rw [show (decide (s1.size ≤ 100) && validB k1 n1 b1 s1) = fitV k1 n1 b1 s1 from rfl] at F1
  have hN : (l.length : Int) ≤ 100 := by omega
  have hN2 := Lib.hid (show l.length ≤ 100 by omega)
  have hlB := Lib.hid hl
  have hfV0 := Lib.hid (fun h => fitV_ok (s := s0) p0 q0 r0 h)
  have hfV1 := Lib.hid (fun h => fitV_ok (s := s1) p1 q1 r1 h)
  obtain ⟨a, c, rfl⟩ := hr.slice
  clear p0 q0 r0 p1 q1 r1 hl hr h100
  obtain ⟨N, hNl⟩ : ∃ N, N = l.length := ⟨_, rfl⟩
  rw [← hNl] at hN hbr ⊢
  have hNl' := Lib.hid hNl
  clear hNl
  go_enter Try.func8, Try.ntmps8
  go_upto_region 1 with fail
  rw [← hw9]
  clear hw9
  go_upto_if 21 with fail
  go_step
  go_step
  rename_i K hK _
  refine hK _ _ ?_
  clear hK
  go_step
  go_cut [] (fun wz => wz.heap[w.heap.size]? = some (.cells (vC k0 n0 b0 s0) 26 (0, 0)) ∧ wz.heap[w.heap.size + 1]? = some (.cells (vC k1 n1 b1 s1) 26 (0, 0)) ∧ RdB wz (.slice a N c) l ∧ Below w.heap.size w wz)
  case first =>
    cases f0 : fitV k0 n0 b0 s0
    · rw [f0] at F0
      clear f0
      go_wp2_with (first | (go_at_call 29; (first | (with_reducible refine (F0.out _).mono ?_) | (with_reducible refine (F1.out _).mono ?_)); rintro e w9 ⟨rfl, h9⟩; have hr0 := Lib.hid (rowB hr0.out h9 (Array.getElem?_eq_some_iff.1 hr0.out).1); have hr1 := Lib.hid (rowB hr1.out h9 (Array.getElem?_eq_some_iff.1 hr1.out).1); have hbr := Lib.hid (hbr.out.mono h9); have hS := Lib.hid (hS.out.trans (h9.mono hS.out.size)); clear h9) | (refine wpList_load_row_g rfl 26 _ rfl (w.heap.size) rfl 26 (vC k0 n0 b0 s0) (0, 0) _ hr0.out Try.underlying26 rfl info_val ?_) | (refine wpList_load_row_g rfl 26 _ rfl (w.heap.size + 1) rfl 26 (vC k1 n1 b1 s1) (0, 0) _ hr1.out Try.underlying26 rfl info_val ?_))
      go_meet
      exact ⟨hr0.out, hr1.out, hbr.out, hS.out⟩
    cases f1 : fitV k1 n1 b1 s1
    · rw [f0] at F0
      rw [f1] at F1
      clear f0 f1
      go_wp2_with (first | (go_at_call 29; (first | (with_reducible refine (F0.out _).mono ?_) | (with_reducible refine (F1.out _).mono ?_)); rintro e w9 ⟨rfl, h9⟩; have hr0 := Lib.hid (rowB hr0.out h9 (Array.getElem?_eq_some_iff.1 hr0.out).1); have hr1 := Lib.hid (rowB hr1.out h9 (Array.getElem?_eq_some_iff.1 hr1.out).1); have hbr := Lib.hid (hbr.out.mono h9); have hS := Lib.hid (hS.out.trans (h9.mono hS.out.size)); clear h9) | (refine wpList_load_row_g rfl 26 _ rfl (w.heap.size) rfl 26 (vC k0 n0 b0 s0) (0, 0) _ hr0.out Try.underlying26 rfl info_val ?_) | (refine wpList_load_row_g rfl 26 _ rfl (w.heap.size + 1) rfl 26 (vC k1 n1 b1 s1) (0, 0) _ hr1.out Try.underlying26 rfl info_val ?_))
      go_meet
      exact ⟨hr0.out, hr1.out, hbr.out, hS.out⟩
    have g0 := hfV0.out f0
    have g1 := hfV1.out f1
    have E0 := Lib.hid (fun w => enc_ok k0 n0 b0 s0 g0.1 g0.2 w)
    have E1 := Lib.hid (fun w => enc_ok k1 n1 b1 s1 g1.1 g1.2 w)
    have hdc := decF_enc k0 n0 b0 s0 g0.1 g0.2 l
    have hse := Lib.hid (same_enc g0.1 g1.1 g0.2 g1.2)
    have hby := encB_bytes g0.1
    have hsm := encB_small g0.1 (Nat.le_trans (valid_small g0.2) (by decide))
    have hD := Lib.hid (fun (v : Value) (wx : World) (h : RdB wx v (encB k0 n0 b0 s0 ++ l)) => decode_any _ v wx h (bytes_append _ _ hby hlB.out) (by rw [List.length_append]; have := hN2.out; omega))
    rw [show decR (encB k0 n0 b0 s0 ++ l) = .tuple #[vA k0 n0 b0 s0, .int .i64 ((encB k0 n0 b0 s0).length : Nat), .int .i64 0] by unfold decR; rw [hdc]] at hD
    have hsm' := Lib.hid (show (encB k0 n0 b0 s0).length ≤ 1000 from hsm)
    rw [f0] at F0
    rw [f1] at F1
    clear f0 f1 g0 g1 hdc hby hsm
    generalize encB k0 n0 b0 s0 = X at *
    generalize encB k1 n1 b1 s1 = Y at *
    go_wp2_with (first | (go_at_call 29; (first | (with_reducible refine (F0.out _).mono ?_) | (with_reducible refine (F1.out _).mono ?_)); rintro e w9 ⟨rfl, h9⟩; have hr0 := Lib.hid (rowB hr0.out h9 (Array.getElem?_eq_some_iff.1 hr0.out).1); have hr1 := Lib.hid (rowB hr1.out h9 (Array.getElem?_eq_some_iff.1 hr1.out).1); have hbr := Lib.hid (hbr.out.mono h9); have hS := Lib.hid (hS.out.trans (h9.mono hS.out.size)); clear h9) | (refine wpList_load_row_g rfl 26 _ rfl (w.heap.size) rfl 26 (vC k0 n0 b0 s0) (0, 0) _ hr0.out Try.underlying26 rfl info_val ?_) | (refine wpList_load_row_g rfl 26 _ rfl (w.heap.size + 1) rfl 26 (vC k1 n1 b1 s1) (0, 0) _ hr1.out Try.underlying26 rfl info_val ?_) | (go_at_call 15; (first | (with_reducible refine (E0.out _).mono ?_)); rintro e w9 ⟨sx, rfl, h8, h9⟩; have hr0 := Lib.hid (rowB hr0.out h9 (Array.getElem?_eq_some_iff.1 hr0.out).1); have hr1 := Lib.hid (rowB hr1.out h9 (Array.getElem?_eq_some_iff.1 hr1.out).1); have hbr := Lib.hid (hbr.out.mono h9); have hS := Lib.hid (hS.out.trans (h9.mono hS.out.size)); have hox := Lib.hid h8; obtain ⟨ax, cx, rfl⟩ := hox.out.rd.slice; clear h9 h8) | (go_at_call 15; (first | (with_reducible refine (E1.out _).mono ?_)); rintro e w9 ⟨sy, rfl, h8, h9⟩; have hr0 := Lib.hid (rowB hr0.out h9 (Array.getElem?_eq_some_iff.1 hr0.out).1); have hr1 := Lib.hid (rowB hr1.out h9 (Array.getElem?_eq_some_iff.1 hr1.out).1); have hox := Lib.hid (hox.out.kept h9); have hbr := Lib.hid (hbr.out.mono h9); have hS := Lib.hid (hS.out.trans (h9.mono hS.out.size)); have hoy := Lib.hid h8; obtain ⟨ay, cy, rfl⟩ := hoy.out.rd.slice; clear h9 h8; refine Stop.go'' _ ?_))
    refine StopP.go ?_
    have bA := below_a w9 (.cells (u8s []) 5)
    have hgA := heap_alloc_new w9 (.cells (u8s []) 5)
    have hoA := Lib.hid (ownB_row (cs := []) hgA 0 rfl (by decide) (Nat.le_refl w9.heap.size))
    have hoxA := Lib.hid (hox.out.kept bA)
    have hBs := Lib.hid bA.size
    have bA := Lib.hid bA
    clear hgA
    go_wp2_with (refine appendB rfl _ _ 34 rfl w9.heap.size 5 Try.underlying34 (by kernel_rfl) _ rfl [] hoA.out _ rfl X hoxA.out.rd (by have := hsm'.out; simp; omega) hBs.out ?_)
    intro v1 w1 h4 h5
    have b1 := Lib.hid (bA.out.trans (hoA.out.below h5 hBs.out))
    have hoB := Lib.hid (show OwnB w9.heap.size 5 w1 v1 X from h4)
    have hbr1 := Lib.hid (hbr.out.mono b1.out)
    clear h4 h5 hoxA hoA hBs bA
    refine Stop.go ?_
    go_wp2_with (refine appendB rfl _ _ 34 rfl w9.heap.size 5 Try.underlying34 (by kernel_rfl) _ rfl X hoB.out _ rfl l hbr1.out (by have := hsm'.out; have := hN2.out; omega) b1.out.size ?_)
    intro v2 w2 h4 h5
    have b2 := Lib.hid (b1.out.trans (hoB.out.below h5 b1.out.size))
    have hD2 := Lib.hid (hD.out v2 w2 h4.rd)
    clear h4 h5 hoB hbr1 hD b1
    refine Stop.go ?_
    go_wp2_with (go_at_call 18; (with_reducible refine (hD2.out).mono ?_); rintro e w3 ⟨rfl, h9⟩; have b3 := Lib.hid (b2.out.trans (h9.mono b2.out.size)); clear h9 hD2 b2; refine Stop.go'' _ ?_)
    refine StopP.go ?_
    have b4 := Lib.hid (b3.out.trans ((below_a w3 (.cells (vC k0 n0 b0 s0) 26)).mono b3.out.size))
    have hu := Lib.hid (heap_alloc_new w3 (.cells (vC k0 n0 b0 s0) 26))
    have hr0 := Lib.hid (rowB hr0.out b4.out (Array.getElem?_eq_some_iff.1 hr0.out).1)
    have hr1 := Lib.hid (rowB hr1.out b4.out (Array.getElem?_eq_some_iff.1 hr1.out).1)
    have hox := Lib.hid (hox.out.kept b4.out)
    have hoy := Lib.hid (hoy.out.kept b4.out)
    have hbr := Lib.hid (hbr.out.mono b4.out)
    have hS := Lib.hid (hS.out.trans (b4.out.mono hS.out.size))
    clear b3 b4
    go_upto_region 7 with fail
    generalize w3.heap.size = gu at *
    generalize w3.alloc (.cells (vC k0 n0 b0 s0) 26) = w9 at *
    clear bA
    have hSB := Lib.hid (fun w' (h : Below w9.heap.size w9 w') => same_any _ _ X Y w' (Nat.le_trans hsm'.out (by decide)) (hox.out.rd.mono h) (hoy.out.rd.mono h))
    have hse' := hse.out.symm
    generalize hS0 : sameF X Y = SB at *
    clear hS0
    refine wp_region_quiet (C := fun w' => Below w9.heap.size w9 w') (by kernel_rfl) (by kernel_rfl) ((Below.refl _ _).drew) ?_
    simp only [List.toList_toArray]
    repeat (first | (refine wpq _ rfl (quiet_row 26 _ rfl (gu) rfl 26 (vC k0 n0 b0 s0) (0, 0) _ (fun w h => rowB hu.out h (Array.getElem?_eq_some_iff.1 hu.out).1) Try.underlying26 rfl info_val) rfl (fun K hK => ?_); go_simp; refine hK _ ?_; clear hK K) | (refine wpq _ rfl (quiet_row 26 _ rfl (w.heap.size) rfl 26 (vC k0 n0 b0 s0) (0, 0) _ (fun w h => rowB hr0.out h (Array.getElem?_eq_some_iff.1 hr0.out).1) Try.underlying26 rfl info_val) rfl (fun K hK => ?_); go_simp; refine hK _ ?_; clear hK K) | (refine wpq _ rfl (quiet_row 26 _ rfl (w.heap.size + 1) rfl 26 (vC k1 n1 b1 s1) (0, 0) _ (fun w h => rowB hr1.out h (Array.getElem?_eq_some_iff.1 hr1.out).1) Try.underlying26 rfl info_val) rfl (fun K hK => ?_); go_simp; refine hK _ ?_; clear hK K) | (refine wpq (.bool false) rfl (qa_neqV (ops := #[]) _ _ k0 n0 b0 s0 k0 n0 b0 s0 true rfl rfl rfl (eqB_refl _ _ _ _)) rfl (fun K hK => ?_); go_simp; refine hK _ ?_; clear hK K) | (refine wpq (.bool SB) rfl (qa_eqlV (ops := #[]) _ _ k0 n0 b0 s0 k1 n1 b1 s1 SB rfl rfl rfl hse') rfl (fun K hK => ?_); go_simp; refine hK _ ?_; clear hK K) | (refine wpq (.bool SB) rfl (quiet_call2 rfl Try.func28 (by kernel_rfl) rfl (.slice ax X.length cx) (.slice ay Y.length cy) _ rfl rfl rfl (fun w9 h => (hSB.out w9 h).mono fun e w' ⟨he, hd⟩ => ⟨he, hd.below h⟩)) rfl (fun K hK => ?_); go_simp; refine hK _ ?_; clear hK K) | go_big_quiet_skip | (go_big_quiet_want; go_big_quiet_op; first | go_big_quiet_on | (refine ⟨_, fun _ _ => rfl, ?_⟩; go_big_quiet_on)))
    refine wpQuiet_nil ?_
    intro w6 h9
    clear hse'
    have hr0 := Lib.hid (rowB hr0.out h9 (Array.getElem?_eq_some_iff.1 hr0.out).1); have hr1 := Lib.hid (rowB hr1.out h9 (Array.getElem?_eq_some_iff.1 hr1.out).1); have hbr := Lib.hid (hbr.out.mono h9); have hS := Lib.hid (hS.out.trans (h9.mono hS.out.size))
    clear h9
    go_wp2
    go_meet
    exact ⟨hr0.out, hr1.out, hbr.out, hS.out⟩
  case rest =>
    rename_i hK
    refine hK _ _ ?_
    clear hK F0 F1 hfV0 hfV1
    obtain ⟨e0, e1, e2, e3⟩ := hcut
    have hr0 := Lib.hid e0
    have hr1 := Lib.hid e1
    have hS := Lib.hid e3
    have hbr := Lib.hid e2
    clear e0 e1 e3
    have hDl := decode_any l _ wc e2 hlB.out (by have := hN2.out; omega)
    obtain ⟨R, hR⟩ : ∃ R, R = decR l := ⟨_, rfl⟩
    rw [← hR] at hDl
    unfold decR at hR
    cases hd : decF l with
    | none =>
      rw [hd] at hR
      subst hR
      have hDl := Lib.hid hDl
      clear e2 hd
      go_wp2_with (first | (go_at_call 18; (first | (with_reducible refine (hDl.out).mono ?_)); rintro e w3 ⟨rfl, h9⟩; have hr0 := Lib.hid (rowB hr0.out h9 (Array.getElem?_eq_some_iff.1 hr0.out).1); have hr1 := Lib.hid (rowB hr1.out h9 (Array.getElem?_eq_some_iff.1 hr1.out).1); have hbr := Lib.hid (hbr.out.mono h9); have hS := Lib.hid (hS.out.trans (h9.mono hS.out.size)); clear h9; refine Stop.go'' _ ?_))
      refine StopP.go ?_
      have b4 := below_a w3 (.cells #[.int .u8 0, .int .i64 0, .int .u64 0, .string ⟨#[]⟩] 26)
      have hr0 := Lib.hid (rowB hr0.out b4 (Array.getElem?_eq_some_iff.1 hr0.out).1)
      have hr1 := Lib.hid (rowB hr1.out b4 (Array.getElem?_eq_some_iff.1 hr1.out).1)
      have hbr := Lib.hid (hbr.out.mono b4)
      have hS := Lib.hid (hS.out.trans (b4.mono hS.out.size))
      go_upto_region 10 with fail
      generalize w3.alloc (.cells #[.int .u8 0, .int .i64 0, .int .u64 0, .string ⟨#[]⟩] 26) = w9 at *
      go_wp2_with (first | (go_at_call 20; (first | (with_reducible refine (hal.out _).mono ?_)); rintro e w9 ⟨rfl, h9⟩; have hr0 := Lib.hid (rowB hr0.out h9 (Array.getElem?_eq_some_iff.1 hr0.out).1); have hr1 := Lib.hid (rowB hr1.out h9 (Array.getElem?_eq_some_iff.1 hr1.out).1); have hbr := Lib.hid (hbr.out.mono h9); have hS := Lib.hid (hS.out.trans (h9.mono hS.out.size)); clear h9))
      go_ret
      exact ⟨rfl, hS.out⟩
    | some p =>
      obtain ⟨⟨vk, vn, vb, vs⟩, u⟩ := p
      rw [hd] at hR
      subst hR
      obtain ⟨d1, d2, d3, d4, d5⟩ := decF_some hlB.out hd
      simp only [Va.fit, Va.ok] at d1 d2 d5
      have E2 := Lib.hid (fun w => enc_ok vk vn vb vs d1 d2 w)
      rw [d5] at E2
      have F2 := Lib.hid (fun w => fit_any vk vn vb vs d1.k d1.b w)
      rw [show (decide (vs.size ≤ 100) && validB vk vn vb vs) = true by rw [d2, decide_eq_true (Nat.le_trans (valid_small d2) (by decide))]; rfl] at F2
      have hN0 := hNl'.out
      have hac : ∃ (b o : Nat), a = some ⟨b, o, none⟩ ∧ N ≤ c := by
        rcases e2 with ⟨_, _, e, _, rfl⟩ | ⟨b, o, c', e, g1, g2, g3, g4⟩
        · simp at d4; omega
        · simp only [Value.slice.injEq] at e
          obtain ⟨rfl, _, rfl⟩ := e
          exact ⟨b, o, rfl, by omega⟩
      obtain ⟨ab, ao, rfl, hNc⟩ := hac
      have u1 : (1 : Int) ≤ (u : Int) := by omega
      have u2 : (u : Int) ≤ (N : Int) := by omega
      have u3 : (u : Int) ≤ (c : Int) := by omega
      have hDl := Lib.hid hDl
      have htk := Lib.hid (fun wz (h : RdB wz (.slice (some ⟨ab, ao, none⟩) N c) l) => rdB_take h u (by omega))
      have htl : (l.take u).length = u := by rw [List.length_take]; omega
      have hsm := Lib.hid (show (l.take u).length ≤ 1000 by rw [htl]; have := hN2.out; omega)
      clear e2 hd d1 d2 d5 d3 d4 hN0 hNc
      go_wp2_with (first | (go_at_call 18; (first | (with_reducible refine (hDl.out).mono ?_)); rintro e w3 ⟨rfl, h9⟩; have hr0 := Lib.hid (rowB hr0.out h9 (Array.getElem?_eq_some_iff.1 hr0.out).1); have hr1 := Lib.hid (rowB hr1.out h9 (Array.getElem?_eq_some_iff.1 hr1.out).1); have hbr := Lib.hid (hbr.out.mono h9); have hS := Lib.hid (hS.out.trans (h9.mono hS.out.size)); clear h9; refine Stop.go'' _ ?_))
      refine StopP.go ?_
      have b4 := below_a w3 (.cells (vC vk vn vb vs) 26)
      have hu := Lib.hid (heap_alloc_new w3 (.cells (vC vk vn vb vs) 26))
      have hr0 := Lib.hid (rowB hr0.out b4 (Array.getElem?_eq_some_iff.1 hr0.out).1)
      have hr1 := Lib.hid (rowB hr1.out b4 (Array.getElem?_eq_some_iff.1 hr1.out).1)
      have hbr := Lib.hid (hbr.out.mono b4)
      have hS := Lib.hid (hS.out.trans (b4.mono hS.out.size))
      go_upto_region 10 with fail
      generalize w3.heap.size = gu at *
      generalize w3.alloc (.cells (vC vk vn vb vs) 26) = w9 at *
      clear b4 hDl htl
      generalize hX : l.take u = X at *
      clear hX
      go_wp2_with (first | (go_at_call 15; (first | (with_reducible refine (E2.out _).mono ?_)); rintro e w9 ⟨sx, rfl, h8, h9⟩; have hr0 := Lib.hid (rowB hr0.out h9 (Array.getElem?_eq_some_iff.1 hr0.out).1); have hr1 := Lib.hid (rowB hr1.out h9 (Array.getElem?_eq_some_iff.1 hr1.out).1); have hu := Lib.hid (rowB hu.out h9 (Array.getElem?_eq_some_iff.1 hu.out).1); have hbr := Lib.hid (hbr.out.mono h9); have hS := Lib.hid (hS.out.trans (h9.mono hS.out.size)); have hox := Lib.hid h8; obtain ⟨ax, cx, rfl⟩ := hox.out.rd.slice; clear h9 h8) | (go_at_call 29; (first | (with_reducible refine (F2.out _).mono ?_)); rintro e w9 ⟨rfl, h9⟩; have hr0 := Lib.hid (rowB hr0.out h9 (Array.getElem?_eq_some_iff.1 hr0.out).1); have hr1 := Lib.hid (rowB hr1.out h9 (Array.getElem?_eq_some_iff.1 hr1.out).1); have hu := Lib.hid (rowB hu.out h9 (Array.getElem?_eq_some_iff.1 hu.out).1); have hox := Lib.hid (hox.out.kept h9); have hbr := Lib.hid (hbr.out.mono h9); have hS := Lib.hid (hS.out.trans (h9.mono hS.out.size)); clear h9; refine Stop.go'' _ ?_) | (refine wpList_load_row_g rfl 26 _ rfl (gu) rfl 26 (vC vk vn vb vs) (0, 0) _ hu.out Try.underlying26 rfl info_val ?_))
      refine StopP.go ?_
      have hq0 := same_any _ _ X X w9 (Nat.le_trans hsm.out (by decide)) hox.out.rd (htk.out _ hbr.out)
      rw [sameF_self] at hq0
      have hq := Lib.hid (hq0.mono fun e w' (h : e = .returned (.bool true) ∧ Draws w9 w') => (show e = .returned (.bool true) ∧ Below w9.heap.size w9 w' from ⟨h.1, h.2.below (Below.refl w9.heap.size w9)⟩))
      clear hq0
      go_wp2_with (first | (go_at_call 28; (first | (with_reducible refine (hq.out).mono ?_)); rintro e w9 ⟨rfl, h9⟩; have hr0 := Lib.hid (rowB hr0.out h9 (Array.getElem?_eq_some_iff.1 hr0.out).1); have hr1 := Lib.hid (rowB hr1.out h9 (Array.getElem?_eq_some_iff.1 hr1.out).1); have hu := Lib.hid (rowB hu.out h9 (Array.getElem?_eq_some_iff.1 hu.out).1); have hbr := Lib.hid (hbr.out.mono h9); have hS := Lib.hid (hS.out.trans (h9.mono hS.out.size)); clear h9) | (go_at_call 20; (first | (with_reducible refine (hal.out _).mono ?_)); rintro e w9 ⟨rfl, h9⟩; have hr0 := Lib.hid (rowB hr0.out h9 (Array.getElem?_eq_some_iff.1 hr0.out).1); have hr1 := Lib.hid (rowB hr1.out h9 (Array.getElem?_eq_some_iff.1 hr1.out).1); have hu := Lib.hid (rowB hu.out h9 (Array.getElem?_eq_some_iff.1 hu.out).1); have hbr := Lib.hid (hbr.out.mono h9); have hS := Lib.hid (hS.out.trans (h9.mono hS.out.size)); clear h9))
      go_ret
      exact ⟨rfl, hS.out⟩
end Go.Proofs.Ytpklfohaifeboaa

/- ValueCompares' walk. -/
import Derived.Test.YtpklfohaifeboaaV32
namespace Go.Proofs.Ytpklfohaifeboaa
open Go.RowKit Go.Ytpklfohaifeboaa
set_option linter.unusedVariables false
set_option maxHeartbeats 8000000 in
set_option maxRecDepth 100000 in
theorem compares_law (k n : Int) (b : Nat) (s : ByteArray) (k' n' : Int) (b' : Nat) (s' : ByteArray) (p0 : 0 ≤ k ∧ k < 256) (q0 : -9223372036854775808 ≤ n ∧ n ≤ 9223372036854775807) (r0 : b < 18446744073709551616) (p1 : 0 ≤ k' ∧ k' < 256) (q1 : -9223372036854775808 ≤ n' ∧ n' ≤ 9223372036854775807) (r1 : b' < 18446744073709551616) (l : List Int) (bv : Value) (w : World) (hr : RdB w bv l) (hl : Bytes l) :
    Calls Try.prog 5 #[vA k n b s, vA k' n' b' s', bv] w fun e w' => e = .returned (.bool true) ∧ Below w.heap.size w w' := by
  obtain ⟨w9, hw9⟩ : ∃ x, x = (w.alloc (.cells (vC k n b s) 26)).alloc (.cells (vC k' n' b' s') 26) := ⟨_, rfl⟩
  have hbx := boxes2 w (.cells (vC k n b s) 26) (.cells (vC k' n' b' s') 26)
  rw [← hw9] at hbx
  have hr0 := Lib.hid hbx.1
  have hr1 := Lib.hid hbx.2.1
  have hS := Lib.hid hbx.2.2
  have hbr := Lib.hid (hr.mono hbx.2.2)
  clear hbx
  have hc0 := (cellsV hr0.out).2.2.2
  have hc1 := (cellsV hr1.out).2.2.2
  by_cases hs0 : 100 < s.size
  · obtain ⟨a, c, rfl⟩ := hr.slice
    have hN : ¬ (s.size : Int) ≤ 100 := by omega
    clear p0 q0 r0 p1 q1 r1 hl hr hs0
    generalize l.length = N at *
    go_enter Try.func5, Try.ntmps5
    go_upto_region 1 with fail
    rw [← hw9]
    clear hw9
    go_wp2
    go_ret
    exact ⟨rfl, hS.out⟩
  by_cases hs1 : 100 < s'.size
  · obtain ⟨a, c, rfl⟩ := hr.slice
    have hN0 : (s.size : Int) ≤ 100 := by omega
    have hN : ¬ (s'.size : Int) ≤ 100 := by omega
    clear p0 q0 r0 p1 q1 r1 hl hr hs1 hs0
    generalize l.length = N at *
    go_enter Try.func5, Try.ntmps5
    go_upto_region 1 with fail
    rw [← hw9]
    clear hw9
    go_wp2
    go_ret
    exact ⟨rfl, hS.out⟩
  have hN0 : (s.size : Int) ≤ 100 := by omega
  have hN1 : (s'.size : Int) ≤ 100 := by omega
  by_cases h100 : 100 < l.length
  · obtain ⟨a, c, rfl⟩ := hr.slice
    have hN : ¬ (l.length : Int) ≤ 100 := by omega
    clear p0 q0 r0 p1 q1 r1 hl hr h100 hs1 hs0
    generalize l.length = N at *
    go_enter Try.func5, Try.ntmps5
    go_upto_region 1 with fail
    rw [← hw9]
    clear hw9
    go_wp2
    go_ret
    exact ⟨rfl, hS.out⟩
  have hN2 : (l.length : Int) ≤ 100 := by omega
  have fv : VFit k n b s := ⟨p0, q0, r0, by omega⟩
  have fw : VFit k' n' b' s' := ⟨p1, q1, r1, by omega⟩
  obtain ⟨q, ce, hC, hC'⟩ := cmp_both k n b s k' n' b' s' fv fw
  obtain ⟨X, ee, hX, hE, hE'⟩ := enc_both k n b s fv (by omega)
  obtain ⟨dk, dn, db, ds, u, de, hdf⟩ := decR_form l
  have hD := Lib.hid (fun (v : Value) (wx : World) (h : RdB wx v l) => decode_any l v wx h hl (by omega))
  have hD' := Lib.hid (fun (v : Value) (wx : World) (h : RdB wx v l) => rdecode_any l v wx h hl (by omega))
  rw [hdf] at hD hD'
  replace hC := Lib.hid hC
  replace hC' := Lib.hid hC'
  replace hE := Lib.hid hE
  replace hE' := Lib.hid hE'
  replace hX := Lib.hid hX
  obtain ⟨a, c, rfl⟩ := hr.slice
  clear p0 q0 r0 p1 q1 r1 hl hr h100 hs0 hs1 fv fw hdf
  generalize l.length = N at *
  go_enter Try.func5, Try.ntmps5
  go_upto_region 1 with fail
  rw [← hw9]
  clear hw9
  go_wp2_with (first | (refine wpList_load_row_g rfl 26 _ rfl w.heap.size rfl 26 (vC k n b s) (0, 0) _ hr0.out Try.underlying26 rfl info_val ?_) | (refine wpList_load_row_g rfl 26 _ rfl (w.heap.size + 1) rfl 26 (vC k' n' b' s') (0, 0) _ hr1.out Try.underlying26 rfl info_val ?_) | (go_at_call 14; (first | (with_reducible refine (hC.out _).mono ?_)); rintro e w9 ⟨rfl, h9⟩; replace hr0 := Lib.hid (rowB hr0.out h9 (Array.getElem?_eq_some_iff.1 hr0.out).1); replace hr1 := Lib.hid (rowB hr1.out h9 (Array.getElem?_eq_some_iff.1 hr1.out).1); replace hbr := Lib.hid (hbr.out.mono h9); replace hS := Lib.hid (hS.out.trans (h9.mono hS.out.size)); clear h9) | (go_at_call 25; (first | (with_reducible refine (hC'.out _).mono ?_)); rintro e w9 ⟨rfl, h9⟩; replace hr0 := Lib.hid (rowB hr0.out h9 (Array.getElem?_eq_some_iff.1 hr0.out).1); replace hr1 := Lib.hid (rowB hr1.out h9 (Array.getElem?_eq_some_iff.1 hr1.out).1); replace hbr := Lib.hid (hbr.out.mono h9); replace hS := Lib.hid (hS.out.trans (h9.mono hS.out.size)); clear h9) | (go_at_call 15; (first | (with_reducible refine (hE.out _).mono ?_)); rintro e w9 ⟨shox, rfl, h8, h9⟩; replace hr0 := Lib.hid (rowB hr0.out h9 (Array.getElem?_eq_some_iff.1 hr0.out).1); replace hr1 := Lib.hid (rowB hr1.out h9 (Array.getElem?_eq_some_iff.1 hr1.out).1); replace hbr := Lib.hid (hbr.out.mono h9); replace hS := Lib.hid (hS.out.trans (h9.mono hS.out.size)); have hox := Lib.hid h8; obtain ⟨ax, cx, rfl⟩ := hox.out.slice; clear h9 h8) | (go_at_call 26; (first | (with_reducible refine (hE'.out _).mono ?_)); rintro e w9 ⟨shoy, rfl, h8, h9⟩; replace hr0 := Lib.hid (rowB hr0.out h9 (Array.getElem?_eq_some_iff.1 hr0.out).1); replace hr1 := Lib.hid (rowB hr1.out h9 (Array.getElem?_eq_some_iff.1 hr1.out).1); replace hbr := Lib.hid (hbr.out.mono h9); replace hox := Lib.hid (hox.out.mono h9); replace hS := Lib.hid (hS.out.trans (h9.mono hS.out.size)); have hoy := Lib.hid h8; obtain ⟨ay, cy, rfl⟩ := hoy.out.slice; clear h9 h8; refine Stop.go'' _ ?_))
  refine StopP.go ?_
  go_upto_region 7 with fail
  have hD1 := Lib.hid (hD.out _ _ hbr.out)
  go_wp2_with (go_at_call 18; (first | (with_reducible refine (hD1.out).mono ?_)); rintro e w3 ⟨rfl, h9⟩; replace hr0 := Lib.hid (rowB hr0.out h9 (Array.getElem?_eq_some_iff.1 hr0.out).1); replace hr1 := Lib.hid (rowB hr1.out h9 (Array.getElem?_eq_some_iff.1 hr1.out).1); replace hbr := Lib.hid (hbr.out.mono h9); replace hox := Lib.hid (hox.out.mono h9); replace hoy := Lib.hid (hoy.out.mono h9); replace hS := Lib.hid (hS.out.trans (h9.mono hS.out.size)); clear h9; refine Stop.go'' _ ?_)
  refine StopP.go ?_
  have h9 := below_a w3 (.cells (vC dk dn db ds) 26)
  have hu := Lib.hid (heap_alloc_new w3 (.cells (vC dk dn db ds) 26))
  replace hr0 := Lib.hid (rowB hr0.out h9 (Array.getElem?_eq_some_iff.1 hr0.out).1)
  replace hr1 := Lib.hid (rowB hr1.out h9 (Array.getElem?_eq_some_iff.1 hr1.out).1)
  replace hbr := Lib.hid (hbr.out.mono h9)
  replace hox := Lib.hid (hox.out.mono h9)
  replace hoy := Lib.hid (hoy.out.mono h9)
  replace hS := Lib.hid (hS.out.trans (h9.mono hS.out.size))
  clear hD hD1 h9
  go_upto_region 8 with fail
  generalize w3.heap.size = gu at *
  generalize w3.alloc (.cells (vC dk dn db ds) 26) = w4 at *
  have hD1 := Lib.hid (hD'.out _ _ hbr.out)
  go_wp2_with (go_at_call 27; (first | (with_reducible refine (hD1.out).mono ?_)); rintro e w5 ⟨rfl, h9⟩; replace hr0 := Lib.hid (rowB hr0.out h9 (Array.getElem?_eq_some_iff.1 hr0.out).1); replace hr1 := Lib.hid (rowB hr1.out h9 (Array.getElem?_eq_some_iff.1 hr1.out).1); replace hbr := Lib.hid (hbr.out.mono h9); replace hox := Lib.hid (hox.out.mono h9); replace hoy := Lib.hid (hoy.out.mono h9); replace hu := Lib.hid (rowB hu.out h9 (Array.getElem?_eq_some_iff.1 hu.out).1); replace hS := Lib.hid (hS.out.trans (h9.mono hS.out.size)); clear h9; refine Stop.go'' _ ?_)
  refine StopP.go ?_
  have h9 := below_a w5 (.cells (vC dk dn db ds) 26)
  have hz := Lib.hid (heap_alloc_new w5 (.cells (vC dk dn db ds) 26))
  replace hr0 := Lib.hid (rowB hr0.out h9 (Array.getElem?_eq_some_iff.1 hr0.out).1)
  replace hr1 := Lib.hid (rowB hr1.out h9 (Array.getElem?_eq_some_iff.1 hr1.out).1)
  replace hbr := Lib.hid (hbr.out.mono h9)
  replace hox := Lib.hid (hox.out.mono h9)
  replace hoy := Lib.hid (hoy.out.mono h9)
  replace hu := Lib.hid (rowB hu.out h9 (Array.getElem?_eq_some_iff.1 hu.out).1)
  replace hS := Lib.hid (hS.out.trans (h9.mono hS.out.size))
  clear hD' hD1 h9
  go_upto_region 9 with fail
  generalize w5.heap.size = gz at *
  generalize w5.alloc (.cells (vC dk dn db ds) 26) = w9 at *
  have hq0 := same_any _ _ X X w9 (Nat.le_trans hX.out (by decide)) hox.out hoy.out
  rw [sameF_self] at hq0
  have hSB := Lib.hid (hq0.mono fun e w' (h : e = .returned (.bool true) ∧ Draws w9 w') => (show e = .returned (.bool true) ∧ Below w9.heap.size w9 w' from ⟨h.1, h.2.below (Below.refl w9.heap.size w9)⟩))
  clear hq0 hC hC' hE hE'
  go_wp2_with (first | (refine wpList_load_row_g rfl 26 _ rfl gu rfl 26 (vC dk dn db ds) (0, 0) _ hu.out Try.underlying26 rfl info_val ?_) | (refine wpList_load_row_g rfl 26 _ rfl gz rfl 26 (vC dk dn db ds) (0, 0) _ hz.out Try.underlying26 rfl info_val ?_) | (refine wpList_run_g rfl (.bool true) (run_eqlV _ _ dk dn db ds dk dn db ds true rfl rfl rfl (eqB_refl _ _ _ _)) ?_) | (go_at_call 28; (with_reducible refine (hSB.out).mono ?_); rintro e w6 ⟨rfl, h9⟩; replace hu := Lib.hid (rowB hu.out h9 (Array.getElem?_eq_some_iff.1 hu.out).1); replace hz := Lib.hid (rowB hz.out h9 (Array.getElem?_eq_some_iff.1 hz.out).1); replace hS := Lib.hid (hS.out.trans (h9.mono hS.out.size)); clear h9))
  go_ret
  exact ⟨rfl, hS.out⟩
end Go.Proofs.Ytpklfohaifeboaa

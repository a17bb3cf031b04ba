/- WireIDs' walk. -/
import Derived.Test.YtbnoomogdbnheaaI05
namespace Go.Proofs.Ytbnoomogdbnheaa
open Go.RowKit Go.Ytbnoomogdbnheaa
set_option linter.unusedVariables false
set_option maxRecDepth 100000 in
set_option maxHeartbeats 4000000 in
theorem ids_law (n : Nat) (F : List Int) (lv bv : Value) (b : List Int) (w : World) (hrl : RdI w lv n F) (hF : Bytes F) (hrb : RdB w bv b) (hb : Bytes b) :
    Calls Try.prog 8 #[lv, bv] w fun e w' => e = .returned (.bool true) ∧ Below w.heap.size w w' := by
  have hal := Lib.hid (fun wi => alive_any wi)
  by_cases hlen : n ≤ 60 ∧ b.length ≤ 2000
  · obtain ⟨hn, hbl⟩ := hlen
    have hFl := Lib.hid hrl.len
    have hbby := Lib.hid hb
    have hFb := Lib.hid hF
    have hL9 := numL_le n (by omega)
    have hL1 := numL_pos n
    cases hri : riseF F n with
    | false =>
      have c1 := Lib.hid (ids_order F n lv w hrl hF hn hri)
      have c2' := fun wi (hw : Below w.heap.size w wi) => rising_any F n lv wi (hrl.mono hw) hF (by omega)
      rw [hri] at c2'
      have c2 := Lib.hid c2'
      obtain ⟨LB, hLB⟩ : ∃ LB, b.length = LB := ⟨_, rfl⟩
      have lb := Lib.hid hLB
      obtain ⟨la, lc, rfl⟩ := hrl.slice
      obtain ⟨ba, bc, rfl⟩ := hrb.slice
      rw [hLB] at hrb hbl ⊢
      have hrb' := Lib.hid hrb
      clear hrb hrl hF hb hLB hri c2'
      go_enter Try.func8, Try.ntmps8
      go_wp2_with (first
        | (go_at_call 14; (with_reducible refine (c1.out).mono ?_); rintro e w1 ⟨rfl, hb⟩; have hB1 := Lib.hid hb; clear hb)
        | (go_at_call 32; (with_reducible refine (c2.out _ hB1.out).mono ?_); rintro e w2 ⟨rfl, hb⟩; have hBt := Lib.hid (hB1.out.trans (hb.mono hB1.out.size)); clear hb; refine Stop.go'' _ ?_))
      refine StopP.go ?_
      have rdb := Lib.hid (hrb'.out.mono hBt.out)
      clear hrb' c1 c2 hB1
      rcases readIDs_ans b _ w2 rdb.out hbby.out (by rw [lb.out]; omega) with hno | ⟨n2, V, F2, hy⟩
      · unfold AnsNo at hno
        have cF := Lib.hid hno
        clear hno
        go_wp2_with (first
          | (go_at_call 15; (with_reducible refine (cF.out _ (Below.refl _ _)).mono ?_); rintro e wz ⟨rfl, hb⟩; have hBz := Lib.hid (hBt.out.trans (hb.mono hBt.out.size)); clear hb)
          | (go_at_call 17; (with_reducible refine (hal.out _).mono ?_); rintro e w10 ⟨rfl, hb⟩; have hB10 := Lib.hid (hBz.out.trans (hb.mono hBz.out.size)); clear hb))
        go_ret
        exact ⟨rfl, hB10.out⟩
      · have hlen2 := Lib.hid hy.len
        have hby2 := Lib.hid hy.byt
        have hri2 := Lib.hid hy.rise
        have htk := Lib.hid hy.tak
        have hpos := hy.pos
        have hle0 := hy.le
        have hn2 := hy.n60
        have cF := Lib.hid hy.ans
        rw [lb.out] at hle0
        have hL2 := numL_le n2 (by omega)
        have hVb : V ≤ bc := Nat.le_trans hle0 (rdB_cap rdb.out)
        have hnl2 := Lib.hid (show (numB n2 ++ F2).length = numL n2 + 32 * n2 by rw [List.length_append, numB_length, hlen2.out])
        have rV0 := rdB_take rdb.out V hle0
        rw [htk.out] at rV0
        have rV := Lib.hid rV0
        clear hy rV0 htk
        go_wp2_with (first
          | (go_at_call 15; (with_reducible refine (cF.out _ (Below.refl _ _)).mono ?_); rintro e wr ⟨rfl, hg, hb⟩; have hBr := Lib.hid (hBt.out.trans (hb.mono hBt.out.size)); have rV := Lib.hid (rV.out.mono hb); have rdm := Lib.hid (rdI_row hg n2 hlen2.out (by omega)); have cG := Lib.hid (ids_ok F2 n2 _ wr rdm.out hby2.out hn2 hri2.out); clear hg hb)
          | (go_at_call 14; (with_reducible refine (cG.out).mono ?_); rintro e wq ⟨gq, rfl, hg0, hg, hb⟩; have hBq := Lib.hid (hBr.out.trans (hb.mono hBr.out.size)); have rV := Lib.hid (rV.out.mono hb); have rdq := Lib.hid (rdB_row hg _ hnl2.out (by unfold maxLen; omega)); have cR := rising_any F2 n2 _ wq (rdm.out.mono hb) hby2.out (by omega); rw [hri2.out] at cR; have cR := Lib.hid cR; clear hg hb hg0)
          | (go_at_call 32; (with_reducible refine (cR.out).mono ?_); rintro e wp ⟨rfl, hb⟩; have hBp := Lib.hid (hBq.out.trans (hb.mono hBq.out.size)); have cs := Lib.hid (same_yesW _ _ (numB n2 ++ F2) wp (by rw [hnl2.out]; omega) (rdq.out.mono hb) (rV.out.mono hb)); clear hb)
          | (go_at_call 22; (with_reducible refine (cs.out).mono ?_); rintro e wu ⟨rfl, hd⟩; have hBu := Lib.hid (hd.below hBp.out); clear hd)
          | (go_at_call 17; (with_reducible refine (hal.out _).mono ?_); rintro e w10 ⟨rfl, hb⟩; have hB10 := Lib.hid (hBu.out.trans (hb.mono hBu.out.size)); clear hb))
        go_ret
        exact ⟨rfl, hB10.out⟩
    | true =>
      have c1 := Lib.hid (ids_ok F n lv w hrl hF hn hri)
      have c2' := fun wi (hw : Below w.heap.size w wi) => rising_any F n lv wi (hrl.mono hw) hF (by omega)
      rw [hri] at c2'
      have c2 := Lib.hid c2'
      have r1 := Lib.hid (fun v wi h => readIDs_back F b n hFl.out hF hb hn hri hbl v wi h)
      have k1 := Lib.hid (fun v wi h => readIDs_cut F n hFl.out hF hn v wi h)
      have lx := Lib.hid (show (numB n ++ F).length = numL n + 32 * n by rw [List.length_append, numB_length, hFl.out])
      obtain ⟨LB, hLB⟩ : ∃ LB, b.length = LB := ⟨_, rfl⟩
      have lb := Lib.hid hLB
      obtain ⟨la, lc, rfl⟩ := hrl.slice
      obtain ⟨ba, bc, rfl⟩ := hrb.slice
      rw [hLB] at hrb hbl ⊢
      have hrb' := Lib.hid hrb
      have hrl' := Lib.hid hrl
      clear hrb hrl hF hb hLB hri c2'
      generalize numB n ++ F = BX at *
      generalize numL n = L at *
      obtain ⟨LX, hLX⟩ : ∃ LX, L + 32 * n = LX := ⟨_, rfl⟩
      rw [hLX] at c1 r1 k1 lx
      have qx : 1 ≤ LX := by omega
      have px : LX ≤ 2000 := by omega
      clear hLX
      obtain ⟨X1, hX1⟩ : ∃ X1 : Nat, (LX : Int) - 1 = (X1 : Int) := ⟨LX - 1, by omega⟩
      have tX : LX - 1 = X1 := by omega
      rw [tX] at k1
      clear tX
      have hxne : ((LX : Int) == 0) = false := by simp; omega
      go_enter Try.func8, Try.ntmps8
      go_wp2_with (first
        | (go_at_call 14; (with_reducible refine (c1.out).mono ?_); rintro e w1 ⟨g1, rfl, hg0, hg, hb⟩; have hB1 := Lib.hid hb; have rdx := Lib.hid (rdB_row hg LX lx.out (by unfold maxLen; omega)); clear hg hb hg0)
        | (go_at_call 32; (with_reducible refine (c2.out _ hB1.out).mono ?_); rintro e w2 ⟨rfl, hb⟩; have hB2 := Lib.hid (hB1.out.trans (hb.mono hB1.out.size)); have rdx := Lib.hid (rdx.out.mono hb); clear hb; refine Stop.go'' _ ?_))
      refine StopP.go ?_
      have rdb := Lib.hid (hrb'.out.mono hB2.out)
      have rdl := Lib.hid (hrl'.out.mono hB2.out)
      clear hrb' hrl' c1 c2 hB1
      have ox := Lib.hid (own_nil w2)
      have rx := Lib.hid (rdx.out.mono (below_a1 w2 (.cells #[] 5)))
      go_wp2_with (refine appendB rfl _ _ 26 rfl w2.heap.size 5 Try.underlying26 (by kernel_rfl) _ rfl [] ox.out _ rfl BX rx.out (by simp; rw [lx.out]; omega) (by simp) ?_)
      intro v1 wa h1 h2
      have hA := (below_a1 w2 (.cells #[] 5)).trans (ox.out.below h2 (by simp))
      obtain ⟨va, vc, rfl⟩ := own_slice h1 _ lx.out
      have o1 := Lib.hid h1
      have hA' := Lib.hid hA
      have hzA := hA.size
      have rb := Lib.hid ((rdb.out).mono hA)
      clear h1 h2 hA ox rx
      refine Stop.go ?_
      go_wp2_with (refine appendB rfl _ _ 26 rfl w2.heap.size 5 Try.underlying26 (by kernel_rfl) _ rfl BX o1.out _ rfl b rb.out (by rw [lx.out, lb.out]; omega) hzA ?_)
      intro v2 w5 h1 h2
      have hA := hA'.out.trans (o1.out.below h2 hzA)
      have hcat := Lib.hid h1.rd
      obtain ⟨va2, vc2, rfl⟩ := own_slice h1 _ (show (BX ++ b).length = _ from by rw [List.length_append, lx.out, lb.out])
      have hN := Lib.hid hA
      clear h1 h2 hA hA' hzA o1 rb
      refine Stop.go ?_

      have hB5 := Lib.hid (hB2.out.trans (hN.out.mono hB2.out.size))
      have rdx := Lib.hid (rdx.out.mono hN.out); have rdl := Lib.hid (rdl.out.mono hN.out); have rdb := Lib.hid (rdb.out.mono hN.out)
      clear hN hB2
      go_wp2_with (first
        | (go_at_call 15; (with_reducible refine (r1.out _ _ hcat.out).mono ?_); rintro e w6 ⟨rfl, hg, hb⟩; have hB6 := Lib.hid (hB5.out.trans (hb.mono hB5.out.size)); have rdx := Lib.hid (rdx.out.mono hb); have rdb := Lib.hid (rdb.out.mono hb); have cs0 := sameIDs_any n n F F _ _ w6 (by omega) (rdl.out.mono hb) (rdI_row hg n hFl.out (by omega)); rw [sameF_self] at cs0; have cs := Lib.hid cs0; clear hg hb cs0)
        | (go_at_call 16; (with_reducible refine (cs.out).mono ?_); rintro e w7 ⟨rfl, hd⟩; have hB7 := Lib.hid (hd.below hB6.out); have rx1 := Lib.hid (rdB_take (draws_rdB hd rdx.out) X1 (by omega)); have rdb := Lib.hid (draws_rdB hd rdb.out); clear hd; refine Stop.go'' _ ?_))
      refine StopP.go ?_
      clear hcat r1 hB5 hB6 cs rdl rdx
      go_wp2_with (go_at_call 15; (with_reducible refine (k1.out _ _ rx1.out).mono ?_); rintro e w' ⟨rfl, rfl⟩; refine Stop.go'' _ ?_)
      refine StopP.go ?_
      have hBt := hB7
      clear k1 rx1 hB7 hX1 hxne
      rcases readIDs_ans b _ w7 rdb.out hbby.out (by rw [lb.out]; omega) with hno | ⟨n2, V, F2, hy⟩
      · unfold AnsNo at hno
        have cF := Lib.hid hno
        clear hno
        go_wp2_with (first
          | (go_at_call 15; (with_reducible refine (cF.out _ (Below.refl _ _)).mono ?_); rintro e wz ⟨rfl, hb⟩; have hBz := Lib.hid (hBt.out.trans (hb.mono hBt.out.size)); clear hb)
          | (go_at_call 17; (with_reducible refine (hal.out _).mono ?_); rintro e w10 ⟨rfl, hb⟩; have hB10 := Lib.hid (hBz.out.trans (hb.mono hBz.out.size)); clear hb))
        go_ret
        exact ⟨rfl, hB10.out⟩
      · have hlen2 := Lib.hid hy.len
        have hby2 := Lib.hid hy.byt
        have hri2 := Lib.hid hy.rise
        have htk := Lib.hid hy.tak
        have hpos := hy.pos
        have hle0 := hy.le
        have hn2 := hy.n60
        have cF := Lib.hid hy.ans
        rw [lb.out] at hle0
        have hL2 := numL_le n2 (by omega)
        have hVb : V ≤ bc := Nat.le_trans hle0 (rdB_cap rdb.out)
        have hnl2 := Lib.hid (show (numB n2 ++ F2).length = numL n2 + 32 * n2 by rw [List.length_append, numB_length, hlen2.out])
        have rV0 := rdB_take rdb.out V hle0
        rw [htk.out] at rV0
        have rV := Lib.hid rV0
        clear hy rV0 htk
        go_wp2_with (first
          | (go_at_call 15; (with_reducible refine (cF.out _ (Below.refl _ _)).mono ?_); rintro e wr ⟨rfl, hg, hb⟩; have hBr := Lib.hid (hBt.out.trans (hb.mono hBt.out.size)); have rV := Lib.hid (rV.out.mono hb); have rdm := Lib.hid (rdI_row hg n2 hlen2.out (by omega)); have cG := Lib.hid (ids_ok F2 n2 _ wr rdm.out hby2.out hn2 hri2.out); clear hg hb)
          | (go_at_call 14; (with_reducible refine (cG.out).mono ?_); rintro e wq ⟨gq, rfl, hg0, hg, hb⟩; have hBq := Lib.hid (hBr.out.trans (hb.mono hBr.out.size)); have rV := Lib.hid (rV.out.mono hb); have rdq := Lib.hid (rdB_row hg _ hnl2.out (by unfold maxLen; omega)); have cR := rising_any F2 n2 _ wq (rdm.out.mono hb) hby2.out (by omega); rw [hri2.out] at cR; have cR := Lib.hid cR; clear hg hb hg0)
          | (go_at_call 32; (with_reducible refine (cR.out).mono ?_); rintro e wp ⟨rfl, hb⟩; have hBp := Lib.hid (hBq.out.trans (hb.mono hBq.out.size)); have cs := Lib.hid (same_yesW _ _ (numB n2 ++ F2) wp (by rw [hnl2.out]; omega) (rdq.out.mono hb) (rV.out.mono hb)); clear hb)
          | (go_at_call 22; (with_reducible refine (cs.out).mono ?_); rintro e wu ⟨rfl, hd⟩; have hBu := Lib.hid (hd.below hBp.out); clear hd)
          | (go_at_call 17; (with_reducible refine (hal.out _).mono ?_); rintro e w10 ⟨rfl, hb⟩; have hB10 := Lib.hid (hBu.out.trans (hb.mono hBu.out.size)); clear hb))
        go_ret
        exact ⟨rfl, hB10.out⟩
  · obtain ⟨la, lc, rfl⟩ := hrl.slice
    obtain ⟨ba, bc, rfl⟩ := hrb.slice
    clear hrl hrb hF hb
    generalize b.length = LB at *
    by_cases h1 : n ≤ 60
    · have h2 : 2000 < LB := by omega
      clear hlen
      go_enter Try.func8, Try.ntmps8
      go_wp2_with (go_at_call 17; (with_reducible refine (hal.out _).mono ?_); rintro e w10 ⟨rfl, hb⟩; have hB10 := Lib.hid hb; clear hb)
      go_ret
      exact ⟨rfl, hB10.out⟩
    · have h2 : 60 < n := by omega
      clear hlen h1
      go_enter Try.func8, Try.ntmps8
      go_wp2_with (go_at_call 17; (with_reducible refine (hal.out _).mono ?_); rintro e w10 ⟨rfl, hb⟩; have hB10 := Lib.hid hb; clear hb)
      go_ret
      exact ⟨rfl, hB10.out⟩
end Go.Proofs.Ytbnoomogdbnheaa

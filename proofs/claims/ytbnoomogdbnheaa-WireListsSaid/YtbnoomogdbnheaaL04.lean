/- WireLists' walk. -/
import Derived.Test.YtbnoomogdbnheaaL03
namespace Go.Proofs.Ytbnoomogdbnheaa
open Go.RowKit Go.Ytbnoomogdbnheaa
set_option linter.unusedVariables false
/-- The bytes that the law changes: each cell is a byte, and nothing else has turned. -/
def Churned (g LB : Nat) (T : TypeId) (w wr : World) : Prop := (∀ j, j ≠ g → wr.heap[j]? = w.heap[j]?) ∧ wr.heap.size = w.heap.size ∧ ∃ cs, wr.heap[g]? = some (.cells cs T (0, 0)) ∧ ∀ i, i < LB → ∃ x, cs[i]? = some (.int .u8 x)
theorem churned_set {g LB : Nat} {T : TypeId} {w wr : World} (h : Churned g LB T w wr) (k : Nat) (y : Int) : Churned g LB T w (wr.setCell ⟨g, k, none⟩ (.int .u8 y)) := by
  obtain ⟨h1, h2, cs, h3, h4⟩ := h
  refine ⟨fun j hj => (setCell_rows _ _ _ _ hj).trans (h1 j hj), by simp [World.setCell, h2], _, setCell_row h3 k _, fun i hi => ?_⟩
  obtain ⟨x, hx⟩ := h4 i hi
  rw [Array.getElem?_setIfInBounds]
  split
  · split
    · exact ⟨y, rfl⟩
    · rename_i h5 h6
      subst h5
      rw [Array.getElem?_eq_none (by omega)] at hx; cases hx
  · exact ⟨x, hx⟩
set_option maxRecDepth 100000 in
set_option maxHeartbeats 4000000 in
theorem lists_law (bv lv : Value) (b : List Int) (n : Nat) (F : List Int) (most : Int) (hmx : most ≤ 9223372036854775807) (w : World) (hrb : RdB w bv b) (hb : Bytes b) (hrl : RdI w lv n F) (hF : Bytes F) :
    Calls Try.prog 5 #[bv, lv, .int .i64 most] w fun e w' => e = .returned (.bool true) ∧ Below w.heap.size w w' := by
  by_cases hg : (b.length ≤ 3000 ∨ 10000 < b.length ∧ b.length ≤ 12000) ∧ n ≤ 80
  · obtain ⟨hg1, hn⟩ := hg
    have hb12 : b.length ≤ 12000 := by omega
    obtain ⟨p1⟩ := bytes_pair b hb12
    obtain ⟨p2⟩ := read_pair b hb hb12 most hmx
    obtain ⟨p3⟩ := ids_pair n F hrl.len hF
    obtain ⟨p4⟩ := readI_pair b hb hb12 most hmx
    obtain ⟨LA, EA, lenA, oneA, twoA⟩ := p1
    obtain ⟨LR, UR, ER, lenR, oneR, twoR⟩ := p2
    obtain ⟨LI, EI, lenI, oneI, twoI⟩ := p3
    obtain ⟨nJ, FJ, UJ, EJ, lenJ, oneJ, twoJ⟩ := p4
    have c1 := Lib.hid oneA; have c2 := Lib.hid twoA; have c3 := Lib.hid oneR; have c4 := Lib.hid twoR; have c5 := Lib.hid oneI; have c6 := Lib.hid twoI; have c7 := Lib.hid oneJ; have c8 := Lib.hid twoJ
    obtain ⟨LB, hLB⟩ : ∃ LB, b.length = LB := ⟨_, rfl⟩
    have lb := Lib.hid hLB
    obtain ⟨ba, bc, rfl⟩ := hrb.slice
    obtain ⟨la, lc, rfl⟩ := hrl.slice
    rw [hLB] at hrb hb12 hg1 ⊢
    have ox := Lib.hid (own_nil w)
    have rb0 := Lib.hid (hrb.mono (below_a1 w (.cells #[] 5)))
    have rl0 := Lib.hid hrl
    have rbb := Lib.hid hrb
    clear hrb hrl hb hF hLB oneA twoA oneR twoR oneI twoI oneJ twoJ
    rcases hg1 with hg1 | hg1
    all_goals
      go_enter Try.func5, Try.ntmps5
      go_wp2_with (refine appendB rfl _ _ 26 rfl w.heap.size 5 Try.underlying26 (by kernel_rfl) _ rfl [] ox.out _ rfl b rb0.out (by simp; rw [lb.out]; omega) (by simp) ?_)
      intro own w1 h1 h2
      have hB1 := (below_a1 w (.cells #[] 5)).trans (ox.out.below h2 (by simp))
      obtain ⟨oa, oc, rfl⟩ := own_slice h1 _ lb.out
      have ow := Lib.hid h1
      have hB1' := Lib.hid hB1
      have hBw := Lib.hid (Below.refl w1.heap.size w1)
      have rdo := Lib.hid h1.rd
      have rdb := Lib.hid (rbb.out.mono hB1)
      have rdl := Lib.hid (rl0.out.mono hB1)
      clear h1 h2 hB1 ox rb0 rl0 rbb
      refine Stop.go ?_
      go_wp2_with (first
        | (go_at_call 12; (with_reducible refine (c1.out _ _ rdo.out).mono ?_); rintro e v1 ⟨r1, rfl, hh, hb⟩; have hr1 := Lib.hid (heldB_lower hh hBw.out.size);  have rdo := Lib.hid (rdo.out.mono hb); have rdb := Lib.hid (rdb.out.mono hb); have rdl := Lib.hid (rdl.out.mono hb); have hBw := Lib.hid (hBw.out.trans (hb.mono hBw.out.size)); clear hh hb)
        | (go_at_call 27; (with_reducible refine (c2.out _ _ rdb.out).mono ?_); rintro e v2 ⟨r2, rfl, hh, hb⟩; have hr2 := Lib.hid (heldB_lower hh hBw.out.size); have hr1 := Lib.hid (heldB_mono hr1.out hb); have rdo := Lib.hid (rdo.out.mono hb); have rdb := Lib.hid (rdb.out.mono hb); have rdl := Lib.hid (rdl.out.mono hb); have hBw := Lib.hid (hBw.out.trans (hb.mono hBw.out.size)); clear hh hb)
        | (go_at_call 13; (with_reducible refine (c3.out _ _ rdo.out).mono ?_); rintro e v3 ⟨r3, rfl, hh, hb⟩; have hr3 := Lib.hid (heldB_lower hh hBw.out.size); have hr1 := Lib.hid (heldB_mono hr1.out hb); have hr2 := Lib.hid (heldB_mono hr2.out hb); have rdo := Lib.hid (rdo.out.mono hb); have rdb := Lib.hid (rdb.out.mono hb); have rdl := Lib.hid (rdl.out.mono hb); have hBw := Lib.hid (hBw.out.trans (hb.mono hBw.out.size)); clear hh hb)
        | (go_at_call 28; (with_reducible refine (c4.out _ _ rdb.out).mono ?_); rintro e v4 ⟨r4, rfl, hh, hb⟩; have hr4 := Lib.hid (heldB_lower hh hBw.out.size); have hr1 := Lib.hid (heldB_mono hr1.out hb); have hr2 := Lib.hid (heldB_mono hr2.out hb); have hr3 := Lib.hid (heldB_mono hr3.out hb); have rdo := Lib.hid (rdo.out.mono hb); have rdb := Lib.hid (rdb.out.mono hb); have rdl := Lib.hid (rdl.out.mono hb); have hBw := Lib.hid (hBw.out.trans (hb.mono hBw.out.size)); clear hh hb)
        | (go_at_call 14; (with_reducible refine (c5.out _ _ rdl.out).mono ?_); rintro e v5 ⟨r5, rfl, hh, hb⟩; have hr5 := Lib.hid (heldB_lower hh hBw.out.size); have hr1 := Lib.hid (heldB_mono hr1.out hb); have hr2 := Lib.hid (heldB_mono hr2.out hb); have hr3 := Lib.hid (heldB_mono hr3.out hb); have hr4 := Lib.hid (heldB_mono hr4.out hb); have rdo := Lib.hid (rdo.out.mono hb); have rdb := Lib.hid (rdb.out.mono hb); have rdl := Lib.hid (rdl.out.mono hb); have hBw := Lib.hid (hBw.out.trans (hb.mono hBw.out.size)); clear hh hb)
        | (go_at_call 29; (with_reducible refine (c6.out _ _ rdl.out).mono ?_); rintro e v6 ⟨r6, rfl, hh, hb⟩; have hr6 := Lib.hid (heldB_lower hh hBw.out.size); have hr1 := Lib.hid (heldB_mono hr1.out hb); have hr2 := Lib.hid (heldB_mono hr2.out hb); have hr3 := Lib.hid (heldB_mono hr3.out hb); have hr4 := Lib.hid (heldB_mono hr4.out hb); have hr5 := Lib.hid (heldB_mono hr5.out hb); have rdo := Lib.hid (rdo.out.mono hb); have rdb := Lib.hid (rdb.out.mono hb); have rdl := Lib.hid (rdl.out.mono hb); have hBw := Lib.hid (hBw.out.trans (hb.mono hBw.out.size)); clear hh hb)
        | (go_at_call 15; (with_reducible refine (c7.out _ _ rdo.out).mono ?_); rintro e v7 ⟨r7, rfl, hh, hb⟩; have hr7 := Lib.hid (heldI_lower hh hBw.out.size); have hr1 := Lib.hid (heldB_mono hr1.out hb); have hr2 := Lib.hid (heldB_mono hr2.out hb); have hr3 := Lib.hid (heldB_mono hr3.out hb); have hr4 := Lib.hid (heldB_mono hr4.out hb); have hr5 := Lib.hid (heldB_mono hr5.out hb); have hr6 := Lib.hid (heldB_mono hr6.out hb); have rdo := Lib.hid (rdo.out.mono hb); have rdb := Lib.hid (rdb.out.mono hb); have rdl := Lib.hid (rdl.out.mono hb); have hBw := Lib.hid (hBw.out.trans (hb.mono hBw.out.size)); clear hh hb)
        | (go_at_call 30; (with_reducible refine (c8.out _ _ rdb.out).mono ?_); rintro e v8 ⟨r8, rfl, hh, hb⟩; have hr8 := Lib.hid (heldI_lower hh hBw.out.size); have hr1 := Lib.hid (heldB_mono hr1.out hb); have hr2 := Lib.hid (heldB_mono hr2.out hb); have hr3 := Lib.hid (heldB_mono hr3.out hb); have hr4 := Lib.hid (heldB_mono hr4.out hb); have hr5 := Lib.hid (heldB_mono hr5.out hb); have hr6 := Lib.hid (heldB_mono hr6.out hb); have hr7 := Lib.hid (heldI_mono hr7.out hb); have rdo := Lib.hid (rdo.out.mono hb); have rdb := Lib.hid (rdb.out.mono hb); have rdl := Lib.hid (rdl.out.mono hb); have hBw := Lib.hid (hBw.out.trans (hb.mono hBw.out.size)); clear hh hb; refine Stop.go'' _ ?_))
      refine StopP.go ?_
      clear c1 c2 c3 c4 c5 c6 c7 c8 rdo rdb rdl
      have hBv := Lib.hid (hB1'.out.trans (hBw.out.mono hB1'.out.size))
      rcases ow.out.2 with ⟨he, h0⟩ | ⟨g, cap, cur, he, hbg, hgr, hcn, hcm, hcs, hct⟩
      · obtain ⟨e1, e2, e3⟩ := Value.slice.inj he
        subst e1 e3
        have hLB0 : LB = 0 := e2
        clear he h0 e2
        subst hLB0
        go_wp2
        go_loopw [28] (fun i wr => i = .int .i64 0 ∧ v8 = wr) (fun i _ => 0)
        case atStart => exact ⟨rfl, rfl⟩
        case round =>
          obtain ⟨rfl, rfl⟩ := hrel
          have q1 := Lib.hid (hr1.out v8 (fun k k1 k2 => rfl) (Nat.le_refl _)); have q2 := Lib.hid (hr2.out v8 (fun k k1 k2 => rfl) (Nat.le_refl _)); have q3 := Lib.hid (hr3.out v8 (fun k k1 k2 => rfl) (Nat.le_refl _)); have q4 := Lib.hid (hr4.out v8 (fun k k1 k2 => rfl) (Nat.le_refl _))
          have q5 := Lib.hid (hr5.out v8 (fun k k1 k2 => rfl) (Nat.le_refl _)); have q6 := Lib.hid (hr6.out v8 (fun k k1 k2 => rfl) (Nat.le_refl _)); have q7 := Lib.hid (hr7.out v8 (fun k k1 k2 => rfl) (Nat.le_refl _)); have q8 := Lib.hid (hr8.out v8 (fun k k1 k2 => rfl) (Nat.le_refl _))
          have sA := Lib.hid (fun wi (hd : Draws v8 wi) => same_yesW r1 r2 LA wi (by omega) (draws_rdB hd q1.out) (draws_rdB hd q2.out))
          have sR := Lib.hid (fun wi (hd : Draws v8 wi) => same_yesW r3 r4 LR wi (by omega) (draws_rdB hd q3.out) (draws_rdB hd q4.out))
          have sI := Lib.hid (fun wi (hd : Draws v8 wi) => same_yesW r5 r6 LI wi (by omega) (draws_rdB hd q5.out) (draws_rdB hd q6.out))
          have sJ0 := fun wi (hd : Draws v8 wi) => sameIDs_any nJ nJ FJ FJ r7 r8 wi lenJ (q7.out.mono (hd.below (Below.refl _ _))) (q8.out.mono (hd.below (Below.refl _ _)))
          rw [sameF_self] at sJ0
          have sJ := Lib.hid sJ0
          have hDr := Lib.hid (Draws.refl v8)
          have hBf := Lib.hid (hBv.out)
          clear hr1 hr2 hr3 hr4 hr5 hr6 hr7 hr8 q1 q2 q3 q4 q5 q6 q7 q8 sJ0
          go_wp2_with (first
            | (go_at_call 22; (first | (with_reducible refine (sA.out _ hDr.out).mono ?_) | (with_reducible refine (sR.out _ hDr.out).mono ?_) | (with_reducible refine (sI.out _ hDr.out).mono ?_)); rintro e wz ⟨rfl, hd⟩; have hDr := Lib.hid (draws_trans hDr.out hd); clear hd)
            | (go_at_call 16; (with_reducible refine (sJ.out _ hDr.out).mono ?_); rintro e wz ⟨rfl, hd⟩; have hDr := Lib.hid (draws_trans hDr.out hd); clear hd))
          go_ret
          exact ⟨rfl, hDr.out.below hBf.out⟩
      · obtain ⟨e1, e2, e3⟩ := Value.slice.inj he
        subst e1 e3
        have hg1 : g < w1.heap.size := (Array.getElem?_eq_some_iff.1 hgr).1
        have hch0 : Churned g LB 5 v8 v8 := ⟨fun _ _ => rfl, rfl, cur, (hBw.out.block g hg1).trans hgr, fun i hi => ⟨ith b i, by
          have h5 : (cur.toList.take (b.length * 1))[i]? = some (.int .u8 (ith b i)) := by rw [hct]; exact u8v_get _ _ (by rw [lb.out]; exact hi)
          rw [List.getElem?_take, if_pos (by rw [lb.out]; omega), Array.getElem?_toList] at h5
          exact h5⟩⟩
        have hch0' := Lib.hid hch0
        have hLoc : LB ≤ oc := by rw [← lb.out]; exact hcn
        clear he e2 hct hcs hch0 hcm hcn
        go_wp2
        go_loopw [28] (fun i wr => ∃ k : Nat, k ≤ LB ∧ i = .int .i64 k ∧ Below w.heap.size w wr ∧ Churned g LB 5 v8 wr) (fun i _ => LB - (intOf i).toNat)
        case atStart => exact ⟨0, Nat.zero_le _, rfl, hBv.out, hch0'.out⟩
        case round =>
          obtain ⟨k, hk, rfl, hbk, hch⟩ := hrel
          have hbk' := Lib.hid hbk; have hch' := Lib.hid hch
          clear hbk hch
          by_cases hlt : k < LB
          · obtain ⟨_, _, cs, hrow, hx⟩ := hch'.out
            obtain ⟨x, hx⟩ := hx k hlt
            have cc : wr.cell? ⟨g, k, none⟩ = some (.int .u8 x) := by rw [cell_of_row _ _ _ _ _ _ hrow]; exact hx
            have ff := frozen_of_row _ _ k _ _ hrow
            clear hrow hx
            go_wp2
            go_roundw
            case rel => exact ⟨k + 1, by omega, by go_num, hbk'.out.setCell (p := ⟨g, k, none⟩) hbg _, churned_set hch'.out k _⟩
            case measure => simp [intOf]; omega
          · obtain rfl : k = LB := by omega
            have q1 := Lib.hid (hr1.out wr (fun j k1 k2 => hch'.out.1 j (by omega)) (by rw [hch'.out.2.1]; exact Nat.le_refl _)); have q2 := Lib.hid (hr2.out wr (fun j k1 k2 => hch'.out.1 j (by omega)) (by rw [hch'.out.2.1]; exact Nat.le_refl _)); have q3 := Lib.hid (hr3.out wr (fun j k1 k2 => hch'.out.1 j (by omega)) (by rw [hch'.out.2.1]; exact Nat.le_refl _)); have q4 := Lib.hid (hr4.out wr (fun j k1 k2 => hch'.out.1 j (by omega)) (by rw [hch'.out.2.1]; exact Nat.le_refl _))
            have q5 := Lib.hid (hr5.out wr (fun j k1 k2 => hch'.out.1 j (by omega)) (by rw [hch'.out.2.1]; exact Nat.le_refl _)); have q6 := Lib.hid (hr6.out wr (fun j k1 k2 => hch'.out.1 j (by omega)) (by rw [hch'.out.2.1]; exact Nat.le_refl _)); have q7 := Lib.hid (hr7.out wr (fun j k1 k2 => hch'.out.1 j (by omega)) (by rw [hch'.out.2.1]; exact Nat.le_refl _)); have q8 := Lib.hid (hr8.out wr (fun j k1 k2 => hch'.out.1 j (by omega)) (by rw [hch'.out.2.1]; exact Nat.le_refl _))
            have sA := Lib.hid (fun wi (hd : Draws wr wi) => same_yesW r1 r2 LA wi (by omega) (draws_rdB hd q1.out) (draws_rdB hd q2.out))
            have sR := Lib.hid (fun wi (hd : Draws wr wi) => same_yesW r3 r4 LR wi (by omega) (draws_rdB hd q3.out) (draws_rdB hd q4.out))
            have sI := Lib.hid (fun wi (hd : Draws wr wi) => same_yesW r5 r6 LI wi (by omega) (draws_rdB hd q5.out) (draws_rdB hd q6.out))
            have sJ0 := fun wi (hd : Draws wr wi) => sameIDs_any nJ nJ FJ FJ r7 r8 wi lenJ (q7.out.mono (hd.below (Below.refl _ _))) (q8.out.mono (hd.below (Below.refl _ _)))
            rw [sameF_self] at sJ0
            have sJ := Lib.hid sJ0
            have hDr := Lib.hid (Draws.refl wr)
            have hBf := Lib.hid (hbk'.out)
            clear hr1 hr2 hr3 hr4 hr5 hr6 hr7 hr8 q1 q2 q3 q4 q5 q6 q7 q8 sJ0
            go_wp2_with (first
              | (go_at_call 22; (first | (with_reducible refine (sA.out _ hDr.out).mono ?_) | (with_reducible refine (sR.out _ hDr.out).mono ?_) | (with_reducible refine (sI.out _ hDr.out).mono ?_)); rintro e wz ⟨rfl, hd⟩; have hDr := Lib.hid (draws_trans hDr.out hd); clear hd)
              | (go_at_call 16; (with_reducible refine (sJ.out _ hDr.out).mono ?_); rintro e wz ⟨rfl, hd⟩; have hDr := Lib.hid (draws_trans hDr.out hd); clear hd))
            go_ret
            exact ⟨rfl, hDr.out.below hBf.out⟩
  · obtain ⟨ba, bc, rfl⟩ := hrb.slice
    obtain ⟨la, lc, rfl⟩ := hrl.slice
    clear hrb hrl hb hF
    generalize b.length = LB at *
    by_cases h1 : 12000 < LB
    · have h2 : ¬ (LB : Int) ≤ 10000 := by omega
      clear hg
      go_enter Try.func5, Try.ntmps5
      go_wp2
      go_ret
      exact ⟨rfl, Below.refl _ _⟩
    · by_cases h2 : 3000 < LB ∧ LB ≤ 10000
      · obtain ⟨h3, h4⟩ := h2
        clear hg
        go_enter Try.func5, Try.ntmps5
        go_wp2
        go_ret
        exact ⟨rfl, Below.refl _ _⟩
      · have h3 : 80 < n := by omega
        by_cases h4 : 3000 < LB
        · have h5 : 10000 < LB := by omega
          clear hg h2
          go_enter Try.func5, Try.ntmps5
          go_wp2
          go_ret
          exact ⟨rfl, Below.refl _ _⟩
        · have h5 : LB ≤ 3000 := by omega
          clear hg h2
          go_enter Try.func5, Try.ntmps5
          go_wp2
          go_ret
          exact ⟨rfl, Below.refl _ _⟩
end Go.Proofs.Ytbnoomogdbnheaa

/- Layer 7: FrameDiffer's walk. -/
import Derived.Test.YtegffpjhdodldaaF20
import Derived.Test.YtegffpjhdodldaaF21
import Derived.Test.YtegffpjhdodldaaRowF
namespace Go.Proofs.Ytegffpjhdodldaa
open Go.RowKit Go.Ytegffpjhdodldaa
set_option linter.unusedVariables false
theorem own_rdS {w : World} {v : Value} {l : List Int} (h : RdB w v l) (k : Nat) (hk : l.length = k) : ∃ a c, v = .slice a k c := by
  subst hk
  exact h.slice
theorem sameF_no {a b : List Int} (h : a ≠ b) : sameF a b = false := by simp [sameF, h]
theorem sameFr_eq {f g : Fr} (hf : f.Fit) (hg : g.Fit) (h : sameFr f g = true) : f = g := by
  unfold sameFr sameL at h
  simp only [Bool.and_eq_true, decide_eq_true_eq] at h
  obtain ⟨h1, h2, h3, h4⟩ := h
  unfold sameF at h3
  rw [decide_eq_true_eq] at h3
  have h5 := hf.len
  rw [h3, hg.len] at h5
  obtain ⟨k, N, n, F, L⟩ := f
  obtain ⟨k', N', n', F', L'⟩ := g
  dsimp only at *
  obtain rfl : n' = n := by omega
  subst h1 h2 h3 h4
  rfl
theorem differ_left {f g : Fr} (hf : f.Fit) (hg : g.Fit) (h0 : frOk f = true) (h1 : frOk g = true) (n : Nat) (hn : (frB f).length = n) (hl : n ≤ (frB g).length) : sameF (frB f) ((frB g).take n) = sameFr f g := by
  cases hs : sameFr f g
  · refine sameF_no fun e => ?_
    have e2 : f = g := fr_prefix hf hg (frOk_parts h0).1 (frOk_parts h1).1 (t := (frB g).drop n) (by rw [e, List.take_append_drop])
    rw [e2, sameFr_me] at hs
    cases hs
  · have e := sameFr_eq hf hg hs
    subst e
    rw [← hn, List.take_length, sameF_self]
theorem differ_right {f g : Fr} (hf : f.Fit) (hg : g.Fit) (h0 : frOk f = true) (h1 : frOk g = true) (n : Nat) (hn : (frB g).length = n) (hl : n ≤ (frB f).length) : sameF ((frB f).take n) (frB g) = sameFr f g := by
  cases hs : sameFr f g
  · refine sameF_no fun e => ?_
    have e2 : g = f := fr_prefix hg hf (frOk_parts h1).1 (frOk_parts h0).1 (t := (frB f).drop n) (by rw [← e, List.take_append_drop])
    rw [e2, sameFr_me] at hs
    cases hs
  · have e := sameFr_eq hf hg hs
    subst e
    rw [← hn, List.take_length, sameF_self]
set_option maxHeartbeats 4000000 in
set_option maxRecDepth 100000 in
theorem differ_f (f g : Fr) (rf : f.Raw) (rg : g.Raw) (iv ov jv pv : Value) (w : World) (hi : RdI w iv f.n f.F) (ho : RdS w ov f.L) (hj : RdI w jv g.n g.F) (hp : RdS w pv g.L) :
    Calls Try.prog 7 #[.agg (f.c iv ov), .agg (g.c jv pv)] w fun e w' => e = .returned (.bool true) ∧ Below w.heap.size w w' := by
  obtain ⟨W, hW⟩ : ∃ W, W = (w.alloc (.cells (f.c iv ov) 26)).alloc (.cells (g.c jv pv) 26) := ⟨_, rfl⟩
  have hr0 : W.heap[w.heap.size]? = some (.cells (f.c iv ov) 26 (0, 0)) := by rw [hW]; exact rowB (heap_alloc_new w _) (below_a _ _) (by simp)
  have hr1 : W.heap[w.heap.size + 1]? = some (.cells (g.c jv pv) 26 (0, 0)) := by rw [hW]; exact hn2 w _ _
  have hb0 : Below w.heap.size w W := by rw [hW]; exact ((Below.refl w.heap.size w).alloc (Nat.le_refl _) _).alloc (by simp) _
  have lf := hi.len
  have lg := hj.len
  obtain ⟨ia, ic, rfl⟩ := hi.slice
  obtain ⟨oa, oc, rfl⟩ := ho.slice
  obtain ⟨ja, jc, rfl⟩ := hj.slice
  obtain ⟨pa, pc, rfl⟩ := hp.slice
  have hb1 := Lib.hid hb0
  have hlt := Lib.hid (Array.getElem?_eq_some_iff.1 hr0).1
  have hlt1 := Lib.hid (Array.getElem?_eq_some_iff.1 hr1).1
  have hrow := Lib.hid (fun (wz : World) (h : Below W.heap.size W wz) => rowB hr0 h hlt.out)
  have hsow := Lib.hid (fun (wz : World) (h : Below W.heap.size W wz) => rowB hr1 h hlt1.out)
  have hI := Lib.hid (fun (wz : World) (h : Below W.heap.size W wz) => (hi.mono hb0).mono h)
  have hO := Lib.hid (fun (wz : World) (h : Below W.heap.size W wz) => (ho.mono hb0).mono h)
  have hJ := Lib.hid (fun (wz : World) (h : Below W.heap.size W wz) => (hj.mono hb0).mono h)
  have hP := Lib.hid (fun (wz : World) (h : Below W.heap.size W wz) => (hp.mono hb0).mono h)
  have hB := Lib.hid (Below.refl W.heap.size W)
  have gF := Lib.hid (fun (R : Bool) (hy : f.Small → R = false) (hn : ¬ f.Small → R = true) (wz : World) (h : Below W.heap.size W wz) => great_any f R hy hn _ _ wz (hI.out wz h) (hO.out wz h))
  have gG := Lib.hid (fun (R : Bool) (hy : g.Small → R = false) (hn : ¬ g.Small → R = true) (wz : World) (h : Below W.heap.size W wz) => great_any g R hy hn _ _ wz (hJ.out wz h) (hP.out wz h))
  clear hr0 hr1 hb0 hi ho hj hp
  by_cases sf : f.Small
  · replace gF := Lib.hid (gF.out false (fun _ => rfl) (fun h => absurd sf h))
    by_cases sg : g.Small
    · replace gG := Lib.hid (gG.out false (fun _ => rfl) (fun h => absurd sg h))
      have ff := small_fit rf.k rf.N rf.F rf.L lf sf
      have fg := small_fit rg.k rg.N rg.F rg.L lg sg
      have cF := Lib.hid (fun (wz : World) (h : Below W.heap.size W wz) => rCheckF_any f ff _ _ wz (hI.out wz h) (hO.out wz h))
      have cG := Lib.hid (fun (wz : World) (h : Below W.heap.size W wz) => rCheckF_any g fg _ _ wz (hJ.out wz h) (hP.out wz h))
      cases h0 : frOk f
      · rw [chkR_not h0] at cF
        clear rf rg lf lg sf sg ff fg h0 cG hI hO hJ hP
        go_enter Try.func7, Try.ntmps7
        go_upto_region 1 with fail
        rw [← hW]
        clear hW
        go_wp2_with (first | (refine wpList_load_row_g rfl 26 _ rfl w.heap.size rfl 26 (f.c (.slice ia f.n ic) (.slice oa f.L.length oc)) (0, 0) _ (hrow.out _ hB.out) Try.underlying26 rfl info_frame ?_) | (refine wpList_load_row_g rfl 26 _ rfl (w.heap.size + 1) rfl 26 (g.c (.slice ja g.n jc) (.slice pa g.L.length pc)) (0, 0) _ (hsow.out _ hB.out) Try.underlying26 rfl info_frame ?_) | (go_at_call 9; (first | (with_reducible refine (gF.out _ hB.out).mono ?_) | (with_reducible refine (gG.out _ hB.out).mono ?_)); rintro e w4 ⟨rfl, q2⟩; replace hB := Lib.hid (hB.out.trans (Below.mono q2 hB.out.size)); clear q2) | (go_at_call 16; (first | (with_reducible refine (cF.out _ hB.out).mono ?_)); rintro e w4 ⟨rfl, q2⟩; replace hB := Lib.hid (hB.out.trans (Below.mono q2 hB.out.size)); clear q2) | (go_at_call 21; (first | (with_reducible refine (alive7 _).mono ?_)); rintro e w4 ⟨rfl, q2⟩; replace hB := Lib.hid (hB.out.trans (Below.mono q2 hB.out.size)); clear q2))
        go_ret
        exact ⟨rfl, hb1.out.trans (hB.out.mono hb1.out.size)⟩
      · rw [chkR_yes h0] at cF
        cases h1 : frOk g
        · rw [chkR_not h1] at cG
          clear rf rg lf lg sf sg ff fg h0 h1 hI hO hJ hP
          go_enter Try.func7, Try.ntmps7
          go_upto_region 1 with fail
          rw [← hW]
          clear hW
          go_wp2_with (first | (refine wpList_load_row_g rfl 26 _ rfl w.heap.size rfl 26 (f.c (.slice ia f.n ic) (.slice oa f.L.length oc)) (0, 0) _ (hrow.out _ hB.out) Try.underlying26 rfl info_frame ?_) | (refine wpList_load_row_g rfl 26 _ rfl (w.heap.size + 1) rfl 26 (g.c (.slice ja g.n jc) (.slice pa g.L.length pc)) (0, 0) _ (hsow.out _ hB.out) Try.underlying26 rfl info_frame ?_) | (go_at_call 9; (first | (with_reducible refine (gF.out _ hB.out).mono ?_) | (with_reducible refine (gG.out _ hB.out).mono ?_)); rintro e w4 ⟨rfl, q2⟩; replace hB := Lib.hid (hB.out.trans (Below.mono q2 hB.out.size)); clear q2) | (go_at_call 16; (first | (with_reducible refine (cF.out _ hB.out).mono ?_) | (with_reducible refine (cG.out _ hB.out).mono ?_)); rintro e w4 ⟨rfl, q2⟩; replace hB := Lib.hid (hB.out.trans (Below.mono q2 hB.out.size)); clear q2) | (go_at_call 21; (first | (with_reducible refine (alive7 _).mono ?_)); rintro e w4 ⟨rfl, q2⟩; replace hB := Lib.hid (hB.out.trans (Below.mono q2 hB.out.size)); clear q2))
          go_ret
          exact ⟨rfl, hb1.out.trans (hB.out.mono hb1.out.size)⟩
        · rw [chkR_yes h1] at cG
          have eF := Lib.hid (fun (wz : World) (h : Below W.heap.size W wz) => frEncode_ok f ff h0 _ _ wz (hI.out wz h) (hO.out wz h))
          have eG := Lib.hid (fun (wz : World) (h : Below W.heap.size W wz) => frEncode_ok g fg h1 _ _ wz (hJ.out wz h) (hP.out wz h))
          have sm := Lib.hid (fun (wz : World) (h : Below W.heap.size W wz) => sameFr_any f g ff.n ff.l ff.s _ _ _ _ wz (hI.out wz h) (hO.out wz h) (hJ.out wz h) (hP.out wz h))
          have zA := Lib.hid ((frOk_parts h0).2)
          have zB := Lib.hid ((frOk_parts h1).2)
          have dl := Lib.hid (fun n hn hl => differ_left ff fg h0 h1 n hn hl)
          have dr := Lib.hid (fun n hn hl => differ_right ff fg h0 h1 n hn hl)
          clear rf rg lf lg sf sg ff fg h0 h1 hI hO hJ hP
          generalize sameFr f g = S at *
          obtain ⟨LA, hLA⟩ : ∃ LA, (frB f).length = LA := ⟨_, rfl⟩
          obtain ⟨LB, hLB⟩ : ∃ LB, (frB g).length = LB := ⟨_, rfl⟩
          have zA' : LA ≤ 2000 := by rw [← hLA]; exact zA.out
          have zB' : LB ≤ 2000 := by rw [← hLB]; exact zB.out
          have lA := Lib.hid hLA
          have lB := Lib.hid hLB
          clear zA zB hLA hLB
          generalize hXA : frB f = XA at *
          generalize hXB : frB g = XB at *
          clear hXA hXB
          have hSS : (S == S) = true := by simp
          by_cases hle : LA ≤ LB
          · have hm : min (LA : Int) (LB : Int) = (LA : Int) := by omega
            have hd := Lib.hid (dl.out LA lA.out (by rw [lB.out]; omega))
            clear dl dr
            go_enter Try.func7, Try.ntmps7
            go_upto_region 1 with fail
            rw [← hW]
            clear hW
            go_upto_region 8 with (first | (refine wpList_load_row_g rfl 26 _ rfl w.heap.size rfl 26 (f.c (.slice ia f.n ic) (.slice oa f.L.length oc)) (0, 0) _ (hrow.out _ hB.out) Try.underlying26 rfl info_frame ?_) | (refine wpList_load_row_g rfl 26 _ rfl (w.heap.size + 1) rfl 26 (g.c (.slice ja g.n jc) (.slice pa g.L.length pc)) (0, 0) _ (hsow.out _ hB.out) Try.underlying26 rfl info_frame ?_) | (go_at_call 9; (first | (with_reducible refine (gF.out _ hB.out).mono ?_) | (with_reducible refine (gG.out _ hB.out).mono ?_)); rintro e w4 ⟨rfl, q2⟩; replace hB := Lib.hid (hB.out.trans (Below.mono q2 hB.out.size)); clear q2) | (go_at_call 16; (first | (with_reducible refine (cF.out _ hB.out).mono ?_) | (with_reducible refine (cG.out _ hB.out).mono ?_)); rintro e w4 ⟨rfl, q2⟩; replace hB := Lib.hid (hB.out.trans (Below.mono q2 hB.out.size)); clear q2) | (go_at_call 11; (first | (with_reducible refine (eF.out _ hB.out).mono ?_; rintro e w4 ⟨sv, rfl, q1, q2⟩; have xa := Lib.hid q1.rd; clear q1; obtain ⟨sa, sc, hz⟩ := own_rdS xa.out _ lA.out; subst hz) | (with_reducible refine (eG.out _ hB.out).mono ?_; rintro e w4 ⟨sv, rfl, q1, q2⟩; replace xa := Lib.hid (xa.out.mono q2); have xb := Lib.hid q1.rd; clear q1; obtain ⟨ta, tc, hz⟩ := own_rdS xb.out _ lB.out; subst hz)); replace hB := Lib.hid (hB.out.trans (Below.mono q2 hB.out.size)); clear q2))
            have k0 := Lib.hid (fun (w' : World) (h : Below w4.heap.size w4 w') => hrow.out w' (hB.out.trans (h.mono hB.out.size)))
            have k1 := Lib.hid (fun (w' : World) (h : Below w4.heap.size w4 w') => hsow.out w' (hB.out.trans (h.mono hB.out.size)))
            have kS := Lib.hid (fun (w' : World) (h : Below w4.heap.size w4 w') => sm.out w' (hB.out.trans (h.mono hB.out.size)))
            have kD := Lib.hid (fun (w' : World) (h : Below w4.heap.size w4 w') => (same_any _ _ XA (XB.take LA) w' (by rw [lA.out]; omega) (xa.out.mono h) ((rdB_take xb.out LA (by omega)).mono h)).mono fun x w2 ⟨q1, q2⟩ => (show x = Ending.returned (.bool S) ∧ Below w'.heap.size w' w2 from ⟨by rw [q1, hd.out], q2.below (Below.refl _ _)⟩))
            have cA : LA ≤ sc := by have h := xa.out; exact rdB_cap h
            have cB : LB ≤ tc := by have h := xb.out; exact rdB_cap h
            clear hrow hsow sm eF eG cF cG gF gG xa xb
            refine wp_region_quiet (C := fun w' => Below w4.heap.size w4 w') (by kernel_rfl) (by kernel_rfl) ((Below.refl _ _).drew) ?_
            simp only []
            (go_big_quiet_want; go_big_quiet_op; first | go_big_quiet_on | (refine ⟨_, fun _ _ => rfl, ?_⟩; go_big_quiet_on))
            (go_big_quiet_want; go_big_quiet_op; first | go_big_quiet_on | (refine ⟨_, fun _ _ => rfl, ?_⟩; go_big_quiet_on))
            (go_big_quiet_want; go_big_quiet_op; first | go_big_quiet_on | (refine ⟨_, fun _ _ => rfl, ?_⟩; go_big_quiet_on))
            (go_big_quiet_want; go_big_quiet_op; first | go_big_quiet_on | (refine ⟨_, fun _ _ => rfl, ?_⟩; go_big_quiet_on))
            (go_big_quiet_want; go_big_quiet_op; first | go_big_quiet_on | (refine ⟨_, fun _ _ => rfl, ?_⟩; go_big_quiet_on))
            (go_big_quiet_want; go_big_quiet_op; first | go_big_quiet_on | (refine ⟨_, fun _ _ => rfl, ?_⟩; go_big_quiet_on))
            refine wpq (.bool S) rfl (quiet_call2 rfl Try.func17 (by kernel_rfl) rfl (.slice sa LA sc) (.slice ta LA tc) (.bool S) rfl rfl rfl (fun w h => (kD.out w h).mono fun e w' ⟨he, hb⟩ => ⟨he, h.trans (hb.mono h.size)⟩)) rfl (fun K hK => ?_); go_simp; refine hK _ ?_; clear hK K
            refine wpq (.agg (f.c (.slice ia f.n ic) (.slice oa f.L.length oc))) rfl (quiet_row 26 _ rfl w.heap.size rfl 26 (f.c (.slice ia f.n ic) (.slice oa f.L.length oc)) (0, 0) _ k0.out Try.underlying26 rfl info_frame) rfl (fun K hK => ?_); go_simp; refine hK _ ?_; clear hK K
            refine wpq (.agg (g.c (.slice ja g.n jc) (.slice pa g.L.length pc))) rfl (quiet_row 26 _ rfl (w.heap.size + 1) rfl 26 (g.c (.slice ja g.n jc) (.slice pa g.L.length pc)) (0, 0) _ k1.out Try.underlying26 rfl info_frame) rfl (fun K hK => ?_); go_simp; refine hK _ ?_; clear hK K
            refine wpq (.bool S) rfl (quiet_call2 rfl Try.func18 (by kernel_rfl) rfl (.agg (f.c (.slice ia f.n ic) (.slice oa f.L.length oc))) (.agg (g.c (.slice ja g.n jc) (.slice pa g.L.length pc))) (.bool S) rfl rfl rfl (fun w h => (kS.out w h).mono fun e w' ⟨he, hb⟩ => ⟨he, h.trans (hb.mono h.size)⟩)) rfl (fun K hK => ?_); go_simp; refine hK _ ?_; clear hK K
            (go_big_quiet_want; go_big_quiet_op; first | go_big_quiet_on | (refine ⟨_, fun _ _ => rfl, ?_⟩; go_big_quiet_on))
            (go_big_quiet_want; go_big_quiet_op; first | go_big_quiet_on | (refine ⟨_, fun _ _ => rfl, ?_⟩; go_big_quiet_on))
            refine wpq (.bool true) rfl (qa_call0 rfl Try.func21 (by kernel_rfl) rfl rfl (fun w h => (alive7 w).mono fun e w' ⟨he, hb⟩ => ⟨he, h.trans (hb.mono h.size)⟩)) rfl (fun K hK => ?_); go_simp; refine hK _ ?_; clear hK K
            (go_big_quiet_want; go_big_quiet_op; first | go_big_quiet_on | (refine ⟨_, fun _ _ => rfl, ?_⟩; go_big_quiet_on))
            (go_big_quiet_want; go_big_quiet_op; first | go_big_quiet_on | (refine ⟨_, fun _ _ => rfl, ?_⟩; go_big_quiet_on))
            refine wpQuiet_nil ?_
            intro w9 h9
            have hB9 := Lib.hid (hB.out.trans (h9.mono hB.out.size))
            clear h9
            go_wp2
            go_ret
            exact ⟨rfl, hb1.out.trans (hB9.out.mono hb1.out.size)⟩
          · have hm : min (LA : Int) (LB : Int) = (LB : Int) := by omega
            have hd := Lib.hid (dr.out LB lB.out (by rw [lA.out]; omega))
            clear dl dr
            go_enter Try.func7, Try.ntmps7
            go_upto_region 1 with fail
            rw [← hW]
            clear hW
            go_upto_region 8 with (first | (refine wpList_load_row_g rfl 26 _ rfl w.heap.size rfl 26 (f.c (.slice ia f.n ic) (.slice oa f.L.length oc)) (0, 0) _ (hrow.out _ hB.out) Try.underlying26 rfl info_frame ?_) | (refine wpList_load_row_g rfl 26 _ rfl (w.heap.size + 1) rfl 26 (g.c (.slice ja g.n jc) (.slice pa g.L.length pc)) (0, 0) _ (hsow.out _ hB.out) Try.underlying26 rfl info_frame ?_) | (go_at_call 9; (first | (with_reducible refine (gF.out _ hB.out).mono ?_) | (with_reducible refine (gG.out _ hB.out).mono ?_)); rintro e w4 ⟨rfl, q2⟩; replace hB := Lib.hid (hB.out.trans (Below.mono q2 hB.out.size)); clear q2) | (go_at_call 16; (first | (with_reducible refine (cF.out _ hB.out).mono ?_) | (with_reducible refine (cG.out _ hB.out).mono ?_)); rintro e w4 ⟨rfl, q2⟩; replace hB := Lib.hid (hB.out.trans (Below.mono q2 hB.out.size)); clear q2) | (go_at_call 11; (first | (with_reducible refine (eF.out _ hB.out).mono ?_; rintro e w4 ⟨sv, rfl, q1, q2⟩; have xa := Lib.hid q1.rd; clear q1; obtain ⟨sa, sc, hz⟩ := own_rdS xa.out _ lA.out; subst hz) | (with_reducible refine (eG.out _ hB.out).mono ?_; rintro e w4 ⟨sv, rfl, q1, q2⟩; replace xa := Lib.hid (xa.out.mono q2); have xb := Lib.hid q1.rd; clear q1; obtain ⟨ta, tc, hz⟩ := own_rdS xb.out _ lB.out; subst hz)); replace hB := Lib.hid (hB.out.trans (Below.mono q2 hB.out.size)); clear q2))
            have k0 := Lib.hid (fun (w' : World) (h : Below w4.heap.size w4 w') => hrow.out w' (hB.out.trans (h.mono hB.out.size)))
            have k1 := Lib.hid (fun (w' : World) (h : Below w4.heap.size w4 w') => hsow.out w' (hB.out.trans (h.mono hB.out.size)))
            have kS := Lib.hid (fun (w' : World) (h : Below w4.heap.size w4 w') => sm.out w' (hB.out.trans (h.mono hB.out.size)))
            have kD := Lib.hid (fun (w' : World) (h : Below w4.heap.size w4 w') => (same_any _ _ (XA.take LB) XB w' (by rw [List.length_take, lA.out]; omega) ((rdB_take xa.out LB (by omega)).mono h) (xb.out.mono h)).mono fun x w2 ⟨q1, q2⟩ => (show x = Ending.returned (.bool S) ∧ Below w'.heap.size w' w2 from ⟨by rw [q1, hd.out], q2.below (Below.refl _ _)⟩))
            have cA : LA ≤ sc := by have h := xa.out; exact rdB_cap h
            have cB : LB ≤ tc := by have h := xb.out; exact rdB_cap h
            clear hrow hsow sm eF eG cF cG gF gG xa xb
            refine wp_region_quiet (C := fun w' => Below w4.heap.size w4 w') (by kernel_rfl) (by kernel_rfl) ((Below.refl _ _).drew) ?_
            simp only []
            (go_big_quiet_want; go_big_quiet_op; first | go_big_quiet_on | (refine ⟨_, fun _ _ => rfl, ?_⟩; go_big_quiet_on))
            (go_big_quiet_want; go_big_quiet_op; first | go_big_quiet_on | (refine ⟨_, fun _ _ => rfl, ?_⟩; go_big_quiet_on))
            (go_big_quiet_want; go_big_quiet_op; first | go_big_quiet_on | (refine ⟨_, fun _ _ => rfl, ?_⟩; go_big_quiet_on))
            (go_big_quiet_want; go_big_quiet_op; first | go_big_quiet_on | (refine ⟨_, fun _ _ => rfl, ?_⟩; go_big_quiet_on))
            (go_big_quiet_want; go_big_quiet_op; first | go_big_quiet_on | (refine ⟨_, fun _ _ => rfl, ?_⟩; go_big_quiet_on))
            (go_big_quiet_want; go_big_quiet_op; first | go_big_quiet_on | (refine ⟨_, fun _ _ => rfl, ?_⟩; go_big_quiet_on))
            refine wpq (.bool S) rfl (quiet_call2 rfl Try.func17 (by kernel_rfl) rfl (.slice sa LB sc) (.slice ta LB tc) (.bool S) rfl rfl rfl (fun w h => (kD.out w h).mono fun e w' ⟨he, hb⟩ => ⟨he, h.trans (hb.mono h.size)⟩)) rfl (fun K hK => ?_); go_simp; refine hK _ ?_; clear hK K
            refine wpq (.agg (f.c (.slice ia f.n ic) (.slice oa f.L.length oc))) rfl (quiet_row 26 _ rfl w.heap.size rfl 26 (f.c (.slice ia f.n ic) (.slice oa f.L.length oc)) (0, 0) _ k0.out Try.underlying26 rfl info_frame) rfl (fun K hK => ?_); go_simp; refine hK _ ?_; clear hK K
            refine wpq (.agg (g.c (.slice ja g.n jc) (.slice pa g.L.length pc))) rfl (quiet_row 26 _ rfl (w.heap.size + 1) rfl 26 (g.c (.slice ja g.n jc) (.slice pa g.L.length pc)) (0, 0) _ k1.out Try.underlying26 rfl info_frame) rfl (fun K hK => ?_); go_simp; refine hK _ ?_; clear hK K
            refine wpq (.bool S) rfl (quiet_call2 rfl Try.func18 (by kernel_rfl) rfl (.agg (f.c (.slice ia f.n ic) (.slice oa f.L.length oc))) (.agg (g.c (.slice ja g.n jc) (.slice pa g.L.length pc))) (.bool S) rfl rfl rfl (fun w h => (kS.out w h).mono fun e w' ⟨he, hb⟩ => ⟨he, h.trans (hb.mono h.size)⟩)) rfl (fun K hK => ?_); go_simp; refine hK _ ?_; clear hK K
            (go_big_quiet_want; go_big_quiet_op; first | go_big_quiet_on | (refine ⟨_, fun _ _ => rfl, ?_⟩; go_big_quiet_on))
            (go_big_quiet_want; go_big_quiet_op; first | go_big_quiet_on | (refine ⟨_, fun _ _ => rfl, ?_⟩; go_big_quiet_on))
            refine wpq (.bool true) rfl (qa_call0 rfl Try.func21 (by kernel_rfl) rfl rfl (fun w h => (alive7 w).mono fun e w' ⟨he, hb⟩ => ⟨he, h.trans (hb.mono h.size)⟩)) rfl (fun K hK => ?_); go_simp; refine hK _ ?_; clear hK K
            (go_big_quiet_want; go_big_quiet_op; first | go_big_quiet_on | (refine ⟨_, fun _ _ => rfl, ?_⟩; go_big_quiet_on))
            (go_big_quiet_want; go_big_quiet_op; first | go_big_quiet_on | (refine ⟨_, fun _ _ => rfl, ?_⟩; go_big_quiet_on))
            refine wpQuiet_nil ?_
            intro w9 h9
            have hB9 := Lib.hid (hB.out.trans (h9.mono hB.out.size))
            clear h9
            go_wp2
            go_ret
            exact ⟨rfl, hb1.out.trans (hB9.out.mono hb1.out.size)⟩
    · replace gG := Lib.hid (gG.out true (fun h => absurd h sg) (fun _ => rfl))
      clear rf rg lf lg sf sg hI hO hJ hP
      go_enter Try.func7, Try.ntmps7
      go_upto_region 1 with fail
      rw [← hW]
      clear hW
      go_wp2_with (first | (refine wpList_load_row_g rfl 26 _ rfl w.heap.size rfl 26 (f.c (.slice ia f.n ic) (.slice oa f.L.length oc)) (0, 0) _ (hrow.out _ hB.out) Try.underlying26 rfl info_frame ?_) | (refine wpList_load_row_g rfl 26 _ rfl (w.heap.size + 1) rfl 26 (g.c (.slice ja g.n jc) (.slice pa g.L.length pc)) (0, 0) _ (hsow.out _ hB.out) Try.underlying26 rfl info_frame ?_) | (go_at_call 9; (first | (with_reducible refine (gF.out _ hB.out).mono ?_) | (with_reducible refine (gG.out _ hB.out).mono ?_)); rintro e w4 ⟨rfl, q2⟩; replace hB := Lib.hid (hB.out.trans (Below.mono q2 hB.out.size)); clear q2) | (go_at_call 21; (first | (with_reducible refine (alive7 _).mono ?_)); rintro e w4 ⟨rfl, q2⟩; replace hB := Lib.hid (hB.out.trans (Below.mono q2 hB.out.size)); clear q2))
      go_ret
      exact ⟨rfl, hb1.out.trans (hB.out.mono hb1.out.size)⟩
  · replace gF := Lib.hid (gF.out true (fun h => absurd h sf) (fun _ => rfl))
    clear rf rg lf lg sf gG hI hO hJ hP
    go_enter Try.func7, Try.ntmps7
    go_upto_region 1 with fail
    rw [← hW]
    clear hW
    go_wp2_with (first | (refine wpList_load_row_g rfl 26 _ rfl w.heap.size rfl 26 (f.c (.slice ia f.n ic) (.slice oa f.L.length oc)) (0, 0) _ (hrow.out _ hB.out) Try.underlying26 rfl info_frame ?_) | (refine wpList_load_row_g rfl 26 _ rfl (w.heap.size + 1) rfl 26 (g.c (.slice ja g.n jc) (.slice pa g.L.length pc)) (0, 0) _ (hsow.out _ hB.out) Try.underlying26 rfl info_frame ?_) | (go_at_call 9; (first | (with_reducible refine (gF.out _ hB.out).mono ?_)); rintro e w4 ⟨rfl, q2⟩; replace hB := Lib.hid (hB.out.trans (Below.mono q2 hB.out.size)); clear q2) | (go_at_call 21; (first | (with_reducible refine (alive7 _).mono ?_)); rintro e w4 ⟨rfl, q2⟩; replace hB := Lib.hid (hB.out.trans (Below.mono q2 hB.out.size)); clear q2))
    go_ret
    exact ⟨rfl, hb1.out.trans (hB.out.mono hb1.out.size)⟩
end Go.Proofs.Ytegffpjhdodldaa

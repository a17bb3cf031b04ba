/- Layer 6: OpSigned's walk. Layer 6: OpSigned's walk. Layer 6: OpSigned's walk: all ways. -/
import Derived.Test.YtegffpjhdodldaaDoorR01
namespace Go.Proofs.YtegffpjhdodldaaDoor.wir.val
open Go.RowKit Go.YtegffpjhdodldaaDoor
set_option linter.unusedVariables false
set_option maxHeartbeats 8000000 in
set_option maxRecDepth 100000 in
theorem signed_bad (a : Nat) (ha : 1 ≤ a ∧ a < 500000003) (o : Od) (fo : o.Fit) (hg : greatB o = false) (hn0 : chkO (o.byA (grp.pw 4 a)).bare ≠ 0) (pv : Value) (w : World) (hp0 : RdI w pv o.n o.F) (hG0 : GlobW w) :
    Calls Tryd.prog 3 #[.int .u32 (a : Int), .agg (o.c pv)] w fun e w' => e = .returned (.bool true) ∧ Below w.heap.size w w' := by
  obtain ⟨W, hW⟩ : ∃ W, W = w.alloc (.cells (o.c pv) 32) := ⟨_, rfl⟩
  have hr0 := heap_alloc_new w (.cells (o.c pv) 32)
  have hb0 := (Below.refl w.heap.size w).alloc (Nat.le_refl _) (.cells (o.c pv) 32)
  rw [← hW] at hr0 hb0
  have hlF := hp0.len
  obtain ⟨pa, pc, rfl⟩ := hp0.slice
  have hp := Lib.hid (hp0.mono hb0)
  have hG := Lib.hid (hG0.mono hb0)
  have hS := Lib.hid hb0
  have r3 := Lib.hid hr0
  have hgr := Lib.hid (fun wz => great_any o pa pc wz)
  rw [hg] at hgr
  have hft := Lib.hid (fun (wz : World) (v : Value) (h : RdI wz v o.n o.F) => fit_any o fo hg v wz h)
  have hvo := Lib.hid (fun (wz : World) (v : Value) (h : RdI wz v o.n o.F) (hg : GlobW wz) => opVerify_any o fo v wz h hg)
  have hsg := Lib.hid (fun (wz : World) (v : Value) (h : RdI wz v o.n o.F) => opSign_bad a ha o fo v wz h hn0)
  have hpu := Lib.hid (fun wz => public_ok a ha wz)
  have hcv := Lib.hid (chk_vals o)
  have hcs := chk_vals (o.byA (grp.pw 4 a)).bare
  generalize chkO (o.byA (grp.pw 4 a)).bare = CE at *
  generalize grp.pw 4 a = y at *
  have hlF' := hlF
  have fo' := fo
  clear hp0 hG0 hb0 hr0 fo hlF ha
  rcases hcs with h | h | h | h
  · exact absurd h hn0
  · subst h
    clear hn0
    go_enter Tryd.func3, Tryd.ntmps3
    go_upto_region 1 with fail
    rw [← hW]
    clear hW
    go_upto_region 4 with (first | (refine wpList_load_row_g rfl 32 _ rfl w.heap.size rfl 32 (o.c (.slice pa o.n pc)) (0, 0) _ r3.out Tryd.underlying32 rfl info_op ?_) | (go_at_call 6; (with_reducible refine (hgr.out _).mono ?_); rintro e w4 ⟨rfl, q2⟩; (try replace r3 := Lib.hid (rowB r3.out q2 (Array.getElem?_eq_some_iff.1 r3.out).1)); (try replace r5 := Lib.hid (rowB r5.out q2 (Array.getElem?_eq_some_iff.1 r5.out).1)); (try replace hp := Lib.hid (hp.out.mono q2)); (try replace hq := Lib.hid (hq.out.mono q2)); (try replace hG := Lib.hid (hG.out.mono q2)); (try replace x9 := Lib.hid (x9.out.mono q2)); (try replace x11 := Lib.hid (x11.out.mono q2)); replace hS := Lib.hid (hS.out.trans (Below.mono q2 hS.out.size)); clear q2) | (go_at_call 8; (with_reducible refine (hsg.out _ _ hp.out).mono ?_); rintro e w4 ⟨rfl, q2⟩; (try replace r3 := Lib.hid (rowB r3.out q2 (Array.getElem?_eq_some_iff.1 r3.out).1)); (try replace r5 := Lib.hid (rowB r5.out q2 (Array.getElem?_eq_some_iff.1 r5.out).1)); (try replace hp := Lib.hid (hp.out.mono q2)); (try replace hq := Lib.hid (hq.out.mono q2)); (try replace hG := Lib.hid (hG.out.mono q2)); (try replace x9 := Lib.hid (x9.out.mono q2)); (try replace x11 := Lib.hid (x11.out.mono q2)); replace hS := Lib.hid (hS.out.trans (Below.mono q2 hS.out.size)); clear q2))
    have q2 := below_a w4 (.cells (zO.c (.slice none 0 0)) 32)
    have r5 := Lib.hid (heap_alloc_new w4 (.cells (zO.c (.slice none 0 0)) 32))
    (try replace r3 := Lib.hid (rowB r3.out q2 (Array.getElem?_eq_some_iff.1 r3.out).1)); (try replace hp := Lib.hid (hp.out.mono q2)); (try replace hq := Lib.hid (hq.out.mono q2)); (try replace hG := Lib.hid (hG.out.mono q2)); (try replace x9 := Lib.hid (x9.out.mono q2)); (try replace x11 := Lib.hid (x11.out.mono q2)); replace hS := Lib.hid (hS.out.trans (Below.mono q2 hS.out.size))
    clear q2
    change Code.wp _ _ _ _ (w4.alloc (.cells (zO.c (.slice none 0 0)) 32))
    generalize w4.alloc (.cells (zO.c (.slice none 0 0)) 32) = w5 at *
    generalize w4.heap.size = g5 at *
    go_upto_region 11 with (go_at_call 9; (with_reducible refine (hpu.out _).mono ?_); rintro e w6 ⟨rfl, q2⟩; (try replace r3 := Lib.hid (rowB r3.out q2 (Array.getElem?_eq_some_iff.1 r3.out).1)); (try replace r5 := Lib.hid (rowB r5.out q2 (Array.getElem?_eq_some_iff.1 r5.out).1)); (try replace hp := Lib.hid (hp.out.mono q2)); (try replace hq := Lib.hid (hq.out.mono q2)); (try replace hG := Lib.hid (hG.out.mono q2)); (try replace x9 := Lib.hid (x9.out.mono q2)); (try replace x11 := Lib.hid (x11.out.mono q2)); replace hS := Lib.hid (hS.out.trans (Below.mono q2 hS.out.size)); clear q2)
    cases hc : decide (chkO o = 0)
    · have hne : chkO o ≠ 0 := of_decide_eq_false hc
      rw [hc] at hft
      have hve : verO o = chkO o := if_neg hne
      rw [hve] at hvo
      generalize chkO o = CO at *
      have d0 : (CO != 0) = true := by simpa using hne
      have d22 : (CO != 22) = true := by rcases hcv.out with h | h | h | h <;> (subst h; rfl)
      go_wp2_with (first | (refine wpList_load_row_g rfl 32 _ rfl w.heap.size rfl 32 (o.c (.slice pa o.n pc)) (0, 0) _ r3.out Tryd.underlying32 rfl info_op ?_) | (go_at_call 13; (with_reducible refine (hft.out _ _ hp.out).mono ?_); rintro e w4 ⟨rfl, q2⟩; (try replace r3 := Lib.hid (rowB r3.out q2 (Array.getElem?_eq_some_iff.1 r3.out).1)); (try replace r5 := Lib.hid (rowB r5.out q2 (Array.getElem?_eq_some_iff.1 r5.out).1)); (try replace hp := Lib.hid (hp.out.mono q2)); (try replace hq := Lib.hid (hq.out.mono q2)); (try replace hG := Lib.hid (hG.out.mono q2)); (try replace x9 := Lib.hid (x9.out.mono q2)); (try replace x11 := Lib.hid (x11.out.mono q2)); replace hS := Lib.hid (hS.out.trans (Below.mono q2 hS.out.size)); clear q2) | (go_at_call 11; (with_reducible refine (hvo.out _ _ hp.out hG.out).mono ?_); rintro e w4 ⟨rfl, q2⟩; (try replace r3 := Lib.hid (rowB r3.out q2 (Array.getElem?_eq_some_iff.1 r3.out).1)); (try replace r5 := Lib.hid (rowB r5.out q2 (Array.getElem?_eq_some_iff.1 r5.out).1)); (try replace hp := Lib.hid (hp.out.mono q2)); (try replace hq := Lib.hid (hq.out.mono q2)); (try replace hG := Lib.hid (hG.out.mono q2)); (try replace x9 := Lib.hid (x9.out.mono q2)); (try replace x11 := Lib.hid (x11.out.mono q2)); replace hS := Lib.hid (hS.out.trans (Below.mono q2 hS.out.size)); clear q2) | (go_at_call 7; (with_reducible refine (alive6 _ hG.out).mono ?_); rintro e w4 ⟨rfl, q2⟩; (try replace r3 := Lib.hid (rowB r3.out q2 (Array.getElem?_eq_some_iff.1 r3.out).1)); (try replace r5 := Lib.hid (rowB r5.out q2 (Array.getElem?_eq_some_iff.1 r5.out).1)); (try replace hp := Lib.hid (hp.out.mono q2)); (try replace hq := Lib.hid (hq.out.mono q2)); (try replace hG := Lib.hid (hG.out.mono q2)); (try replace x9 := Lib.hid (x9.out.mono q2)); (try replace x11 := Lib.hid (x11.out.mono q2)); replace hS := Lib.hid (hS.out.trans (Below.mono q2 hS.out.size)); clear q2))
      go_ret
      exact ⟨rfl, hS.out⟩
    · rw [hc] at hft
      have h0 : chkO o = 0 := of_decide_eq_true hc
      have hmo := Lib.hid (fun (wz : World) (v : Value) (h : RdI wz v o.n o.F) => msg_ok o fo' v wz h (chk_bare h0) (msgB o) rfl)
      rw [show verO o = if rightB o.au (msgB o) o.s o.e then 0 else 22 from if_pos h0] at hvo
      have hkW := Lib.hid (fun (wz : World) (v : Value) (hv : RdB wz v (msgB o)) (hg : GlobW wz) => verify_any o.au (chk_in h0) o.s o.e fo'.s fo'.e v (msgB o) wz hv (msgB_bytes o fo' (chk_zero h0).1 (chk_zero h0).2.2) (Nat.le_trans (msgB_short o fo' (chk_zero h0).1 hlF' (chk_zero h0).2.2) (by decide)) hg)
      obtain ⟨NM, hNM⟩ : ∃ N, (msgB o).length = N := ⟨_, rfl⟩
      replace hNM := Lib.hid hNM
      generalize (if rightB o.au (msgB o) o.s o.e then (0 : Int) else 22) = R at *
      generalize msgB o = MB at *
      clear h0 hc hcv fo' hlF'
      go_upto_region 14 with (first | (refine wpList_load_row_g rfl 32 _ rfl w.heap.size rfl 32 (o.c (.slice pa o.n pc)) (0, 0) _ r3.out Tryd.underlying32 rfl info_op ?_) | (go_at_call 13; (with_reducible refine (hft.out _ _ hp.out).mono ?_); rintro e w4 ⟨rfl, q2⟩; (try replace r3 := Lib.hid (rowB r3.out q2 (Array.getElem?_eq_some_iff.1 r3.out).1)); (try replace r5 := Lib.hid (rowB r5.out q2 (Array.getElem?_eq_some_iff.1 r5.out).1)); (try replace hp := Lib.hid (hp.out.mono q2)); (try replace hq := Lib.hid (hq.out.mono q2)); (try replace hG := Lib.hid (hG.out.mono q2)); (try replace x9 := Lib.hid (x9.out.mono q2)); (try replace x11 := Lib.hid (x11.out.mono q2)); replace hS := Lib.hid (hS.out.trans (Below.mono q2 hS.out.size)); clear q2) | (go_at_call 10; (with_reducible refine (hmo.out _ _ hp.out).mono ?_); rintro e w4 ⟨sv, rfl, q1, q2⟩; (try replace r3 := Lib.hid (rowB r3.out q2 (Array.getElem?_eq_some_iff.1 r3.out).1)); (try replace r5 := Lib.hid (rowB r5.out q2 (Array.getElem?_eq_some_iff.1 r5.out).1)); (try replace hp := Lib.hid (hp.out.mono q2)); (try replace hq := Lib.hid (hq.out.mono q2)); (try replace hG := Lib.hid (hG.out.mono q2)); (try replace x9 := Lib.hid (x9.out.mono q2)); (try replace x11 := Lib.hid (x11.out.mono q2)); replace hS := Lib.hid (hS.out.trans (Below.mono q2 hS.out.size)); have x11 := Lib.hid q1; obtain ⟨ma, mc, hz4⟩ := x11.out.slice; rw [hNM.out] at hz4; subst hz4; clear q1 q2))
      have lt3 := Lib.hid (Array.getElem?_eq_some_iff.1 r3.out).1
      have k3 := Lib.hid (fun (w' : World) (h : Below w4.heap.size w4 w') => rowB r3.out h lt3.out)
      have kc := Lib.hid (fun (w' : World) (h : Below w4.heap.size w4 w') => (cellsO (rowB r3.out h lt3.out)).1)
      have ks := Lib.hid (fun (w' : World) (h : Below w4.heap.size w4 w') => (cellsO (rowB r3.out h lt3.out)).2.2.2.2.1)
      have kV := Lib.hid (fun (w' : World) (h : Below w4.heap.size w4 w') => hvo.out w' (.slice pa o.n pc) (hp.out.mono h) (hG.out.mono h))
      have kW := Lib.hid (fun (w' : World) (h : Below w4.heap.size w4 w') => hkW.out w' (.slice ma NM mc) (x11.out.mono h) (hG.out.mono h))
      have kL := Lib.hid (fun (w' : World) (h : Below w4.heap.size w4 w') => alive6 w' (hG.out.mono h))
      clear hvo hkW hft hmo hgr r3 r5 hp x11 hG
      refine wp_region_quiet (C := fun w' => Below w4.heap.size w4 w') (by kernel_rfl) (by kernel_rfl) ((Below.refl _ _).drew) ?_
      simp only []
      (go_big_quiet_want; go_big_quiet_op; first | go_big_quiet_on | (refine ⟨_, fun _ _ => rfl, ?_⟩; go_big_quiet_on))
      (go_big_quiet_want; go_big_quiet_op; first | go_big_quiet_on | (refine ⟨_, fun _ _ => rfl, ?_⟩; go_big_quiet_on))
      (go_big_quiet_want; go_big_quiet_op; first | go_big_quiet_on | (refine ⟨_, fun _ _ => rfl, ?_⟩; go_big_quiet_on))
      refine wpq (.agg (o.c (.slice pa o.n pc))) rfl (quiet_row 32 _ rfl (w.heap.size) rfl 32 (o.c (.slice pa o.n pc)) (0, 0) _ k3.out Tryd.underlying32 rfl info_op) rfl (fun K hK => ?_); go_simp; refine hK _ ?_; clear hK K
      refine wpq (.int .i64 R) rfl (qa_call1 (.agg (o.c (.slice pa o.n pc))) rfl Tryd.func11 (by kernel_rfl) rfl rfl rfl (fun w h => (kV.out w h).mono fun e w' ⟨he, hb⟩ => ⟨he, h.trans (hb.mono h.size)⟩)) rfl (fun K hK => ?_); go_simp; refine hK _ ?_; clear hK K
      (go_big_quiet_want; go_big_quiet_op; first | go_big_quiet_on | (refine ⟨_, fun _ _ => rfl, ?_⟩; go_big_quiet_on))
      refine wpq (.int .u32 (o.au : Int)) rfl (quiet_cell 22 _ rfl w.heap.size 0 rfl (.int .u32 (o.au : Int)) kc.out Tryd.isAgg22) rfl (fun K hK => ?_); go_simp; refine hK _ ?_; clear hK K
      (go_big_quiet_want; go_big_quiet_op; first | go_big_quiet_on | (refine ⟨_, fun _ _ => rfl, ?_⟩; go_big_quiet_on))
      (go_big_quiet_want; go_big_quiet_op; first | go_big_quiet_on | (refine ⟨_, fun _ _ => rfl, ?_⟩; go_big_quiet_on))
      refine wpq (.agg #[.int .u32 (o.e : Int), .int .u32 (o.s : Int)]) rfl (quiet_mid 30 _ rfl w.heap.size 9 rfl [.int .u32 (o.e : Int), .int .u32 (o.s : Int)] _ ks.out Tryd.underlying30 rfl info_sig) rfl (fun K hK => ?_); go_simp; refine hK _ ?_; clear hK K
      refine wpq (.int .i64 R) rfl (qa_call3 (.int .u32 (o.au : Int)) (.slice ma NM mc) (.agg #[.int .u32 (o.e : Int), .int .u32 (o.s : Int)]) rfl Tryd.func12 (by kernel_rfl) rfl rfl rfl rfl rfl (fun w h => (kW.out w h).mono fun e w' ⟨he, hb⟩ => ⟨he, h.trans (hb.mono h.size)⟩)) rfl (fun K hK => ?_); go_simp; refine hK _ ?_; clear hK K
      (go_big_quiet_want; go_big_quiet_op; first | go_big_quiet_on | (refine ⟨_, fun _ _ => rfl, ?_⟩; go_big_quiet_on))
      (go_big_quiet_want; go_big_quiet_op; first | go_big_quiet_on | (refine ⟨_, fun _ _ => rfl, ?_⟩; go_big_quiet_on))
      (go_big_quiet_want; go_big_quiet_op; first | go_big_quiet_on | (refine ⟨_, fun _ _ => rfl, ?_⟩; go_big_quiet_on))
      refine wpq (.bool true) rfl (qa_call0 rfl Tryd.func7 (by kernel_rfl) rfl rfl (fun w h => (kL.out w h).mono fun e w' ⟨he, hb⟩ => ⟨he, h.trans (hb.mono h.size)⟩)) rfl (fun K hK => ?_); go_simp; refine hK _ ?_; clear hK K
      (go_big_quiet_want; go_big_quiet_op; first | go_big_quiet_on | (refine ⟨_, fun _ _ => rfl, ?_⟩; go_big_quiet_on))
      (go_big_quiet_want; go_big_quiet_op; first | go_big_quiet_on | (refine ⟨_, fun _ _ => rfl, ?_⟩; go_big_quiet_on))
      refine wpQuiet_nil ?_
      intro w9 h9
      have hB9 := Lib.hid (hS.out.trans (h9.mono hS.out.size))
      clear h9
      go_wp2
      go_ret
      exact ⟨rfl, hB9.out⟩
  · subst h
    clear hn0
    go_enter Tryd.func3, Tryd.ntmps3
    go_upto_region 1 with fail
    rw [← hW]
    clear hW
    go_upto_region 4 with (first | (refine wpList_load_row_g rfl 32 _ rfl w.heap.size rfl 32 (o.c (.slice pa o.n pc)) (0, 0) _ r3.out Tryd.underlying32 rfl info_op ?_) | (go_at_call 6; (with_reducible refine (hgr.out _).mono ?_); rintro e w4 ⟨rfl, q2⟩; (try replace r3 := Lib.hid (rowB r3.out q2 (Array.getElem?_eq_some_iff.1 r3.out).1)); (try replace r5 := Lib.hid (rowB r5.out q2 (Array.getElem?_eq_some_iff.1 r5.out).1)); (try replace hp := Lib.hid (hp.out.mono q2)); (try replace hq := Lib.hid (hq.out.mono q2)); (try replace hG := Lib.hid (hG.out.mono q2)); (try replace x9 := Lib.hid (x9.out.mono q2)); (try replace x11 := Lib.hid (x11.out.mono q2)); replace hS := Lib.hid (hS.out.trans (Below.mono q2 hS.out.size)); clear q2) | (go_at_call 8; (with_reducible refine (hsg.out _ _ hp.out).mono ?_); rintro e w4 ⟨rfl, q2⟩; (try replace r3 := Lib.hid (rowB r3.out q2 (Array.getElem?_eq_some_iff.1 r3.out).1)); (try replace r5 := Lib.hid (rowB r5.out q2 (Array.getElem?_eq_some_iff.1 r5.out).1)); (try replace hp := Lib.hid (hp.out.mono q2)); (try replace hq := Lib.hid (hq.out.mono q2)); (try replace hG := Lib.hid (hG.out.mono q2)); (try replace x9 := Lib.hid (x9.out.mono q2)); (try replace x11 := Lib.hid (x11.out.mono q2)); replace hS := Lib.hid (hS.out.trans (Below.mono q2 hS.out.size)); clear q2))
    have q2 := below_a w4 (.cells (zO.c (.slice none 0 0)) 32)
    have r5 := Lib.hid (heap_alloc_new w4 (.cells (zO.c (.slice none 0 0)) 32))
    (try replace r3 := Lib.hid (rowB r3.out q2 (Array.getElem?_eq_some_iff.1 r3.out).1)); (try replace hp := Lib.hid (hp.out.mono q2)); (try replace hq := Lib.hid (hq.out.mono q2)); (try replace hG := Lib.hid (hG.out.mono q2)); (try replace x9 := Lib.hid (x9.out.mono q2)); (try replace x11 := Lib.hid (x11.out.mono q2)); replace hS := Lib.hid (hS.out.trans (Below.mono q2 hS.out.size))
    clear q2
    change Code.wp _ _ _ _ (w4.alloc (.cells (zO.c (.slice none 0 0)) 32))
    generalize w4.alloc (.cells (zO.c (.slice none 0 0)) 32) = w5 at *
    generalize w4.heap.size = g5 at *
    go_upto_region 11 with (go_at_call 9; (with_reducible refine (hpu.out _).mono ?_); rintro e w6 ⟨rfl, q2⟩; (try replace r3 := Lib.hid (rowB r3.out q2 (Array.getElem?_eq_some_iff.1 r3.out).1)); (try replace r5 := Lib.hid (rowB r5.out q2 (Array.getElem?_eq_some_iff.1 r5.out).1)); (try replace hp := Lib.hid (hp.out.mono q2)); (try replace hq := Lib.hid (hq.out.mono q2)); (try replace hG := Lib.hid (hG.out.mono q2)); (try replace x9 := Lib.hid (x9.out.mono q2)); (try replace x11 := Lib.hid (x11.out.mono q2)); replace hS := Lib.hid (hS.out.trans (Below.mono q2 hS.out.size)); clear q2)
    cases hc : decide (chkO o = 0)
    · have hne : chkO o ≠ 0 := of_decide_eq_false hc
      rw [hc] at hft
      have hve : verO o = chkO o := if_neg hne
      rw [hve] at hvo
      generalize chkO o = CO at *
      have d0 : (CO != 0) = true := by simpa using hne
      have d22 : (CO != 22) = true := by rcases hcv.out with h | h | h | h <;> (subst h; rfl)
      go_wp2_with (first | (refine wpList_load_row_g rfl 32 _ rfl w.heap.size rfl 32 (o.c (.slice pa o.n pc)) (0, 0) _ r3.out Tryd.underlying32 rfl info_op ?_) | (go_at_call 13; (with_reducible refine (hft.out _ _ hp.out).mono ?_); rintro e w4 ⟨rfl, q2⟩; (try replace r3 := Lib.hid (rowB r3.out q2 (Array.getElem?_eq_some_iff.1 r3.out).1)); (try replace r5 := Lib.hid (rowB r5.out q2 (Array.getElem?_eq_some_iff.1 r5.out).1)); (try replace hp := Lib.hid (hp.out.mono q2)); (try replace hq := Lib.hid (hq.out.mono q2)); (try replace hG := Lib.hid (hG.out.mono q2)); (try replace x9 := Lib.hid (x9.out.mono q2)); (try replace x11 := Lib.hid (x11.out.mono q2)); replace hS := Lib.hid (hS.out.trans (Below.mono q2 hS.out.size)); clear q2) | (go_at_call 11; (with_reducible refine (hvo.out _ _ hp.out hG.out).mono ?_); rintro e w4 ⟨rfl, q2⟩; (try replace r3 := Lib.hid (rowB r3.out q2 (Array.getElem?_eq_some_iff.1 r3.out).1)); (try replace r5 := Lib.hid (rowB r5.out q2 (Array.getElem?_eq_some_iff.1 r5.out).1)); (try replace hp := Lib.hid (hp.out.mono q2)); (try replace hq := Lib.hid (hq.out.mono q2)); (try replace hG := Lib.hid (hG.out.mono q2)); (try replace x9 := Lib.hid (x9.out.mono q2)); (try replace x11 := Lib.hid (x11.out.mono q2)); replace hS := Lib.hid (hS.out.trans (Below.mono q2 hS.out.size)); clear q2) | (go_at_call 7; (with_reducible refine (alive6 _ hG.out).mono ?_); rintro e w4 ⟨rfl, q2⟩; (try replace r3 := Lib.hid (rowB r3.out q2 (Array.getElem?_eq_some_iff.1 r3.out).1)); (try replace r5 := Lib.hid (rowB r5.out q2 (Array.getElem?_eq_some_iff.1 r5.out).1)); (try replace hp := Lib.hid (hp.out.mono q2)); (try replace hq := Lib.hid (hq.out.mono q2)); (try replace hG := Lib.hid (hG.out.mono q2)); (try replace x9 := Lib.hid (x9.out.mono q2)); (try replace x11 := Lib.hid (x11.out.mono q2)); replace hS := Lib.hid (hS.out.trans (Below.mono q2 hS.out.size)); clear q2))
      go_ret
      exact ⟨rfl, hS.out⟩
    · rw [hc] at hft
      have h0 : chkO o = 0 := of_decide_eq_true hc
      have hmo := Lib.hid (fun (wz : World) (v : Value) (h : RdI wz v o.n o.F) => msg_ok o fo' v wz h (chk_bare h0) (msgB o) rfl)
      rw [show verO o = if rightB o.au (msgB o) o.s o.e then 0 else 22 from if_pos h0] at hvo
      have hkW := Lib.hid (fun (wz : World) (v : Value) (hv : RdB wz v (msgB o)) (hg : GlobW wz) => verify_any o.au (chk_in h0) o.s o.e fo'.s fo'.e v (msgB o) wz hv (msgB_bytes o fo' (chk_zero h0).1 (chk_zero h0).2.2) (Nat.le_trans (msgB_short o fo' (chk_zero h0).1 hlF' (chk_zero h0).2.2) (by decide)) hg)
      obtain ⟨NM, hNM⟩ : ∃ N, (msgB o).length = N := ⟨_, rfl⟩
      replace hNM := Lib.hid hNM
      generalize (if rightB o.au (msgB o) o.s o.e then (0 : Int) else 22) = R at *
      generalize msgB o = MB at *
      clear h0 hc hcv fo' hlF'
      go_upto_region 14 with (first | (refine wpList_load_row_g rfl 32 _ rfl w.heap.size rfl 32 (o.c (.slice pa o.n pc)) (0, 0) _ r3.out Tryd.underlying32 rfl info_op ?_) | (go_at_call 13; (with_reducible refine (hft.out _ _ hp.out).mono ?_); rintro e w4 ⟨rfl, q2⟩; (try replace r3 := Lib.hid (rowB r3.out q2 (Array.getElem?_eq_some_iff.1 r3.out).1)); (try replace r5 := Lib.hid (rowB r5.out q2 (Array.getElem?_eq_some_iff.1 r5.out).1)); (try replace hp := Lib.hid (hp.out.mono q2)); (try replace hq := Lib.hid (hq.out.mono q2)); (try replace hG := Lib.hid (hG.out.mono q2)); (try replace x9 := Lib.hid (x9.out.mono q2)); (try replace x11 := Lib.hid (x11.out.mono q2)); replace hS := Lib.hid (hS.out.trans (Below.mono q2 hS.out.size)); clear q2) | (go_at_call 10; (with_reducible refine (hmo.out _ _ hp.out).mono ?_); rintro e w4 ⟨sv, rfl, q1, q2⟩; (try replace r3 := Lib.hid (rowB r3.out q2 (Array.getElem?_eq_some_iff.1 r3.out).1)); (try replace r5 := Lib.hid (rowB r5.out q2 (Array.getElem?_eq_some_iff.1 r5.out).1)); (try replace hp := Lib.hid (hp.out.mono q2)); (try replace hq := Lib.hid (hq.out.mono q2)); (try replace hG := Lib.hid (hG.out.mono q2)); (try replace x9 := Lib.hid (x9.out.mono q2)); (try replace x11 := Lib.hid (x11.out.mono q2)); replace hS := Lib.hid (hS.out.trans (Below.mono q2 hS.out.size)); have x11 := Lib.hid q1; obtain ⟨ma, mc, hz4⟩ := x11.out.slice; rw [hNM.out] at hz4; subst hz4; clear q1 q2))
      have lt3 := Lib.hid (Array.getElem?_eq_some_iff.1 r3.out).1
      have k3 := Lib.hid (fun (w' : World) (h : Below w4.heap.size w4 w') => rowB r3.out h lt3.out)
      have kc := Lib.hid (fun (w' : World) (h : Below w4.heap.size w4 w') => (cellsO (rowB r3.out h lt3.out)).1)
      have ks := Lib.hid (fun (w' : World) (h : Below w4.heap.size w4 w') => (cellsO (rowB r3.out h lt3.out)).2.2.2.2.1)
      have kV := Lib.hid (fun (w' : World) (h : Below w4.heap.size w4 w') => hvo.out w' (.slice pa o.n pc) (hp.out.mono h) (hG.out.mono h))
      have kW := Lib.hid (fun (w' : World) (h : Below w4.heap.size w4 w') => hkW.out w' (.slice ma NM mc) (x11.out.mono h) (hG.out.mono h))
      have kL := Lib.hid (fun (w' : World) (h : Below w4.heap.size w4 w') => alive6 w' (hG.out.mono h))
      clear hvo hkW hft hmo hgr r3 r5 hp x11 hG
      refine wp_region_quiet (C := fun w' => Below w4.heap.size w4 w') (by kernel_rfl) (by kernel_rfl) ((Below.refl _ _).drew) ?_
      simp only []
      (go_big_quiet_want; go_big_quiet_op; first | go_big_quiet_on | (refine ⟨_, fun _ _ => rfl, ?_⟩; go_big_quiet_on))
      (go_big_quiet_want; go_big_quiet_op; first | go_big_quiet_on | (refine ⟨_, fun _ _ => rfl, ?_⟩; go_big_quiet_on))
      (go_big_quiet_want; go_big_quiet_op; first | go_big_quiet_on | (refine ⟨_, fun _ _ => rfl, ?_⟩; go_big_quiet_on))
      refine wpq (.agg (o.c (.slice pa o.n pc))) rfl (quiet_row 32 _ rfl (w.heap.size) rfl 32 (o.c (.slice pa o.n pc)) (0, 0) _ k3.out Tryd.underlying32 rfl info_op) rfl (fun K hK => ?_); go_simp; refine hK _ ?_; clear hK K
      refine wpq (.int .i64 R) rfl (qa_call1 (.agg (o.c (.slice pa o.n pc))) rfl Tryd.func11 (by kernel_rfl) rfl rfl rfl (fun w h => (kV.out w h).mono fun e w' ⟨he, hb⟩ => ⟨he, h.trans (hb.mono h.size)⟩)) rfl (fun K hK => ?_); go_simp; refine hK _ ?_; clear hK K
      (go_big_quiet_want; go_big_quiet_op; first | go_big_quiet_on | (refine ⟨_, fun _ _ => rfl, ?_⟩; go_big_quiet_on))
      refine wpq (.int .u32 (o.au : Int)) rfl (quiet_cell 22 _ rfl w.heap.size 0 rfl (.int .u32 (o.au : Int)) kc.out Tryd.isAgg22) rfl (fun K hK => ?_); go_simp; refine hK _ ?_; clear hK K
      (go_big_quiet_want; go_big_quiet_op; first | go_big_quiet_on | (refine ⟨_, fun _ _ => rfl, ?_⟩; go_big_quiet_on))
      (go_big_quiet_want; go_big_quiet_op; first | go_big_quiet_on | (refine ⟨_, fun _ _ => rfl, ?_⟩; go_big_quiet_on))
      refine wpq (.agg #[.int .u32 (o.e : Int), .int .u32 (o.s : Int)]) rfl (quiet_mid 30 _ rfl w.heap.size 9 rfl [.int .u32 (o.e : Int), .int .u32 (o.s : Int)] _ ks.out Tryd.underlying30 rfl info_sig) rfl (fun K hK => ?_); go_simp; refine hK _ ?_; clear hK K
      refine wpq (.int .i64 R) rfl (qa_call3 (.int .u32 (o.au : Int)) (.slice ma NM mc) (.agg #[.int .u32 (o.e : Int), .int .u32 (o.s : Int)]) rfl Tryd.func12 (by kernel_rfl) rfl rfl rfl rfl rfl (fun w h => (kW.out w h).mono fun e w' ⟨he, hb⟩ => ⟨he, h.trans (hb.mono h.size)⟩)) rfl (fun K hK => ?_); go_simp; refine hK _ ?_; clear hK K
      (go_big_quiet_want; go_big_quiet_op; first | go_big_quiet_on | (refine ⟨_, fun _ _ => rfl, ?_⟩; go_big_quiet_on))
      (go_big_quiet_want; go_big_quiet_op; first | go_big_quiet_on | (refine ⟨_, fun _ _ => rfl, ?_⟩; go_big_quiet_on))
      (go_big_quiet_want; go_big_quiet_op; first | go_big_quiet_on | (refine ⟨_, fun _ _ => rfl, ?_⟩; go_big_quiet_on))
      refine wpq (.bool true) rfl (qa_call0 rfl Tryd.func7 (by kernel_rfl) rfl rfl (fun w h => (kL.out w h).mono fun e w' ⟨he, hb⟩ => ⟨he, h.trans (hb.mono h.size)⟩)) rfl (fun K hK => ?_); go_simp; refine hK _ ?_; clear hK K
      (go_big_quiet_want; go_big_quiet_op; first | go_big_quiet_on | (refine ⟨_, fun _ _ => rfl, ?_⟩; go_big_quiet_on))
      (go_big_quiet_want; go_big_quiet_op; first | go_big_quiet_on | (refine ⟨_, fun _ _ => rfl, ?_⟩; go_big_quiet_on))
      refine wpQuiet_nil ?_
      intro w9 h9
      have hB9 := Lib.hid (hS.out.trans (h9.mono hS.out.size))
      clear h9
      go_wp2
      go_ret
      exact ⟨rfl, hB9.out⟩
  · subst h
    clear hn0
    go_enter Tryd.func3, Tryd.ntmps3
    go_upto_region 1 with fail
    rw [← hW]
    clear hW
    go_upto_region 4 with (first | (refine wpList_load_row_g rfl 32 _ rfl w.heap.size rfl 32 (o.c (.slice pa o.n pc)) (0, 0) _ r3.out Tryd.underlying32 rfl info_op ?_) | (go_at_call 6; (with_reducible refine (hgr.out _).mono ?_); rintro e w4 ⟨rfl, q2⟩; (try replace r3 := Lib.hid (rowB r3.out q2 (Array.getElem?_eq_some_iff.1 r3.out).1)); (try replace r5 := Lib.hid (rowB r5.out q2 (Array.getElem?_eq_some_iff.1 r5.out).1)); (try replace hp := Lib.hid (hp.out.mono q2)); (try replace hq := Lib.hid (hq.out.mono q2)); (try replace hG := Lib.hid (hG.out.mono q2)); (try replace x9 := Lib.hid (x9.out.mono q2)); (try replace x11 := Lib.hid (x11.out.mono q2)); replace hS := Lib.hid (hS.out.trans (Below.mono q2 hS.out.size)); clear q2) | (go_at_call 8; (with_reducible refine (hsg.out _ _ hp.out).mono ?_); rintro e w4 ⟨rfl, q2⟩; (try replace r3 := Lib.hid (rowB r3.out q2 (Array.getElem?_eq_some_iff.1 r3.out).1)); (try replace r5 := Lib.hid (rowB r5.out q2 (Array.getElem?_eq_some_iff.1 r5.out).1)); (try replace hp := Lib.hid (hp.out.mono q2)); (try replace hq := Lib.hid (hq.out.mono q2)); (try replace hG := Lib.hid (hG.out.mono q2)); (try replace x9 := Lib.hid (x9.out.mono q2)); (try replace x11 := Lib.hid (x11.out.mono q2)); replace hS := Lib.hid (hS.out.trans (Below.mono q2 hS.out.size)); clear q2))
    have q2 := below_a w4 (.cells (zO.c (.slice none 0 0)) 32)
    have r5 := Lib.hid (heap_alloc_new w4 (.cells (zO.c (.slice none 0 0)) 32))
    (try replace r3 := Lib.hid (rowB r3.out q2 (Array.getElem?_eq_some_iff.1 r3.out).1)); (try replace hp := Lib.hid (hp.out.mono q2)); (try replace hq := Lib.hid (hq.out.mono q2)); (try replace hG := Lib.hid (hG.out.mono q2)); (try replace x9 := Lib.hid (x9.out.mono q2)); (try replace x11 := Lib.hid (x11.out.mono q2)); replace hS := Lib.hid (hS.out.trans (Below.mono q2 hS.out.size))
    clear q2
    change Code.wp _ _ _ _ (w4.alloc (.cells (zO.c (.slice none 0 0)) 32))
    generalize w4.alloc (.cells (zO.c (.slice none 0 0)) 32) = w5 at *
    generalize w4.heap.size = g5 at *
    go_upto_region 11 with (go_at_call 9; (with_reducible refine (hpu.out _).mono ?_); rintro e w6 ⟨rfl, q2⟩; (try replace r3 := Lib.hid (rowB r3.out q2 (Array.getElem?_eq_some_iff.1 r3.out).1)); (try replace r5 := Lib.hid (rowB r5.out q2 (Array.getElem?_eq_some_iff.1 r5.out).1)); (try replace hp := Lib.hid (hp.out.mono q2)); (try replace hq := Lib.hid (hq.out.mono q2)); (try replace hG := Lib.hid (hG.out.mono q2)); (try replace x9 := Lib.hid (x9.out.mono q2)); (try replace x11 := Lib.hid (x11.out.mono q2)); replace hS := Lib.hid (hS.out.trans (Below.mono q2 hS.out.size)); clear q2)
    cases hc : decide (chkO o = 0)
    · have hne : chkO o ≠ 0 := of_decide_eq_false hc
      rw [hc] at hft
      have hve : verO o = chkO o := if_neg hne
      rw [hve] at hvo
      generalize chkO o = CO at *
      have d0 : (CO != 0) = true := by simpa using hne
      have d22 : (CO != 22) = true := by rcases hcv.out with h | h | h | h <;> (subst h; rfl)
      go_wp2_with (first | (refine wpList_load_row_g rfl 32 _ rfl w.heap.size rfl 32 (o.c (.slice pa o.n pc)) (0, 0) _ r3.out Tryd.underlying32 rfl info_op ?_) | (go_at_call 13; (with_reducible refine (hft.out _ _ hp.out).mono ?_); rintro e w4 ⟨rfl, q2⟩; (try replace r3 := Lib.hid (rowB r3.out q2 (Array.getElem?_eq_some_iff.1 r3.out).1)); (try replace r5 := Lib.hid (rowB r5.out q2 (Array.getElem?_eq_some_iff.1 r5.out).1)); (try replace hp := Lib.hid (hp.out.mono q2)); (try replace hq := Lib.hid (hq.out.mono q2)); (try replace hG := Lib.hid (hG.out.mono q2)); (try replace x9 := Lib.hid (x9.out.mono q2)); (try replace x11 := Lib.hid (x11.out.mono q2)); replace hS := Lib.hid (hS.out.trans (Below.mono q2 hS.out.size)); clear q2) | (go_at_call 11; (with_reducible refine (hvo.out _ _ hp.out hG.out).mono ?_); rintro e w4 ⟨rfl, q2⟩; (try replace r3 := Lib.hid (rowB r3.out q2 (Array.getElem?_eq_some_iff.1 r3.out).1)); (try replace r5 := Lib.hid (rowB r5.out q2 (Array.getElem?_eq_some_iff.1 r5.out).1)); (try replace hp := Lib.hid (hp.out.mono q2)); (try replace hq := Lib.hid (hq.out.mono q2)); (try replace hG := Lib.hid (hG.out.mono q2)); (try replace x9 := Lib.hid (x9.out.mono q2)); (try replace x11 := Lib.hid (x11.out.mono q2)); replace hS := Lib.hid (hS.out.trans (Below.mono q2 hS.out.size)); clear q2) | (go_at_call 7; (with_reducible refine (alive6 _ hG.out).mono ?_); rintro e w4 ⟨rfl, q2⟩; (try replace r3 := Lib.hid (rowB r3.out q2 (Array.getElem?_eq_some_iff.1 r3.out).1)); (try replace r5 := Lib.hid (rowB r5.out q2 (Array.getElem?_eq_some_iff.1 r5.out).1)); (try replace hp := Lib.hid (hp.out.mono q2)); (try replace hq := Lib.hid (hq.out.mono q2)); (try replace hG := Lib.hid (hG.out.mono q2)); (try replace x9 := Lib.hid (x9.out.mono q2)); (try replace x11 := Lib.hid (x11.out.mono q2)); replace hS := Lib.hid (hS.out.trans (Below.mono q2 hS.out.size)); clear q2))
      go_ret
      exact ⟨rfl, hS.out⟩
    · rw [hc] at hft
      have h0 : chkO o = 0 := of_decide_eq_true hc
      have hmo := Lib.hid (fun (wz : World) (v : Value) (h : RdI wz v o.n o.F) => msg_ok o fo' v wz h (chk_bare h0) (msgB o) rfl)
      rw [show verO o = if rightB o.au (msgB o) o.s o.e then 0 else 22 from if_pos h0] at hvo
      have hkW := Lib.hid (fun (wz : World) (v : Value) (hv : RdB wz v (msgB o)) (hg : GlobW wz) => verify_any o.au (chk_in h0) o.s o.e fo'.s fo'.e v (msgB o) wz hv (msgB_bytes o fo' (chk_zero h0).1 (chk_zero h0).2.2) (Nat.le_trans (msgB_short o fo' (chk_zero h0).1 hlF' (chk_zero h0).2.2) (by decide)) hg)
      obtain ⟨NM, hNM⟩ : ∃ N, (msgB o).length = N := ⟨_, rfl⟩
      replace hNM := Lib.hid hNM
      generalize (if rightB o.au (msgB o) o.s o.e then (0 : Int) else 22) = R at *
      generalize msgB o = MB at *
      clear h0 hc hcv fo' hlF'
      go_upto_region 14 with (first | (refine wpList_load_row_g rfl 32 _ rfl w.heap.size rfl 32 (o.c (.slice pa o.n pc)) (0, 0) _ r3.out Tryd.underlying32 rfl info_op ?_) | (go_at_call 13; (with_reducible refine (hft.out _ _ hp.out).mono ?_); rintro e w4 ⟨rfl, q2⟩; (try replace r3 := Lib.hid (rowB r3.out q2 (Array.getElem?_eq_some_iff.1 r3.out).1)); (try replace r5 := Lib.hid (rowB r5.out q2 (Array.getElem?_eq_some_iff.1 r5.out).1)); (try replace hp := Lib.hid (hp.out.mono q2)); (try replace hq := Lib.hid (hq.out.mono q2)); (try replace hG := Lib.hid (hG.out.mono q2)); (try replace x9 := Lib.hid (x9.out.mono q2)); (try replace x11 := Lib.hid (x11.out.mono q2)); replace hS := Lib.hid (hS.out.trans (Below.mono q2 hS.out.size)); clear q2) | (go_at_call 10; (with_reducible refine (hmo.out _ _ hp.out).mono ?_); rintro e w4 ⟨sv, rfl, q1, q2⟩; (try replace r3 := Lib.hid (rowB r3.out q2 (Array.getElem?_eq_some_iff.1 r3.out).1)); (try replace r5 := Lib.hid (rowB r5.out q2 (Array.getElem?_eq_some_iff.1 r5.out).1)); (try replace hp := Lib.hid (hp.out.mono q2)); (try replace hq := Lib.hid (hq.out.mono q2)); (try replace hG := Lib.hid (hG.out.mono q2)); (try replace x9 := Lib.hid (x9.out.mono q2)); (try replace x11 := Lib.hid (x11.out.mono q2)); replace hS := Lib.hid (hS.out.trans (Below.mono q2 hS.out.size)); have x11 := Lib.hid q1; obtain ⟨ma, mc, hz4⟩ := x11.out.slice; rw [hNM.out] at hz4; subst hz4; clear q1 q2))
      have lt3 := Lib.hid (Array.getElem?_eq_some_iff.1 r3.out).1
      have k3 := Lib.hid (fun (w' : World) (h : Below w4.heap.size w4 w') => rowB r3.out h lt3.out)
      have kc := Lib.hid (fun (w' : World) (h : Below w4.heap.size w4 w') => (cellsO (rowB r3.out h lt3.out)).1)
      have ks := Lib.hid (fun (w' : World) (h : Below w4.heap.size w4 w') => (cellsO (rowB r3.out h lt3.out)).2.2.2.2.1)
      have kV := Lib.hid (fun (w' : World) (h : Below w4.heap.size w4 w') => hvo.out w' (.slice pa o.n pc) (hp.out.mono h) (hG.out.mono h))
      have kW := Lib.hid (fun (w' : World) (h : Below w4.heap.size w4 w') => hkW.out w' (.slice ma NM mc) (x11.out.mono h) (hG.out.mono h))
      have kL := Lib.hid (fun (w' : World) (h : Below w4.heap.size w4 w') => alive6 w' (hG.out.mono h))
      clear hvo hkW hft hmo hgr r3 r5 hp x11 hG
      refine wp_region_quiet (C := fun w' => Below w4.heap.size w4 w') (by kernel_rfl) (by kernel_rfl) ((Below.refl _ _).drew) ?_
      simp only []
      (go_big_quiet_want; go_big_quiet_op; first | go_big_quiet_on | (refine ⟨_, fun _ _ => rfl, ?_⟩; go_big_quiet_on))
      (go_big_quiet_want; go_big_quiet_op; first | go_big_quiet_on | (refine ⟨_, fun _ _ => rfl, ?_⟩; go_big_quiet_on))
      (go_big_quiet_want; go_big_quiet_op; first | go_big_quiet_on | (refine ⟨_, fun _ _ => rfl, ?_⟩; go_big_quiet_on))
      refine wpq (.agg (o.c (.slice pa o.n pc))) rfl (quiet_row 32 _ rfl (w.heap.size) rfl 32 (o.c (.slice pa o.n pc)) (0, 0) _ k3.out Tryd.underlying32 rfl info_op) rfl (fun K hK => ?_); go_simp; refine hK _ ?_; clear hK K
      refine wpq (.int .i64 R) rfl (qa_call1 (.agg (o.c (.slice pa o.n pc))) rfl Tryd.func11 (by kernel_rfl) rfl rfl rfl (fun w h => (kV.out w h).mono fun e w' ⟨he, hb⟩ => ⟨he, h.trans (hb.mono h.size)⟩)) rfl (fun K hK => ?_); go_simp; refine hK _ ?_; clear hK K
      (go_big_quiet_want; go_big_quiet_op; first | go_big_quiet_on | (refine ⟨_, fun _ _ => rfl, ?_⟩; go_big_quiet_on))
      refine wpq (.int .u32 (o.au : Int)) rfl (quiet_cell 22 _ rfl w.heap.size 0 rfl (.int .u32 (o.au : Int)) kc.out Tryd.isAgg22) rfl (fun K hK => ?_); go_simp; refine hK _ ?_; clear hK K
      (go_big_quiet_want; go_big_quiet_op; first | go_big_quiet_on | (refine ⟨_, fun _ _ => rfl, ?_⟩; go_big_quiet_on))
      (go_big_quiet_want; go_big_quiet_op; first | go_big_quiet_on | (refine ⟨_, fun _ _ => rfl, ?_⟩; go_big_quiet_on))
      refine wpq (.agg #[.int .u32 (o.e : Int), .int .u32 (o.s : Int)]) rfl (quiet_mid 30 _ rfl w.heap.size 9 rfl [.int .u32 (o.e : Int), .int .u32 (o.s : Int)] _ ks.out Tryd.underlying30 rfl info_sig) rfl (fun K hK => ?_); go_simp; refine hK _ ?_; clear hK K
      refine wpq (.int .i64 R) rfl (qa_call3 (.int .u32 (o.au : Int)) (.slice ma NM mc) (.agg #[.int .u32 (o.e : Int), .int .u32 (o.s : Int)]) rfl Tryd.func12 (by kernel_rfl) rfl rfl rfl rfl rfl (fun w h => (kW.out w h).mono fun e w' ⟨he, hb⟩ => ⟨he, h.trans (hb.mono h.size)⟩)) rfl (fun K hK => ?_); go_simp; refine hK _ ?_; clear hK K
      (go_big_quiet_want; go_big_quiet_op; first | go_big_quiet_on | (refine ⟨_, fun _ _ => rfl, ?_⟩; go_big_quiet_on))
      (go_big_quiet_want; go_big_quiet_op; first | go_big_quiet_on | (refine ⟨_, fun _ _ => rfl, ?_⟩; go_big_quiet_on))
      (go_big_quiet_want; go_big_quiet_op; first | go_big_quiet_on | (refine ⟨_, fun _ _ => rfl, ?_⟩; go_big_quiet_on))
      refine wpq (.bool true) rfl (qa_call0 rfl Tryd.func7 (by kernel_rfl) rfl rfl (fun w h => (kL.out w h).mono fun e w' ⟨he, hb⟩ => ⟨he, h.trans (hb.mono h.size)⟩)) rfl (fun K hK => ?_); go_simp; refine hK _ ?_; clear hK K
      (go_big_quiet_want; go_big_quiet_op; first | go_big_quiet_on | (refine ⟨_, fun _ _ => rfl, ?_⟩; go_big_quiet_on))
      (go_big_quiet_want; go_big_quiet_op; first | go_big_quiet_on | (refine ⟨_, fun _ _ => rfl, ?_⟩; go_big_quiet_on))
      refine wpQuiet_nil ?_
      intro w9 h9
      have hB9 := Lib.hid (hS.out.trans (h9.mono hS.out.size))
      clear h9
      go_wp2
      go_ret
      exact ⟨rfl, hB9.out⟩
end Go.Proofs.YtegffpjhdodldaaDoor.wir.val
namespace Go.Proofs.YtegffpjhdodldaaDoor.wir.val
open Go.RowKit Go.YtegffpjhdodldaaDoor
set_option linter.unusedVariables false
theorem neqA (k : Int) (s : ByteArray) (v : Va) (w : World) : (binOp .neq 28 (aA k s v) (aA k s v)).run Tryd.prog w = .ok (.bool false) w := by
  rw [run_neq_struct]
  have h0 : Tryd.prog.underlying 28 = some (.struct (Tryd.prog.fieldsOf 28)) := by kernel_rfl
  have h1 : Tryd.prog.stoodInHeld 28 = false := by kernel_rfl
  rw [run_equalIn_agg _ _ _ _ _ h0 h1]
  simp [go_sem]
theorem wpList_neqS {P : Program} {ops : Array Oper} {rest : List Oper} {o : Oper} {a : Act} {w : World} {Q : Exit → Act → World → Prop} (hw : Region.wanted o (yielded ops a.tmps) = true) (T : TypeId) (x y : Operand) (ho : o.op = .binOp .neq T x y T) (cx cy : Array Value) (hx : a.eval x = .agg cx) (hy : a.eval y = .agg cy)
    (h0 : P.eqGuardType P.depth T = false) (B : Bool) (hrun : (binOp .neq T (.agg cx) (.agg cy)).run P w = .ok (.bool B) w) (h : wpList P ops Q rest (a.put o.dst (.bool B)) w) : wpList P ops Q (o :: rest) a w :=
  wpList_step fun K hK => by
    rw [if_pos hw]
    have hg := run_eqGuard_agg (P := P) w .neq T x y cx cy h0
    unfold Oper.wp execOp
    simp only [ho, hx, hy, Sem.run_bind, Sem.run_pure, hg, Result.andThen_ok, hrun]
    exact hK _ _ h
set_option maxHeartbeats 8000000 in
set_option maxRecDepth 100000 in
theorem signed_ok (a : Nat) (ha : 1 ≤ a ∧ a < 500000003) (o : Od) (fo : o.Fit) (hg : greatB o = false) (hn0 : chkO (o.byA (grp.pw 4 a)).bare = 0) (pv : Value) (w : World) (hp0 : RdI w pv o.n o.F) (hG0 : GlobW w) :
    Calls Tryd.prog 3 #[.int .u32 (a : Int), .agg (o.c pv)] w fun e w' => e = .returned (.bool true) ∧ Below w.heap.size w w' := by
  obtain ⟨W, hW⟩ : ∃ W, W = w.alloc (.cells (o.c pv) 32) := ⟨_, rfl⟩
  have hr0 := heap_alloc_new w (.cells (o.c pv) 32)
  have hb0 := (Below.refl w.heap.size w).alloc (Nat.le_refl _) (.cells (o.c pv) 32)
  rw [← hW] at hr0 hb0
  have hlF := hp0.len
  obtain ⟨pa, pc, rfl⟩ := hp0.slice
  have hp := Lib.hid (hp0.mono hb0)
  have hG := Lib.hid (hG0.mono hb0)
  have hS := Lib.hid hb0
  have r3 := Lib.hid hr0
  have hgr := Lib.hid (fun wz => great_any o pa pc wz)
  rw [hg] at hgr
  have hft := Lib.hid (fun (wz : World) (v : Value) (h : RdI wz v o.n o.F) => fit_any o fo hg v wz h)
  have hvo := Lib.hid (fun (wz : World) (v : Value) (h : RdI wz v o.n o.F) (hg : GlobW wz) => opVerify_any o fo v wz h hg)
  have hsg := Lib.hid (fun (wz : World) (v : Value) (h : RdI wz v o.n o.F) (hg : GlobW wz) => opSign_ok a ha o fo v wz h hg hn0)
  have hpu := Lib.hid (fun wz => public_ok a ha wz)
  have hcv := Lib.hid (chk_vals o)
  have hri := signed_right a (msgB (o.byA (grp.pw 4 a)))
  have hE3 := eN_lt a (msgB (o.byA (grp.pw 4 a)))
  have hS3 := sN_lt a (msgB (o.byA (grp.pw 4 a)))
  have hyu := pw_u32 4 a
  generalize hEe : eN a (msgB (o.byA (grp.pw 4 a))) = E at *
  generalize hSe : sN a (msgB (o.byA (grp.pw 4 a))) = S at *
  clear hEe hSe
  generalize grp.pw 4 a = y at *
  have z := chk_zero hn0
  have fs := fit_sigd fo y E S hyu hE3 hS3
  have cz := chk_sigd hn0 hE3 hS3
  have hvs := Lib.hid (fun (wz : World) (v : Value) (h : RdI wz v o.n o.F) (hg : GlobW wz) => opVerify_any (o.sigd y E S) fs v wz h hg)
  rw [ver_zero o y E S cz hri] at hvs
  have hms := Lib.hid (fun (wz : World) (v : Value) (h : RdI wz v o.n o.F) => msg_ok (o.sigd y E S) fs v wz h hn0 (msgB (o.byA y)) rfl)
  have hks := Lib.hid (fun (wz : World) (v : Value) (hv : RdB wz v (msgB (o.byA y))) (hg : GlobW wz) => verify_any y (chk_in cz) S E fs.s fs.e v (msgB (o.byA y)) wz hv (msgB_bytes (o.byA y) (fit_by fo y hyu) z.1 z.2.2) (Nat.le_trans (msgB_short (o.byA y) (fit_by fo y hyu) z.1 hlF z.2.2) (by decide)) hg)
  rw [show (if rightB y (msgB (o.byA y)) S E then (0 : Int) else 22) = 0 from if_pos hri] at hks
  obtain ⟨N9, hN9⟩ : ∃ N, (msgB (o.byA y)).length = N := ⟨_, rfl⟩
  replace hN9 := Lib.hid hN9
  generalize msgB (o.byA y) = M9 at *
  have hlF' := hlF
  have fo' := fo
  clear hp0 hG0 hb0 hr0 fo hlF ha hri hE3 hS3 z fs cz hn0 hyu
  go_enter Tryd.func3, Tryd.ntmps3
  go_upto_region 1 with fail
  rw [← hW]
  clear hW
  go_upto_region 4 with (first | (refine wpList_load_row_g rfl 32 _ rfl w.heap.size rfl 32 (o.c (.slice pa o.n pc)) (0, 0) _ r3.out Tryd.underlying32 rfl info_op ?_) | (go_at_call 6; (with_reducible refine (hgr.out _).mono ?_); rintro e w4 ⟨rfl, q2⟩; (try replace r3 := Lib.hid (rowB r3.out q2 (Array.getElem?_eq_some_iff.1 r3.out).1)); (try replace r5 := Lib.hid (rowB r5.out q2 (Array.getElem?_eq_some_iff.1 r5.out).1)); (try replace hp := Lib.hid (hp.out.mono q2)); (try replace hq := Lib.hid (hq.out.mono q2)); (try replace hG := Lib.hid (hG.out.mono q2)); (try replace x9 := Lib.hid (x9.out.mono q2)); (try replace x11 := Lib.hid (x11.out.mono q2)); replace hS := Lib.hid (hS.out.trans (Below.mono q2 hS.out.size)); clear q2) | (go_at_call 8; (with_reducible refine (hsg.out _ _ hp.out hG.out).mono ?_); rintro e w4 ⟨qv, rfl, q1, q2⟩; (try replace r3 := Lib.hid (rowB r3.out q2 (Array.getElem?_eq_some_iff.1 r3.out).1)); (try replace r5 := Lib.hid (rowB r5.out q2 (Array.getElem?_eq_some_iff.1 r5.out).1)); (try replace hp := Lib.hid (hp.out.mono q2)); (try replace hq := Lib.hid (hq.out.mono q2)); (try replace hG := Lib.hid (hG.out.mono q2)); (try replace x9 := Lib.hid (x9.out.mono q2)); (try replace x11 := Lib.hid (x11.out.mono q2)); replace hS := Lib.hid (hS.out.trans (Below.mono q2 hS.out.size)); have hq := Lib.hid q1; obtain ⟨qa, qc, hz4⟩ := hq.out.slice; subst hz4; clear q1 q2))
  have q2 := below_a w4 (.cells ((o.sigd y E S).c (.slice qa o.n qc)) 32)
  have r5 := Lib.hid (heap_alloc_new w4 (.cells ((o.sigd y E S).c (.slice qa o.n qc)) 32))
  (try replace r3 := Lib.hid (rowB r3.out q2 (Array.getElem?_eq_some_iff.1 r3.out).1)); (try replace hp := Lib.hid (hp.out.mono q2)); (try replace hq := Lib.hid (hq.out.mono q2)); (try replace hG := Lib.hid (hG.out.mono q2)); (try replace x9 := Lib.hid (x9.out.mono q2)); (try replace x11 := Lib.hid (x11.out.mono q2)); replace hS := Lib.hid (hS.out.trans (Below.mono q2 hS.out.size))
  clear q2
  change Code.wp _ _ _ _ (w4.alloc (.cells ((o.sigd y E S).c (.slice qa o.n qc)) 32))
  generalize w4.alloc (.cells ((o.sigd y E S).c (.slice qa o.n qc)) 32) = w5 at *
  generalize w4.heap.size = g5 at *
  go_upto_region 7 with (first | (go_at_call 9; (with_reducible refine (hpu.out _).mono ?_); rintro e w6 ⟨rfl, q2⟩; (try replace r3 := Lib.hid (rowB r3.out q2 (Array.getElem?_eq_some_iff.1 r3.out).1)); (try replace r5 := Lib.hid (rowB r5.out q2 (Array.getElem?_eq_some_iff.1 r5.out).1)); (try replace hp := Lib.hid (hp.out.mono q2)); (try replace hq := Lib.hid (hq.out.mono q2)); (try replace hG := Lib.hid (hG.out.mono q2)); (try replace x9 := Lib.hid (x9.out.mono q2)); (try replace x11 := Lib.hid (x11.out.mono q2)); replace hS := Lib.hid (hS.out.trans (Below.mono q2 hS.out.size)); clear q2) | (refine wpList_load_row_g rfl 32 _ rfl g5 rfl 32 ((o.sigd y E S).c (.slice qa o.n qc)) (0, 0) _ r5.out Tryd.underlying32 rfl info_op ?_) | (go_at_call 10; (with_reducible refine (hms.out _ _ hq.out).mono ?_); rintro e w4 ⟨sv, rfl, q1, q2⟩; (try replace r3 := Lib.hid (rowB r3.out q2 (Array.getElem?_eq_some_iff.1 r3.out).1)); (try replace r5 := Lib.hid (rowB r5.out q2 (Array.getElem?_eq_some_iff.1 r5.out).1)); (try replace hp := Lib.hid (hp.out.mono q2)); (try replace hq := Lib.hid (hq.out.mono q2)); (try replace hG := Lib.hid (hG.out.mono q2)); (try replace x9 := Lib.hid (x9.out.mono q2)); (try replace x11 := Lib.hid (x11.out.mono q2)); replace hS := Lib.hid (hS.out.trans (Below.mono q2 hS.out.size)); have x9 := Lib.hid q1; obtain ⟨na, nc, hz4⟩ := x9.out.slice; rw [hN9.out] at hz4; subst hz4; clear q1 q2))
  obtain ⟨e0, _, e2, _, _, _, _⟩ := cellsO r5.out
  obtain ⟨_, _, d2, _, _, _, _⟩ := cellsO r3.out
  go_upto_region 11 with (first | (refine wpList_midV rfl 28 _ rfl g5 3 rfl [.int .u8 o.k, .string o.key, .int .u8 o.v.k, .int .i64 o.v.n, .int .u64 (o.v.b : Int), .string o.v.s] _ (cellsO r5.out).2.2.2.1 Tryd.underlying28 rfl info_act ?_) | (refine wpList_midV rfl 28 _ rfl w.heap.size 3 rfl [.int .u8 o.k, .string o.key, .int .u8 o.v.k, .int .i64 o.v.n, .int .u64 (o.v.b : Int), .string o.v.s] _ (cellsO r3.out).2.2.2.1 Tryd.underlying28 rfl info_act ?_) | (refine wpList_midV rfl 30 _ rfl g5 9 rfl [.int .u32 (E : Int), .int .u32 (S : Int)] _ (cellsO r5.out).2.2.2.2.1 Tryd.underlying30 rfl info_sig ?_) | (refine wpList_load_row_g rfl 32 _ rfl g5 rfl 32 ((o.sigd y E S).c (.slice qa o.n qc)) (0, 0) _ r5.out Tryd.underlying32 rfl info_op ?_) | (refine wpList_neqS rfl 28 _ _ rfl (aC o.k o.key o.v) (aC o.k o.key o.v) rfl rfl (by kernel_rfl) false (neqA _ _ _ _) ?_) | (go_at_call 11; (with_reducible refine (hvs.out _ _ hq.out hG.out).mono ?_); rintro e w4 ⟨rfl, q2⟩; (try replace r3 := Lib.hid (rowB r3.out q2 (Array.getElem?_eq_some_iff.1 r3.out).1)); (try replace r5 := Lib.hid (rowB r5.out q2 (Array.getElem?_eq_some_iff.1 r5.out).1)); (try replace hp := Lib.hid (hp.out.mono q2)); (try replace hq := Lib.hid (hq.out.mono q2)); (try replace hG := Lib.hid (hG.out.mono q2)); (try replace x9 := Lib.hid (x9.out.mono q2)); (try replace x11 := Lib.hid (x11.out.mono q2)); replace hS := Lib.hid (hS.out.trans (Below.mono q2 hS.out.size)); clear q2) | (go_at_call 12; (with_reducible refine (hks.out _ _ x9.out hG.out).mono ?_); rintro e w4 ⟨rfl, q2⟩; (try replace r3 := Lib.hid (rowB r3.out q2 (Array.getElem?_eq_some_iff.1 r3.out).1)); (try replace r5 := Lib.hid (rowB r5.out q2 (Array.getElem?_eq_some_iff.1 r5.out).1)); (try replace hp := Lib.hid (hp.out.mono q2)); (try replace hq := Lib.hid (hq.out.mono q2)); (try replace hG := Lib.hid (hG.out.mono q2)); (try replace x9 := Lib.hid (x9.out.mono q2)); (try replace x11 := Lib.hid (x11.out.mono q2)); replace hS := Lib.hid (hS.out.trans (Below.mono q2 hS.out.size)); clear q2))
  cases hc : decide (chkO o = 0)
  · have hne : chkO o ≠ 0 := of_decide_eq_false hc
    rw [hc] at hft
    have hve : verO o = chkO o := if_neg hne
    rw [hve] at hvo
    generalize chkO o = CO at *
    have d0 : (CO != 0) = true := by simpa using hne
    have d22 : (CO != 22) = true := by rcases hcv.out with h | h | h | h <;> (subst h; rfl)
    go_wp2_with (first | (refine wpList_load_row_g rfl 32 _ rfl w.heap.size rfl 32 (o.c (.slice pa o.n pc)) (0, 0) _ r3.out Tryd.underlying32 rfl info_op ?_) | (go_at_call 13; (with_reducible refine (hft.out _ _ hp.out).mono ?_); rintro e w4 ⟨rfl, q2⟩; (try replace r3 := Lib.hid (rowB r3.out q2 (Array.getElem?_eq_some_iff.1 r3.out).1)); (try replace r5 := Lib.hid (rowB r5.out q2 (Array.getElem?_eq_some_iff.1 r5.out).1)); (try replace hp := Lib.hid (hp.out.mono q2)); (try replace hq := Lib.hid (hq.out.mono q2)); (try replace hG := Lib.hid (hG.out.mono q2)); (try replace x9 := Lib.hid (x9.out.mono q2)); (try replace x11 := Lib.hid (x11.out.mono q2)); replace hS := Lib.hid (hS.out.trans (Below.mono q2 hS.out.size)); clear q2) | (go_at_call 11; (with_reducible refine (hvo.out _ _ hp.out hG.out).mono ?_); rintro e w4 ⟨rfl, q2⟩; (try replace r3 := Lib.hid (rowB r3.out q2 (Array.getElem?_eq_some_iff.1 r3.out).1)); (try replace r5 := Lib.hid (rowB r5.out q2 (Array.getElem?_eq_some_iff.1 r5.out).1)); (try replace hp := Lib.hid (hp.out.mono q2)); (try replace hq := Lib.hid (hq.out.mono q2)); (try replace hG := Lib.hid (hG.out.mono q2)); (try replace x9 := Lib.hid (x9.out.mono q2)); (try replace x11 := Lib.hid (x11.out.mono q2)); replace hS := Lib.hid (hS.out.trans (Below.mono q2 hS.out.size)); clear q2) | (go_at_call 7; (with_reducible refine (alive6 _ hG.out).mono ?_); rintro e w4 ⟨rfl, q2⟩; (try replace r3 := Lib.hid (rowB r3.out q2 (Array.getElem?_eq_some_iff.1 r3.out).1)); (try replace r5 := Lib.hid (rowB r5.out q2 (Array.getElem?_eq_some_iff.1 r5.out).1)); (try replace hp := Lib.hid (hp.out.mono q2)); (try replace hq := Lib.hid (hq.out.mono q2)); (try replace hG := Lib.hid (hG.out.mono q2)); (try replace x9 := Lib.hid (x9.out.mono q2)); (try replace x11 := Lib.hid (x11.out.mono q2)); replace hS := Lib.hid (hS.out.trans (Below.mono q2 hS.out.size)); clear q2))
    go_ret
    exact ⟨rfl, hS.out⟩
  · rw [hc] at hft
    have h0 : chkO o = 0 := of_decide_eq_true hc
    have hmo := Lib.hid (fun (wz : World) (v : Value) (h : RdI wz v o.n o.F) => msg_ok o fo' v wz h (chk_bare h0) (msgB o) rfl)
    rw [show verO o = if rightB o.au (msgB o) o.s o.e then 0 else 22 from if_pos h0] at hvo
    have hkW := Lib.hid (fun (wz : World) (v : Value) (hv : RdB wz v (msgB o)) (hg : GlobW wz) => verify_any o.au (chk_in h0) o.s o.e fo'.s fo'.e v (msgB o) wz hv (msgB_bytes o fo' (chk_zero h0).1 (chk_zero h0).2.2) (Nat.le_trans (msgB_short o fo' (chk_zero h0).1 hlF' (chk_zero h0).2.2) (by decide)) hg)
    obtain ⟨NM, hNM⟩ : ∃ N, (msgB o).length = N := ⟨_, rfl⟩
    replace hNM := Lib.hid hNM
    generalize (if rightB o.au (msgB o) o.s o.e then (0 : Int) else 22) = R at *
    generalize msgB o = MB at *
    clear h0 hc hcv fo' hlF'
    go_upto_region 14 with (first | (refine wpList_load_row_g rfl 32 _ rfl w.heap.size rfl 32 (o.c (.slice pa o.n pc)) (0, 0) _ r3.out Tryd.underlying32 rfl info_op ?_) | (go_at_call 13; (with_reducible refine (hft.out _ _ hp.out).mono ?_); rintro e w4 ⟨rfl, q2⟩; (try replace r3 := Lib.hid (rowB r3.out q2 (Array.getElem?_eq_some_iff.1 r3.out).1)); (try replace r5 := Lib.hid (rowB r5.out q2 (Array.getElem?_eq_some_iff.1 r5.out).1)); (try replace hp := Lib.hid (hp.out.mono q2)); (try replace hq := Lib.hid (hq.out.mono q2)); (try replace hG := Lib.hid (hG.out.mono q2)); (try replace x9 := Lib.hid (x9.out.mono q2)); (try replace x11 := Lib.hid (x11.out.mono q2)); replace hS := Lib.hid (hS.out.trans (Below.mono q2 hS.out.size)); clear q2) | (go_at_call 10; (with_reducible refine (hmo.out _ _ hp.out).mono ?_); rintro e w4 ⟨sv, rfl, q1, q2⟩; (try replace r3 := Lib.hid (rowB r3.out q2 (Array.getElem?_eq_some_iff.1 r3.out).1)); (try replace r5 := Lib.hid (rowB r5.out q2 (Array.getElem?_eq_some_iff.1 r5.out).1)); (try replace hp := Lib.hid (hp.out.mono q2)); (try replace hq := Lib.hid (hq.out.mono q2)); (try replace hG := Lib.hid (hG.out.mono q2)); (try replace x9 := Lib.hid (x9.out.mono q2)); (try replace x11 := Lib.hid (x11.out.mono q2)); replace hS := Lib.hid (hS.out.trans (Below.mono q2 hS.out.size)); have x11 := Lib.hid q1; obtain ⟨ma, mc, hz4⟩ := x11.out.slice; rw [hNM.out] at hz4; subst hz4; clear q1 q2))
    have lt3 := Lib.hid (Array.getElem?_eq_some_iff.1 r3.out).1
    have k3 := Lib.hid (fun (w' : World) (h : Below w4.heap.size w4 w') => rowB r3.out h lt3.out)
    have kc := Lib.hid (fun (w' : World) (h : Below w4.heap.size w4 w') => (cellsO (rowB r3.out h lt3.out)).1)
    have ks := Lib.hid (fun (w' : World) (h : Below w4.heap.size w4 w') => (cellsO (rowB r3.out h lt3.out)).2.2.2.2.1)
    have kV := Lib.hid (fun (w' : World) (h : Below w4.heap.size w4 w') => hvo.out w' (.slice pa o.n pc) (hp.out.mono h) (hG.out.mono h))
    have kW := Lib.hid (fun (w' : World) (h : Below w4.heap.size w4 w') => hkW.out w' (.slice ma NM mc) (x11.out.mono h) (hG.out.mono h))
    have kL := Lib.hid (fun (w' : World) (h : Below w4.heap.size w4 w') => alive6 w' (hG.out.mono h))
    clear hvo hkW hft hmo hgr r3 r5 hp x11 hG
    refine wp_region_quiet (C := fun w' => Below w4.heap.size w4 w') (by kernel_rfl) (by kernel_rfl) ((Below.refl _ _).drew) ?_
    simp only []
    (go_big_quiet_want; go_big_quiet_op; first | go_big_quiet_on | (refine ⟨_, fun _ _ => rfl, ?_⟩; go_big_quiet_on))
    (go_big_quiet_want; go_big_quiet_op; first | go_big_quiet_on | (refine ⟨_, fun _ _ => rfl, ?_⟩; go_big_quiet_on))
    (go_big_quiet_want; go_big_quiet_op; first | go_big_quiet_on | (refine ⟨_, fun _ _ => rfl, ?_⟩; go_big_quiet_on))
    refine wpq (.agg (o.c (.slice pa o.n pc))) rfl (quiet_row 32 _ rfl (w.heap.size) rfl 32 (o.c (.slice pa o.n pc)) (0, 0) _ k3.out Tryd.underlying32 rfl info_op) rfl (fun K hK => ?_); go_simp; refine hK _ ?_; clear hK K
    refine wpq (.int .i64 R) rfl (qa_call1 (.agg (o.c (.slice pa o.n pc))) rfl Tryd.func11 (by kernel_rfl) rfl rfl rfl (fun w h => (kV.out w h).mono fun e w' ⟨he, hb⟩ => ⟨he, h.trans (hb.mono h.size)⟩)) rfl (fun K hK => ?_); go_simp; refine hK _ ?_; clear hK K
    (go_big_quiet_want; go_big_quiet_op; first | go_big_quiet_on | (refine ⟨_, fun _ _ => rfl, ?_⟩; go_big_quiet_on))
    refine wpq (.int .u32 (o.au : Int)) rfl (quiet_cell 22 _ rfl w.heap.size 0 rfl (.int .u32 (o.au : Int)) kc.out Tryd.isAgg22) rfl (fun K hK => ?_); go_simp; refine hK _ ?_; clear hK K
    (go_big_quiet_want; go_big_quiet_op; first | go_big_quiet_on | (refine ⟨_, fun _ _ => rfl, ?_⟩; go_big_quiet_on))
    (go_big_quiet_want; go_big_quiet_op; first | go_big_quiet_on | (refine ⟨_, fun _ _ => rfl, ?_⟩; go_big_quiet_on))
    refine wpq (.agg #[.int .u32 (o.e : Int), .int .u32 (o.s : Int)]) rfl (quiet_mid 30 _ rfl w.heap.size 9 rfl [.int .u32 (o.e : Int), .int .u32 (o.s : Int)] _ ks.out Tryd.underlying30 rfl info_sig) rfl (fun K hK => ?_); go_simp; refine hK _ ?_; clear hK K
    refine wpq (.int .i64 R) rfl (qa_call3 (.int .u32 (o.au : Int)) (.slice ma NM mc) (.agg #[.int .u32 (o.e : Int), .int .u32 (o.s : Int)]) rfl Tryd.func12 (by kernel_rfl) rfl rfl rfl rfl rfl (fun w h => (kW.out w h).mono fun e w' ⟨he, hb⟩ => ⟨he, h.trans (hb.mono h.size)⟩)) rfl (fun K hK => ?_); go_simp; refine hK _ ?_; clear hK K
    (go_big_quiet_want; go_big_quiet_op; first | go_big_quiet_on | (refine ⟨_, fun _ _ => rfl, ?_⟩; go_big_quiet_on))
    (go_big_quiet_want; go_big_quiet_op; first | go_big_quiet_on | (refine ⟨_, fun _ _ => rfl, ?_⟩; go_big_quiet_on))
    (go_big_quiet_want; go_big_quiet_op; first | go_big_quiet_on | (refine ⟨_, fun _ _ => rfl, ?_⟩; go_big_quiet_on))
    refine wpq (.bool true) rfl (qa_call0 rfl Tryd.func7 (by kernel_rfl) rfl rfl (fun w h => (kL.out w h).mono fun e w' ⟨he, hb⟩ => ⟨he, h.trans (hb.mono h.size)⟩)) rfl (fun K hK => ?_); go_simp; refine hK _ ?_; clear hK K
    (go_big_quiet_want; go_big_quiet_op; first | go_big_quiet_on | (refine ⟨_, fun _ _ => rfl, ?_⟩; go_big_quiet_on))
    (go_big_quiet_want; go_big_quiet_op; first | go_big_quiet_on | (refine ⟨_, fun _ _ => rfl, ?_⟩; go_big_quiet_on))
    refine wpQuiet_nil ?_
    intro w9 h9
    have hB9 := Lib.hid (hS.out.trans (h9.mono hS.out.size))
    clear h9
    go_wp2
    go_ret
    exact ⟨rfl, hB9.out⟩
end Go.Proofs.YtegffpjhdodldaaDoor.wir.val
namespace Go.Proofs.YtegffpjhdodldaaDoor.wir.val
open Go.RowKit Go.YtegffpjhdodldaaDoor
set_option linter.unusedVariables false
theorem opSigned_law {Tg Tf : TypeId} (a : Nat) (o : Od) (fr : o.Raw) (pv : Value) (w : World) (hp : RdI w pv o.n o.F) (hG : GlQ Tg Tf w) :
    Calls Tryd.prog 3 #[.int .u32 (a : Int), .agg (o.c pv)] w fun e w' => e = .returned (.bool true) ∧ Below w.heap.size w w' := by
  have hGW : GlobW w := ⟨Tg, Tf, hG.1, hG.2⟩
  cases hg : greatB o
  · have fo := raw_fit fr hg
    by_cases h : 1 ≤ a ∧ a < 500000003
    · by_cases h0 : chkO (o.byA (grp.pw 4 a)).bare = 0
      · exact signed_ok a h o fo hg h0 pv w hp hGW
      · exact signed_bad a h o fo hg h0 pv w hp hGW
    · exact signed_arg a h o fo hg pv w hp hGW
  · exact signed_great a o hg pv w hp hGW
end Go.Proofs.YtegffpjhdodldaaDoor.wir.val

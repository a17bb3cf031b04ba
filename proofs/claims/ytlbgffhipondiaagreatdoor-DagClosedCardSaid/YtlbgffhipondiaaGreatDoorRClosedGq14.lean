/- Texts that the row stands on, part 14. -/
import Derived.Test.YtlbgffhipondiaaGreatDoorRClosedGq13
namespace Go.Proofs.YtlbgffhipondiaaGreatDoor.wir.val
open Go.RowKit Go.YtlbgffhipondiaaGreatDoor
set_option linter.unusedVariables false
def d15A : List (List Nat) := [[], [0], [0, 1], [0, 1, 2], [0, 1, 2], [0, 1, 2, 3, 4], [0, 1, 2, 3, 4, 5], [0, 1, 2, 3, 4, 5, 6], [0, 1, 2, 3, 4, 5, 6, 7], [0, 1, 2, 3, 4, 5, 6, 7, 8], [0, 1, 2, 3, 4, 5, 6, 7], [0, 1, 2, 3, 4, 5, 6, 7, 8, 9, 10], [0, 1, 2, 3, 4, 5, 6, 7, 8, 9, 10, 11], [0, 1, 2, 3, 4, 5, 6, 7, 8, 9, 10, 11, 12], [0, 1, 2, 3, 4, 5, 6, 7, 8, 9, 10, 11, 12, 13], [0, 1, 2, 3, 4, 5, 6, 7, 8, 9, 10, 11, 12, 13, 14], [0, 1, 2, 3, 4, 5, 6, 7, 8, 9, 10, 11, 12, 13, 14, 15], [0, 1, 2, 3, 4, 5, 6, 7, 8, 9, 10, 11, 12, 13, 14, 15, 16], [0, 1, 2, 3, 4, 5, 6, 7, 8, 9, 10, 11, 12, 13, 14], [0, 1, 2, 3, 4, 5, 6, 7, 8, 9, 10, 11, 12, 13, 14, 18], [0, 1, 2, 3, 4, 5, 6, 7, 8, 9, 10, 11, 12, 13, 14, 18, 19], [0, 1, 2, 3, 4, 5, 6, 7, 8, 9, 10, 11, 12, 13, 14, 15, 16, 17, 18, 19, 20], [0, 1, 2, 3, 4, 5, 6, 7, 8, 9, 10, 11, 12, 13, 14, 15, 16, 17, 18, 19, 20, 21], [0, 1, 2, 3, 4, 5, 6, 7, 8, 9, 10, 11, 12, 13, 14, 15, 16, 17, 18, 19, 20, 21, 22], [0, 1, 2, 3, 4, 5, 6, 7, 8, 9, 10, 11, 12, 13, 14, 15, 16, 17, 18, 19, 20, 21, 22, 23], [0, 1, 2, 3, 4, 5, 6, 7, 8, 9, 10, 11, 12, 13, 14, 15, 16, 17, 18, 19, 20, 21, 22, 23, 24], [0, 1, 2, 3, 4, 5, 6, 7, 8, 9, 10, 11, 12, 13, 14, 15, 16, 17, 18, 19, 20, 21, 22, 23, 24, 25]]
def d15K (gc : Array Value) (x : List Int) (iv ov : Value) (N p g5 : Nat) : Nat → FK
  | 0 => .eq (.int .i64 0)
  | 3 => .eq (.agg (u8s x))
  | 4 => .eq (.agg (u8s x))
  | 8 => .eq (.pointer (some ⟨g5, 0, none⟩))
  | 9 => .eq iv
  | 10 => .eq (.agg (u8s x))
  | 11 => .eq (.int .i64 (p : Int))
  | 15 => .eq (.agg gc)
  | 16 => .len N
  | 17 => .eq (.int .i64 (N : Int))
  | 18 => .eq (.pointer (some ⟨g5, 1, none⟩))
  | 19 => .eq ov
  | 20 => .eq (.int .i64 (N : Int))
  | _ => .eq (.bool true)
def noS : Nat → Option Nat := fun _ => none
set_option maxHeartbeats 32000000 in
set_option maxRecDepth 100000 in
theorem closed_law (F : List Int) (n : Nat) (L : List Od) (iv ov : Value) (o : Od) (pv : Value) (w : World) (hI : RdI w iv n F) (hF : Bytes F) (hO : RdO w ov L) (hraw : ∀ i, i < L.length → (nthO L i).Raw) (hor : o.Raw) (hp : RdI w pv o.n o.F) (hG0 : GlobW w) :
    Calls Tryz.prog 5 #[.agg (gC iv ov), .agg (o.c pv)] w fun e w' => e = .returned (.bool true) ∧ Below w.heap.size w w' := by
  obtain ⟨W, hW⟩ : ∃ W, W = (w.alloc (.cells (gC iv ov) 41)).alloc (.cells (o.c pv) 35) := ⟨_, rfl⟩
  have hS := Lib.hid (show Below w.heap.size w W by rw [hW]; exact (below_a w _).alloc (by simp) _)
  have r0 := Lib.hid (show W.heap[w.heap.size]? = some (.cells (gC iv ov) 41 (0, 0)) by rw [hW]; exact rowK (heap_alloc_new w _) (below_a _ _))
  have r1 := Lib.hid (show W.heap[w.heap.size + 1]? = some (.cells (o.c pv) 35 (0, 0)) by rw [hW]; exact hn2 w _ _)
  have hG := Lib.hid (hG0.mono hS.out)
  have xI := Lib.hid (hI.mono hS.out)
  have xO := Lib.hid (hO.mono hS.out)
  have xp := Lib.hid (hp.mono hS.out)
  have hft := Lib.hid (fun (wz : World) (h1 : RdI wz iv n F) (h2 : RdO wz ov L) => fit9_any F n L iv ov wz h1 hF h2 hraw)
  have hal := Lib.hid alive9
  have hraw' := Lib.hid hraw
  obtain ⟨ia, ic, rfl⟩ := hI.slice
  obtain ⟨oa, oc, rfl⟩ := hO.slice
  obtain ⟨pa, pc, rfl⟩ := hp.slice
  have hgo := Lib.hid (fun (wz : World) => great_any o pa pc wz)
  have hlF := Lib.hid hI.len
  have hF' := Lib.hid hF
  clear hI hO hp hG0 hraw hF
  obtain ⟨m, hm⟩ : ∃ m, m = L.length := ⟨_, rfl⟩
  have hm' := Lib.hid hm
  rw [← hm] at r0 hft xO hW ⊢
  clear hm
  go_enter Tryz.func5, Tryz.ntmps5
  go_upto_region 1 with fail
  rw [← hW]
  clear hW
  rcases hgr : greatB o with _ | _
  rotate_left
  · rw [hgr] at hgo
    go_wp2_with (first
      | (refine wpList_load_row_g rfl 41 _ rfl w.heap.size rfl 41 (gC (.slice ia n ic) (.slice oa m oc)) (0, 0) _ r0.out Tryz.underlying41 rfl info_g ?_)
      | (refine wpList_load_row_g rfl 35 _ rfl (w.heap.size + 1) rfl 35 (o.c (.slice pa o.n pc)) (0, 0) _ r1.out Tryz.underlying35 rfl info_op ?_)
      | (go_at_call 35; (with_reducible refine (hft.out _ xI.out xO.out).mono ?_); rintro e9 w4 ⟨⟨gb, rfl, hfi⟩, q2⟩; have hfi := Lib.hid hfi; (try replace r0 := Lib.hid (rowB r0.out q2 (Array.getElem?_eq_some_iff.1 r0.out).1)); (try replace r1 := Lib.hid (rowB r1.out q2 (Array.getElem?_eq_some_iff.1 r1.out).1)); (try replace hG := Lib.hid (hG.out.mono q2)); (try replace xI := Lib.hid (xI.out.mono q2)); (try replace xO := Lib.hid (xO.out.mono q2)); (try replace xp := Lib.hid (xp.out.mono q2)); replace hS := Lib.hid (hS.out.trans (Below.mono q2 hS.out.size)); clear q2; rcases gb with _ | _)
      | (go_at_call 29; (with_reducible refine (hgo.out _).mono ?_); rintro e9 w4 ⟨rfl, q2⟩; (try replace r0 := Lib.hid (rowB r0.out q2 (Array.getElem?_eq_some_iff.1 r0.out).1)); (try replace r1 := Lib.hid (rowB r1.out q2 (Array.getElem?_eq_some_iff.1 r1.out).1)); (try replace hG := Lib.hid (hG.out.mono q2)); (try replace xI := Lib.hid (xI.out.mono q2)); (try replace xO := Lib.hid (xO.out.mono q2)); (try replace xp := Lib.hid (xp.out.mono q2)); replace hS := Lib.hid (hS.out.trans (Below.mono q2 hS.out.size)); clear q2)
      | (go_at_call 27; (with_reducible refine (hal.out _ hG.out).mono ?_); rintro e9 w4 ⟨rfl, q2⟩; (try replace r0 := Lib.hid (rowB r0.out q2 (Array.getElem?_eq_some_iff.1 r0.out).1)); (try replace r1 := Lib.hid (rowB r1.out q2 (Array.getElem?_eq_some_iff.1 r1.out).1)); (try replace hG := Lib.hid (hG.out.mono q2)); (try replace xI := Lib.hid (xI.out.mono q2)); (try replace xO := Lib.hid (xO.out.mono q2)); (try replace xp := Lib.hid (xp.out.mono q2)); replace hS := Lib.hid (hS.out.trans (Below.mono q2 hS.out.size)); clear q2))
    all_goals (go_ret; exact ⟨rfl, hS.out⟩)
  rw [hgr] at hgo
  go_upto_region 3 with (first
    | (refine wpList_load_row_g rfl 41 _ rfl w.heap.size rfl 41 (gC (.slice ia n ic) (.slice oa m oc)) (0, 0) _ r0.out Tryz.underlying41 rfl info_g ?_)
    | (refine wpList_load_row_g rfl 35 _ rfl (w.heap.size + 1) rfl 35 (o.c (.slice pa o.n pc)) (0, 0) _ r1.out Tryz.underlying35 rfl info_op ?_)
    | (go_at_call 35; (with_reducible refine (hft.out _ xI.out xO.out).mono ?_); rintro e9 w4 ⟨⟨gb, rfl, hfi⟩, q2⟩; have hfi := Lib.hid hfi; (try replace r0 := Lib.hid (rowB r0.out q2 (Array.getElem?_eq_some_iff.1 r0.out).1)); (try replace r1 := Lib.hid (rowB r1.out q2 (Array.getElem?_eq_some_iff.1 r1.out).1)); (try replace hG := Lib.hid (hG.out.mono q2)); (try replace xI := Lib.hid (xI.out.mono q2)); (try replace xO := Lib.hid (xO.out.mono q2)); (try replace xp := Lib.hid (xp.out.mono q2)); replace hS := Lib.hid (hS.out.trans (Below.mono q2 hS.out.size)); clear q2; rcases gb with _ | _)
    | (go_at_call 29; (with_reducible refine (hgo.out _).mono ?_); rintro e9 w4 ⟨rfl, q2⟩; (try replace r0 := Lib.hid (rowB r0.out q2 (Array.getElem?_eq_some_iff.1 r0.out).1)); (try replace r1 := Lib.hid (rowB r1.out q2 (Array.getElem?_eq_some_iff.1 r1.out).1)); (try replace hG := Lib.hid (hG.out.mono q2)); (try replace xI := Lib.hid (xI.out.mono q2)); (try replace xO := Lib.hid (xO.out.mono q2)); (try replace xp := Lib.hid (xp.out.mono q2)); replace hS := Lib.hid (hS.out.trans (Below.mono q2 hS.out.size)); clear q2)
    | (go_at_call 27; (with_reducible refine (hal.out _ hG.out).mono ?_); rintro e9 w4 ⟨rfl, q2⟩; (try replace r0 := Lib.hid (rowB r0.out q2 (Array.getElem?_eq_some_iff.1 r0.out).1)); (try replace r1 := Lib.hid (rowB r1.out q2 (Array.getElem?_eq_some_iff.1 r1.out).1)); (try replace hG := Lib.hid (hG.out.mono q2)); (try replace xI := Lib.hid (xI.out.mono q2)); (try replace xO := Lib.hid (xO.out.mono q2)); (try replace xp := Lib.hid (xp.out.mono q2)); replace hS := Lib.hid (hS.out.trans (Below.mono q2 hS.out.size)); clear q2))
  · go_ret; exact ⟨rfl, hS.out⟩
  obtain ⟨hsm, hc⟩ := hfi.out ⟨⟩
  have hn : n = m := (chk_len hc).trans hm'.out.symm
  subst hn
  have hfo := raw_fit hor hgr
  have hon := small_n hgr
  have hfit := Lib.hid (fun i (hi : i < L.length) => raw_fit (hraw'.out i hi) (hsm.1 i hi))
  have hsm20 := Lib.hid (fun i (hi : i < L.length) => small_n (hsm.1 i hi))
  have hn70 : n ≤ 70 := hsm.2.2.2
  have hl70 := hsm.2.2.1
  have hc' := Lib.hid hc
  have hlx := Lib.hid (shaF_length (encO o))
  have iz := Lib.hid (show (Tryz.prog.info? 24).map (·.size) = some (u8s (zerosB 32)).size by kernel_rfl)
  have szz := Lib.hid (show (32 : Nat) = (u8s (zerosB 32)).size by rw [u8s_size, zerosB_length])
  by_cases hE : addE F n L o 0 = 0
  rotate_left
  · have had := Lib.hid (fun (wz : World) h1 h2 h3 h4 => dagAdd_no F n L (.slice ia n ic) (.slice oa n oc) (.slice pa o.n pc) o 0 (addE F n L o 0) wz h1 hF'.out h2 (by omega) (by omega) hfit.out hsm20.out h3 hc'.out hfo hon h4 rfl hE)
    have hE' := Lib.hid hE
    clear hsm hc hfo hon hfit hsm20 hfi hft hgo hraw' hF' hlF hc' hE hm' hl70 hgr hor
    generalize addE F n L o 0 = c at *
    have hcb := (show (c != 0) = true by simpa using hE'.out)
    go_upto_region 5 with (first
      | (refine wpList_load_row_g rfl 41 _ rfl w.heap.size rfl 41 (gC (.slice ia n ic) (.slice oa n oc)) (0, 0) _ r0.out Tryz.underlying41 rfl info_g ?_)
      | (refine wpList_load_row_g rfl 35 _ rfl (w.heap.size + 1) rfl 35 (o.c (.slice pa o.n pc)) (0, 0) _ r1.out Tryz.underlying35 rfl info_op ?_)
      | (go_at_call 18; (with_reducible refine (had.out _ xI.out xO.out hG.out xp.out).mono ?_); rintro e9 w4 ⟨rfl, q2⟩; (try replace r0 := Lib.hid (rowB r0.out q2 (Array.getElem?_eq_some_iff.1 r0.out).1)); (try replace r1 := Lib.hid (rowB r1.out q2 (Array.getElem?_eq_some_iff.1 r1.out).1)); (try replace hG := Lib.hid (hG.out.mono q2)); (try replace xI := Lib.hid (xI.out.mono q2)); (try replace xO := Lib.hid (xO.out.mono q2)); (try replace xp := Lib.hid (xp.out.mono q2)); replace hS := Lib.hid (hS.out.trans (Below.mono q2 hS.out.size)); clear q2)
      | (refine wpList_store_row rfl 41 _ _ rfl w4.heap.size (gC (.slice none 0 0) (.slice none 0 0)) rfl rfl 41 _ (rowA w4 _ _) info_g rfl (gC_one _ _ _ _ _ _) ?_)
      | (refine storeOver _ (w4.heap.size + 1) _ rfl 24 _ _ rfl (u8s (zerosB 32)) 24 ((setRow_other _ w4.heap.size (w4.heap.size + 1) _ (by omega)).trans (hn2 w4 _ _)) rfl rfl iz.out (szz.out) (u8s_one _) ?_; intro wx hrx hbx0; have hbx := Lib.hid (show Below w4.heap.size w4 wx from (below_setRow' ((below_a w4 _).alloc (by simp) _) (Nat.le_refl _) _).trans (hbx0.mono (Nat.le_succ _))); (try replace r0 := Lib.hid (rowB r0.out hbx.out (Array.getElem?_eq_some_iff.1 r0.out).1)); (try replace r1 := Lib.hid (rowB r1.out hbx.out (Array.getElem?_eq_some_iff.1 r1.out).1)); (try replace hG := Lib.hid (hG.out.mono hbx.out)); (try replace xI := Lib.hid (xI.out.mono hbx.out)); (try replace xO := Lib.hid (xO.out.mono hbx.out)); (try replace xp := Lib.hid (xp.out.mono hbx.out)); replace hS := Lib.hid (hS.out.trans (Below.mono hbx.out hS.out.size)); have rH := Lib.hid ((hbx0.block w4.heap.size (Nat.lt_succ_self _)).trans (setRow_heap _ _ _ (gC (.slice none 0 0) (.slice none 0 0)) _ _ (rowA w4 _ _))); have rX := Lib.hid hrx; clear hrx hbx0 hbx))
    go_wp2_with (first
      | (refine loadC 26 _ rfl w4.heap.size 0 rfl rfl (gC (.slice none 0 0) (.slice none 0 0)) _ _ rH.out (.slice none 0 0) rfl Tryz.isAgg26 ?_)
      | (go_at_call 27; (with_reducible refine (hal.out _ hG.out).mono ?_); rintro e9 w4 ⟨rfl, q2⟩; (try replace r0 := Lib.hid (rowB r0.out q2 (Array.getElem?_eq_some_iff.1 r0.out).1)); (try replace r1 := Lib.hid (rowB r1.out q2 (Array.getElem?_eq_some_iff.1 r1.out).1)); (try replace rH := Lib.hid (rowB rH.out q2 (Array.getElem?_eq_some_iff.1 rH.out).1)); (try replace hG := Lib.hid (hG.out.mono q2)); replace hS := Lib.hid (hS.out.trans (Below.mono q2 hS.out.size)); clear q2))
    go_ret
    exact ⟨rfl, hS.out⟩
  obtain ⟨hv, hmem, hall, h60⟩ : verO o = 0 ∧ memF F n (shaF (encO o)) = false ∧ allF F n o.F o.n = true ∧ L.length ≠ 60 := by
    unfold addE at hE
    rw [if_neg (by omega)] at hE
    by_cases h1 : verO o = 0
    · rw [if_neg (by rw [h1]; omega)] at hE
      cases h2 : memF F n (shaF (encO o)) with
      | true => rw [h2, if_pos rfl] at hE; omega
      | false =>
        rw [h2, if_neg (by decide)] at hE
        cases h3 : allF F n o.F o.n with
        | false => rw [h3, if_pos rfl] at hE; omega
        | true =>
          rw [h3, if_neg (by decide)] at hE
          by_cases h4 : L.length = 60
          · rw [if_pos h4] at hE; omega
          · exact ⟨h1, rfl, rfl, h4⟩
    · rw [if_pos h1] at hE; exact absurd hE h1
  have hnL : n = L.length := chk_len hc
  obtain ⟨k1, k2, k3, k4, k5⟩ := chkG_zero hc
  obtain ⟨p, hP⟩ := place_ex (x := shaF (encO o)) k3
  have hlt60 : L.length < 60 := by omega
  have hcx := chk_ins hlF.out hc hv hP hmem hall hlt60
  have had := Lib.hid (fun (wz : World) h1 h2 h3 h4 => dagAdd_ok F n L (.slice ia n ic) (.slice oa n oc) (.slice pa o.n pc) o p wz h1 hF'.out h2 (by omega) hfit.out hsm20.out h3 hc'.out hfo hon h4 hv (shaF (encO o)) rfl hmem hall hlt60 hP)
  have hid := Lib.hid (fun (wz : World) (h3 : GlobW wz) (h4 : RdI wz (.slice pa o.n pc) o.n o.F) => (show Calls Tryz.prog 16 #[.agg (o.c (.slice pa o.n pc))] wz fun e w' => e = .returned (.tuple #[.agg (u8s (shaF (encO o))), .int .i64 0]) ∧ Below wz.heap.size wz w' from by
    obtain ⟨Tg, Tf, z1, z2⟩ := h3
    exact opID_ok o hfo (.slice pa o.n pc) wz h4 (ver_chk hv) z1 z2))
  have hpl := hP.le
  have hfit' := Lib.hid (ins_at Od.Fit L o p (by omega) hfit.out hfo)
  have hsm' := Lib.hid (ins_at (fun o => o.n ≤ 20) L o p (by omega) hsm20.out hon)
  have hbF := Lib.hid (ins_bytes (p := p) hF'.out (shaF_bytes (encO o)))
  have hlF' := Lib.hid (insF_length (p := p) hlF.out (by omega) hlx.out)
  have hlL := Lib.hid (insL_length L p o (by omega))
  obtain ⟨N, hN⟩ : ∃ N, N = n + 1 := ⟨_, rfl⟩
  have hN' := Lib.hid hN
  have hw1 : IntKind.i64.wrap ((n : Int) + 1) = (N : Int) := by rw [IntWalk.i64_in _ (by omega)]; omega
  rw [← hN] at had hcx hlF'
  have hcx' := Lib.hid hcx
  have hat := Lib.hid (fun j (hj : j < N) => (show (j = p ∧ nthO (insL L p o) j = o ∧ idF (insF F p (shaF (encO o))) j = shaF (encO o)) ∨ (∃ k, k < n ∧ nthO (insL L p o) j = nthO L k ∧ idF (insF F p (shaF (encO o))) j = idF F k ∧ idF F k ≠ shaF (encO o)) from by
    rcases sh_cases p j n hpl (by omega) with rfl | ⟨k, hk, rfl⟩
    · exact .inl ⟨rfl, nthO_ins_at L j o (by omega), idF_ins_at hlF.out hpl hlx.out⟩
    · refine .inr ⟨k, hk, nthO_sh L p o (by omega) k, idF_sh hlF.out hpl hlx.out k, fun e => ?_⟩
      rw [mem_iff.2 ⟨k, hk, e⟩] at hmem
      cases hmem))
  have hAt0 := Lib.hid (fun (wz : World) (h : RdI wz (.slice ia n ic) n F) => (show Calls Tryz.prog 37 #[.slice ia n ic, .agg (u8s (shaF (encO o)))] wz fun e w' => e = .returned (.int .i64 (-1)) ∧ Below wz.heap.size wz w' from by
    refine (rAt_any F n (.slice ia n ic) (shaF (encO o)) wz h (by omega) hlx.out).mono ?_
    rintro e w' ⟨r, h1, h2, h3⟩
    rw [atIs_neg h1 hmem] at h2
    exact ⟨h2, h3⟩))
  have hAtk := Lib.hid (fun k (hk : k < n) (wz : World) (h : RdI wz (.slice ia n ic) n F) => rAt_pos F n (.slice ia n ic) (idF F k) k wz h (by omega) (by rw [idF, List.length_take, List.length_drop, hlF.out]; omega) k3 hk rfl)
  obtain ⟨j1, j2, j3, j4, j5⟩ := chkG_zero hcx
  have hcl := Lib.hid (fun j (hj : j < N) => clos_iff.1 j4 j (by have := hlL.out; have := hm'.out; omega))
  have hj5 := Lib.hid j5
  have hxin := Lib.hid (show memF (insF F p (shaF (encO o))) N (shaF (encO o)) = true from mem_iff.2 ⟨p, by omega, idF_ins_at hlF.out hpl hlx.out⟩)
  have hpx := Lib.hid (And.intro (idF_ins_at hlF.out hpl hlx.out) (show p < N by omega))
  have hj3 := Lib.hid j3
  have hlN := Lib.hid (show (insL L p o).length = N by have := hlL.out; have := hm'.out; omega)
  obtain ⟨L1, hLe⟩ : ∃ X, X = insL L p o := ⟨_, rfl⟩
  obtain ⟨F1, hFe⟩ : ∃ X, X = insF F p (shaF (encO o)) := ⟨_, rfl⟩
  rw [← hLe] at hfit' hsm' had hcx' hat hcl hj5 hlN
  rw [← hFe] at hbF hlF' had hcx' hat hcl hj5 hxin hj3 hpx
  have hN70 : N ≤ 71 := by omega
  have hlF'' := Lib.hid hlF.out
  have hnL' := Lib.hid hnL.symm
  clear hN hfo hon hlF hnL hLe hFe hcx j1 j2 j3 j4 j5 k1 k2 k3 k4 k5 hP hpl hE hsm hc hfit hsm20 hfi hft hgo hraw' hF' hc' hgr hor hlL hlt60 hl70 hm' hv hmem hall h60
  generalize shaF (encO o) = x at *
  have ix := Lib.hid (show (Tryz.prog.info? 24).map (·.size) = some (u8s x).size by rw [u8s_size, hlx.out]; kernel_rfl)
  have sx := Lib.hid (show (32 : Nat) = (u8s x).size by rw [u8s_size, hlx.out])
  go_upto_region 6 with (first
    | (refine wpList_load_row_g rfl 41 _ rfl w.heap.size rfl 41 (gC (.slice ia n ic) (.slice oa n oc)) (0, 0) _ r0.out Tryz.underlying41 rfl info_g ?_)
    | (refine wpList_load_row_g rfl 35 _ rfl (w.heap.size + 1) rfl 35 (o.c (.slice pa o.n pc)) (0, 0) _ r1.out Tryz.underlying35 rfl info_op ?_)
    | (go_at_call 18; (with_reducible refine (had.out _ xI.out xO.out hG.out xp.out).mono ?_); rintro e9 w4 ⟨ja, jc, qa, qc, rfl, z1, q2⟩; (try replace r0 := Lib.hid (rowB r0.out q2 (Array.getElem?_eq_some_iff.1 r0.out).1)); (try replace r1 := Lib.hid (rowB r1.out q2 (Array.getElem?_eq_some_iff.1 r1.out).1)); (try replace hG := Lib.hid (hG.out.mono q2)); (try replace xI := Lib.hid (xI.out.mono q2)); (try replace xO := Lib.hid (xO.out.mono q2)); (try replace xp := Lib.hid (xp.out.mono q2)); (try replace xH := Lib.hid (xH.out.mono q2)); replace hS := Lib.hid (hS.out.trans (Below.mono q2 hS.out.size)); have xH := Lib.hid z1.now; clear z1; clear q2)
    | (refine wpList_store_row rfl 41 _ _ rfl w4.heap.size (gC (.slice ja N jc) (.slice qa N qc)) rfl rfl 41 _ (rowA w4 _ _) info_g rfl (gC_one _ _ _ _ _ _) ?_)
    | (refine storeOver _ (w4.heap.size + 1) _ rfl 24 _ _ rfl (u8s x) 24 ((setRow_other _ w4.heap.size (w4.heap.size + 1) _ (by omega)).trans (hn2 w4 _ _)) rfl rfl ix.out (sx.out) (u8s_one _) ?_; intro wx hrx hbx0; have hbx := Lib.hid (show Below w4.heap.size w4 wx from (below_setRow' ((below_a w4 _).alloc (by simp) _) (Nat.le_refl _) _).trans (hbx0.mono (Nat.le_succ _))); (try replace r0 := Lib.hid (rowB r0.out hbx.out (Array.getElem?_eq_some_iff.1 r0.out).1)); (try replace r1 := Lib.hid (rowB r1.out hbx.out (Array.getElem?_eq_some_iff.1 r1.out).1)); (try replace hG := Lib.hid (hG.out.mono hbx.out)); (try replace xI := Lib.hid (xI.out.mono hbx.out)); (try replace xO := Lib.hid (xO.out.mono hbx.out)); (try replace xp := Lib.hid (xp.out.mono hbx.out)); (try replace xH := Lib.hid (xH.out.mono hbx.out)); replace hS := Lib.hid (hS.out.trans (Below.mono hbx.out hS.out.size)); have rH := Lib.hid ((hbx0.block w4.heap.size (Nat.lt_succ_self _)).trans (setRow_heap _ _ _ (gC (.slice ja N jc) (.slice qa N qc)) _ _ (rowA w4 _ _))); have rX := Lib.hid hrx; clear hrx hbx0 hbx))
  obtain ⟨g5, hg5⟩ : ∃ g, g = w4.heap.size := ⟨_, rfl⟩
  rw [← hg5] at rH rX ⊢
  clear hg5 had
  have hri := Lib.hid (fun (wz : World) (h : GrW ja qa N jc qc F1 L1 wz) => (show Calls Tryz.prog 36 #[.slice ja N jc] wz fun e w' => e = .returned (.bool true) ∧ Below wz.heap.size wz w' from by
    have k := rising_any F1 N (.slice ja N jc) wz h.1 hbF.out (by omega)
    rw [hj3.out] at k
    exact k))
  have hck := Lib.hid (fun (wz : World) (h : GrW ja qa N jc qc F1 L1 wz) (h2 : GlobW wz) => dagCheck_any F1 N L1 (.slice ja N jc) (.slice qa N qc) 0 wz h.1 hbF.out h.2 (by omega) (by have := hlN.out; omega) hfit'.out h2 hcx'.out)
  go_upto_region 8 with (first
    | (refine loadC 26 _ rfl g5 0 rfl rfl (gC (.slice ja N jc) (.slice qa N qc)) _ _ rH.out (.slice ja N jc) rfl Tryz.isAgg26 ?_)
    | (refine loadC 22 _ rfl g5 1 rfl rfl (gC (.slice ja N jc) (.slice qa N qc)) _ _ rH.out (.slice qa N qc) rfl Tryz.isAgg22 ?_)
    | (refine loadC 26 _ rfl w.heap.size 0 rfl rfl (gC (.slice ia n ic) (.slice oa n oc)) _ _ r0.out (.slice ia n ic) rfl Tryz.isAgg26 ?_)
    | (refine wpList_load_row_g rfl 41 _ rfl g5 rfl 41 (gC (.slice ja N jc) (.slice qa N qc)) (0, 0) _ rH.out Tryz.underlying41 rfl info_g ?_)
    | (go_at_call 36; (with_reducible refine (hri.out _ xH.out).mono ?_); rintro e9 w4 ⟨rfl, q2⟩; (try replace r0 := Lib.hid (rowB r0.out q2 (Array.getElem?_eq_some_iff.1 r0.out).1)); (try replace r1 := Lib.hid (rowB r1.out q2 (Array.getElem?_eq_some_iff.1 r1.out).1)); (try replace rH := Lib.hid (rowB rH.out q2 (Array.getElem?_eq_some_iff.1 rH.out).1)); (try replace rX := Lib.hid (rowB rX.out q2 (Array.getElem?_eq_some_iff.1 rX.out).1)); (try replace hG := Lib.hid (hG.out.mono q2)); (try replace xI := Lib.hid (xI.out.mono q2)); (try replace xO := Lib.hid (xO.out.mono q2)); (try replace xp := Lib.hid (xp.out.mono q2)); (try replace xH := Lib.hid (xH.out.mono q2)); replace hS := Lib.hid (hS.out.trans (Below.mono q2 hS.out.size)); clear q2)
    | (go_at_call 24; (with_reducible refine (hck.out _ xH.out hG.out).mono ?_); rintro e9 w4 ⟨rfl, q2⟩; (try replace r0 := Lib.hid (rowB r0.out q2 (Array.getElem?_eq_some_iff.1 r0.out).1)); (try replace r1 := Lib.hid (rowB r1.out q2 (Array.getElem?_eq_some_iff.1 r1.out).1)); (try replace rH := Lib.hid (rowB rH.out q2 (Array.getElem?_eq_some_iff.1 rH.out).1)); (try replace rX := Lib.hid (rowB rX.out q2 (Array.getElem?_eq_some_iff.1 rX.out).1)); (try replace hG := Lib.hid (hG.out.mono q2)); (try replace xI := Lib.hid (xI.out.mono q2)); (try replace xO := Lib.hid (xO.out.mono q2)); (try replace xp := Lib.hid (xp.out.mono q2)); (try replace xH := Lib.hid (xH.out.mono q2)); replace hS := Lib.hid (hS.out.trans (Below.mono q2 hS.out.size)); clear q2))
  go_upto_region 9 with fail
  clear hri hck hw1
  go_loopw [8] (fun i wr => ∃ j : Nat, j ≤ N ∧ i = .int .i64 (j : Int) ∧ Below w4.heap.size w4 wr) (fun i _ => N - (intOf i).toNat)
  case atStart => exact ⟨0, Nat.zero_le _, rfl, Below.refl _ _⟩
  case round =>
    obtain ⟨j, hj, rfl, hb0⟩ := hrel
    have hb := Lib.hid hb0
    replace r0 := Lib.hid (rowK r0.out hb0); replace r1 := Lib.hid (rowK r1.out hb0); replace rH := Lib.hid (rowK rH.out hb0); replace rX := Lib.hid (rowK rX.out hb0)
    replace hG := Lib.hid (hG.out.mono hb0); replace xI := Lib.hid (xI.out.mono hb0); replace xO := Lib.hid (xO.out.mono hb0); replace xp := Lib.hid (xp.out.mono hb0); replace xH := Lib.hid (xH.out.mono hb0)
    replace hS := Lib.hid (hS.out.trans (hb0.mono hS.out.size))
    clear hb0
    by_cases hlt : j < N
    rotate_left
    · have hjN : j = N := by omega
      subst hjN
      clear hlt hat hcl hAtk hAt0 hj
      have hAtp := Lib.hid (fun (wz : World) (h : GrW ja qa j jc qc F1 L1 wz) => rAt_pos F1 j (.slice ja j jc) x p wz h.1 (by omega) hlx.out hj3.out hpx.out.2 hpx.out.1)
      have hOr := Lib.hid (fun (wz : World) (h : GrW ja qa j jc qc F1 L1 wz) => (show Calls Tryz.prog 40 #[.agg (gC (.slice ja j jc) (.slice qa j qc))] wz fun e w' => ∃ a c, e = .returned (.slice a j c) ∧ Below wz.heap.size wz w' from by
        refine (rOrder_any F1 j L1 (.slice ja j jc) (.slice qa j qc) wz h.1 h.2 hlN.out (by omega) (fun i hi => by have := hsm'.out i (by have := hlN.out; omega); omega)).mono ?_
        rintro e w' ⟨v, l, h1, h2, h3, h4, h5, h6⟩
        obtain ⟨a, c, rfl⟩ := h2.slice
        rw [h4.2 hj5.out] at h1
        exact ⟨a, c, h1, h6⟩))
      have hpI : (0 : Int) ≤ (p : Int) := by omega
      have hjj : ¬ (j : Int) < (j : Int) := by omega
      have djj := decide_eq_false hjj
      clear hsm' hlN hj5 hj3 hpx hfit' hbF
      go_upto_region 15 with (first
        | (refine loadC 26 _ rfl g5 0 rfl rfl (gC (.slice ja j jc) (.slice qa j qc)) _ _ rH.out (.slice ja j jc) rfl Tryz.isAgg26 ?_)
        | (refine wpList_load_row_g rfl 35 _ rfl (w.heap.size + 1) rfl 35 (o.c (.slice pa o.n pc)) (0, 0) _ r1.out Tryz.underlying35 rfl info_op ?_)
        | (go_at_call 16; (with_reducible refine (hid.out _ hG.out xp.out).mono ?_); rintro e9 w4 ⟨rfl, q2⟩; (try replace r0 := Lib.hid (rowB r0.out q2 (Array.getElem?_eq_some_iff.1 r0.out).1)); (try replace r1 := Lib.hid (rowB r1.out q2 (Array.getElem?_eq_some_iff.1 r1.out).1)); (try replace rH := Lib.hid (rowB rH.out q2 (Array.getElem?_eq_some_iff.1 rH.out).1)); (try replace rX := Lib.hid (rowB rX.out q2 (Array.getElem?_eq_some_iff.1 rX.out).1)); (try replace rD := Lib.hid (rowB rD.out q2 (Array.getElem?_eq_some_iff.1 rD.out).1)); (try replace hG := Lib.hid (hG.out.mono q2)); (try replace xI := Lib.hid (xI.out.mono q2)); (try replace xO := Lib.hid (xO.out.mono q2)); (try replace xp := Lib.hid (xp.out.mono q2)); (try replace xH := Lib.hid (xH.out.mono q2)); replace hS := Lib.hid (hS.out.trans (Below.mono q2 hS.out.size)); clear q2)
        | (refine storeNew _ rfl 24 _ _ rfl (u8s x) 24 rfl rfl ix.out sx.out (u8s_one _) ?_; intro wx hrx hbx; (try replace r0 := Lib.hid (rowB r0.out hbx (Array.getElem?_eq_some_iff.1 r0.out).1)); (try replace r1 := Lib.hid (rowB r1.out hbx (Array.getElem?_eq_some_iff.1 r1.out).1)); (try replace rH := Lib.hid (rowB rH.out hbx (Array.getElem?_eq_some_iff.1 rH.out).1)); (try replace rX := Lib.hid (rowB rX.out hbx (Array.getElem?_eq_some_iff.1 rX.out).1)); (try replace rD := Lib.hid (rowB rD.out hbx (Array.getElem?_eq_some_iff.1 rD.out).1)); (try replace hG := Lib.hid (hG.out.mono hbx)); (try replace xI := Lib.hid (xI.out.mono hbx)); (try replace xO := Lib.hid (xO.out.mono hbx)); (try replace xp := Lib.hid (xp.out.mono hbx)); (try replace xH := Lib.hid (xH.out.mono hbx)); replace hS := Lib.hid (hS.out.trans (Below.mono hbx hS.out.size)); have rD := Lib.hid hrx; clear hrx hbx))
      obtain ⟨GD, hgD⟩ : ∃ g, g = w4.heap.size := ⟨_, rfl⟩
      rw [← hgD] at rD ⊢
      clear hgD
      refine wp_region_fgk 26 d15A d15A [25] noS (d15K (gC (.slice ja j jc) (.slice qa j qc)) x (.slice ja j jc) (.slice qa j qc) j p g5) (by kernel_rfl) (by kernel_rfl) (by kernel_rfl) (by kernel_rfl) ?hstep ?hdone
      case hstep =>
        intro i op vs iv wz hi hop hinv hsp hd
        match i, hi with
        | 0, _ =>
          simp only [List.getElem?_toArray, List.getElem?_cons_zero, List.getElem?_cons_succ, Option.some.injEq] at hop
          subst hop
          generalize hfr : fxF _ vs fxT _ 0 = fr
          have e0 : fr.eval (.tmp 11) = .int .i64 0 := by rw [← hfr]; exact fx_old 0 (by kernel_rfl)
          clear hfr
          have ec : ∀ v, fr.eval (.const v) = v := fun _ => rfl
          refine fx_val (v := .int .i64 0) (w' := wz) rfl ?_ ⟨Nat.le_refl _, rfl, Below.refl _ _⟩
          skip
          unfold execOp
          generalize fr.eval = ev at ec e0 ⊢
          simp [go_sem, ec, e0]
        | 1, _ =>
          simp only [List.getElem?_toArray, List.getElem?_cons_zero, List.getElem?_cons_succ, Option.some.injEq] at hop
          subst hop
          generalize hfr : fxF _ vs fxT _ 1 = fr
          have h0 : vs 0 = .int .i64 0 := hd 0 (by decide)
          have e0 : fr.eval (.tmp 144) = .int .i64 0 := by rw [← hfr]; exact (fx_new (by simp) 1 (by kernel_rfl)).trans h0
          clear hfr
          have ec : ∀ v, fr.eval (.const v) = v := fun _ => rfl
          refine fx_val (v := .bool true) (w' := wz) rfl ?_ ⟨Nat.le_refl _, rfl, Below.refl _ _⟩
          skip
          unfold execOp
          generalize fr.eval = ev at ec e0 ⊢
          simp [go_sem, ec, e0]
        | 2, _ =>
          simp only [List.getElem?_toArray, List.getElem?_cons_zero, List.getElem?_cons_succ, Option.some.injEq] at hop
          subst hop
          generalize hfr : fxF _ vs fxT _ 2 = fr
          have h0 : vs 1 = .bool true := hd 1 (by decide)
          have e0 : fr.eval (.tmp 145) = .bool true := by rw [← hfr]; exact (fx_new (by simp) 2 (by kernel_rfl)).trans h0
          clear hfr
          have ec : ∀ v, fr.eval (.const v) = v := fun _ => rfl
          refine fx_val (v := .bool true) (w' := wz) rfl ?_ ⟨Nat.le_refl _, rfl, Below.refl _ _⟩
          skip
          unfold execOp
          generalize fr.eval = ev at ec e0 ⊢
          simp [go_sem, ec, e0]
        | 3, _ =>
          simp only [List.getElem?_toArray, List.getElem?_cons_zero, List.getElem?_cons_succ, Option.some.injEq] at hop
          subst hop
          generalize hfr : fxF _ vs fxT _ 3 = fr
          have e1 : fr.eval (.tmp 10) = .pointer (some ⟨GD, 0, none⟩) := by rw [← hfr]; exact fx_old 3 (by kernel_rfl)
          have hg : vs 2 = .bool true := hd 2 (by decide)
          have eg : fr.eval (.tmp 146) = .bool true := by rw [← hfr]; exact (fx_new (by simp) 3 (by kernel_rfl)).trans hg
          clear hfr
          exact fx_rowK 24 (.tmp 10) (fx_wantedK (k := 2) (t := 146) (b := true) rfl (by kernel_rfl) eg) rfl GD e1 (u8s x) (run_loadVar_row _ _ 24 24 (u8s x) (0, 0) _ (rowK rD.out hinv) Tryz.underlying24 rfl ix.out) ⟨Nat.le_refl _, rfl, Below.refl _ _⟩
        | 4, _ =>
          simp only [List.getElem?_toArray, List.getElem?_cons_zero, List.getElem?_cons_succ, Option.some.injEq] at hop
          subst hop
          generalize hfr : fxF _ vs fxT _ 4 = fr
          have e1 : fr.eval (.tmp 6) = .pointer (some ⟨(g5 + 1), 0, none⟩) := by rw [← hfr]; exact fx_old 4 (by kernel_rfl)
          have hg : vs 2 = .bool true := hd 2 (by decide)
          have eg : fr.eval (.tmp 146) = .bool true := by rw [← hfr]; exact (fx_new (by simp) 4 (by kernel_rfl)).trans hg
          clear hfr
          exact fx_rowK 24 (.tmp 6) (fx_wantedK (k := 2) (t := 146) (b := true) rfl (by kernel_rfl) eg) rfl (g5 + 1) e1 (u8s x) (run_loadVar_row _ _ 24 24 (u8s x) (0, 0) _ (rowK rX.out hinv) Tryz.underlying24 rfl ix.out) ⟨Nat.le_refl _, rfl, Below.refl _ _⟩
        | 5, _ =>
          simp only [List.getElem?_toArray, List.getElem?_cons_zero, List.getElem?_cons_succ, Option.some.injEq] at hop
          subst hop
          generalize hfr : fxF _ vs fxT _ 5 = fr
          have h0 : vs 3 = .agg (u8s x) := hd 3 (by decide)
          have e0 : fr.eval (.tmp 147) = .agg (u8s x) := by rw [← hfr]; exact (fx_new (by simp) 5 (by kernel_rfl)).trans h0
          have h1 : vs 4 = .agg (u8s x) := hd 4 (by decide)
          have e1 : fr.eval (.tmp 148) = .agg (u8s x) := by rw [← hfr]; exact (fx_new (by simp) 5 (by kernel_rfl)).trans h1
          have hg : vs 2 = .bool true := hd 2 (by decide)
          have eg : fr.eval (.tmp 146) = .bool true := by rw [← hfr]; exact (fx_new (by simp) 5 (by kernel_rfl)).trans hg
          clear hfr
          exact fx_eqIDK (.tmp 147) (.tmp 148) (fx_wantedK (k := 2) (t := 146) (b := true) rfl (by kernel_rfl) eg) rfl x x hlx.out hlx.out true (decide_eq_true rfl) e0 e1 ⟨Nat.le_refl _, rfl, Below.refl _ _⟩
        | 6, _ =>
          simp only [List.getElem?_toArray, List.getElem?_cons_zero, List.getElem?_cons_succ, Option.some.injEq] at hop
          subst hop
          generalize hfr : fxF _ vs fxT _ 6 = fr
          have h0 : vs 2 = .bool true := hd 2 (by decide)
          have e0 : fr.eval (.tmp 146) = .bool true := by rw [← hfr]; exact (fx_new (by simp) 6 (by kernel_rfl)).trans h0
          have h1 : vs 5 = .bool true := hd 5 (by decide)
          have e1 : fr.eval (.tmp 149) = .bool true := by rw [← hfr]; exact (fx_new (by simp) 6 (by kernel_rfl)).trans h1
          clear hfr
          have ec : ∀ v, fr.eval (.const v) = v := fun _ => rfl
          refine fx_val (v := .bool true) (w' := wz) rfl ?_ ⟨Nat.le_refl _, rfl, Below.refl _ _⟩
          skip
          unfold execOp
          generalize fr.eval = ev at ec e0 e1 ⊢
          simp [go_sem, ec, e0, e1]
        | 7, _ =>
          simp only [List.getElem?_toArray, List.getElem?_cons_zero, List.getElem?_cons_succ, Option.some.injEq] at hop
          subst hop
          generalize hfr : fxF _ vs fxT _ 7 = fr
          have h0 : vs 6 = .bool true := hd 6 (by decide)
          have e0 : fr.eval (.tmp 150) = .bool true := by rw [← hfr]; exact (fx_new (by simp) 7 (by kernel_rfl)).trans h0
          clear hfr
          have ec : ∀ v, fr.eval (.const v) = v := fun _ => rfl
          refine fx_val (v := .bool true) (w' := wz) rfl ?_ ⟨Nat.le_refl _, rfl, Below.refl _ _⟩
          skip
          unfold execOp
          generalize fr.eval = ev at ec e0 ⊢
          simp [go_sem, ec, e0]
        | 8, _ =>
          simp only [List.getElem?_toArray, List.getElem?_cons_zero, List.getElem?_cons_succ, Option.some.injEq] at hop
          subst hop
          generalize hfr : fxF _ vs fxT _ 8 = fr
          have e0 : fr.eval (.tmp 5) = .pointer (some ⟨g5, 0, none⟩) := by rw [← hfr]; exact fx_old 8 (by kernel_rfl)
          have hg : vs 7 = .bool true := hd 7 (by decide)
          have eg : fr.eval (.tmp 151) = .bool true := by rw [← hfr]; exact (fx_new (by simp) 8 (by kernel_rfl)).trans hg
          clear hfr
          have ec : ∀ v, fr.eval (.const v) = v := fun _ => rfl
          refine fx_val (v := .pointer (some ⟨g5, 0, none⟩)) (w' := wz) (fx_wantedK (k := 7) (t := 151) (b := true) rfl (by kernel_rfl) eg) ?_ ⟨Nat.le_refl _, rfl, Below.refl _ _⟩
          clear eg
          unfold execOp
          generalize fr.eval = ev at ec e0 ⊢
          simp [go_sem, ec, e0]
        | 9, _ =>
          simp only [List.getElem?_toArray, List.getElem?_cons_zero, List.getElem?_cons_succ, Option.some.injEq] at hop
          subst hop
          generalize hfr : fxF _ vs fxT _ 9 = fr
          have h0 : vs 8 = .pointer (some ⟨g5, 0, none⟩) := hd 8 (by decide)
          have e0 : fr.eval (.tmp 152) = .pointer (some ⟨g5, 0, none⟩) := by rw [← hfr]; exact (fx_new (by simp) 9 (by kernel_rfl)).trans h0
          have hg : vs 7 = .bool true := hd 7 (by decide)
          have eg : fr.eval (.tmp 151) = .bool true := by rw [← hfr]; exact (fx_new (by simp) 9 (by kernel_rfl)).trans hg
          clear hfr
          exact fx_cellK 26 (.tmp 152) (fx_wantedK (k := 7) (t := 151) (b := true) rfl (by kernel_rfl) eg) rfl g5 0 e0 (gC (.slice ja j jc) (.slice qa j qc)) _ _ (rowK rH.out hinv) (.slice ja j jc) rfl Tryz.isAgg26 ⟨Nat.le_refl _, rfl, Below.refl _ _⟩
        | 10, _ =>
          simp only [List.getElem?_toArray, List.getElem?_cons_zero, List.getElem?_cons_succ, Option.some.injEq] at hop
          subst hop
          generalize hfr : fxF _ vs fxT _ 10 = fr
          have e1 : fr.eval (.tmp 6) = .pointer (some ⟨(g5 + 1), 0, none⟩) := by rw [← hfr]; exact fx_old 10 (by kernel_rfl)
          have hg : vs 7 = .bool true := hd 7 (by decide)
          have eg : fr.eval (.tmp 151) = .bool true := by rw [← hfr]; exact (fx_new (by simp) 10 (by kernel_rfl)).trans hg
          clear hfr
          exact fx_rowK 24 (.tmp 6) (fx_wantedK (k := 7) (t := 151) (b := true) rfl (by kernel_rfl) eg) rfl (g5 + 1) e1 (u8s x) (run_loadVar_row _ _ 24 24 (u8s x) (0, 0) _ (rowK rX.out hinv) Tryz.underlying24 rfl ix.out) ⟨Nat.le_refl _, rfl, Below.refl _ _⟩
        | 11, _ =>
          simp only [List.getElem?_toArray, List.getElem?_cons_zero, List.getElem?_cons_succ, Option.some.injEq] at hop
          subst hop
          generalize hfr : fxF _ vs fxT _ 11 = fr
          have h0 : vs 9 = .slice ja j jc := hd 9 (by decide)
          have e0 : fr.eval (.tmp 153) = .slice ja j jc := by rw [← hfr]; exact (fx_new (by simp) 11 (by kernel_rfl)).trans h0
          have h1 : vs 10 = .agg (u8s x) := hd 10 (by decide)
          have e1 : fr.eval (.tmp 154) = .agg (u8s x) := by rw [← hfr]; exact (fx_new (by simp) 11 (by kernel_rfl)).trans h1
          have hg : vs 7 = .bool true := hd 7 (by decide)
          have eg : fr.eval (.tmp 151) = .bool true := by rw [← hfr]; exact (fx_new (by simp) 11 (by kernel_rfl)).trans hg
          clear hfr
          have ec : ∀ v, fr.eval (.const v) = v := fun _ => rfl
          refine fx_call #[.slice ja j jc, .agg (u8s x)] (fx_wantedK (k := 7) (t := 151) (b := true) rfl (by kernel_rfl) eg) rfl Tryz.func37 (by kernel_rfl) rfl (by simp [ec, e0, e1]) rfl ((hAtp.out wz (xH.out.mono hinv)).mono ?_)
          rintro e9 w9 ⟨rfl, z2⟩
          exact ⟨_, rfl, z2.size, rfl, z2⟩
        | 12, _ =>
          simp only [List.getElem?_toArray, List.getElem?_cons_zero, List.getElem?_cons_succ, Option.some.injEq] at hop
          subst hop
          generalize hfr : fxF _ vs fxT _ 12 = fr
          have h0 : vs 11 = .int .i64 (p : Int) := hd 11 (by decide)
          have e0 : fr.eval (.tmp 155) = .int .i64 (p : Int) := by rw [← hfr]; exact (fx_new (by simp) 12 (by kernel_rfl)).trans h0
          have hg : vs 7 = .bool true := hd 7 (by decide)
          have eg : fr.eval (.tmp 151) = .bool true := by rw [← hfr]; exact (fx_new (by simp) 12 (by kernel_rfl)).trans hg
          clear hfr
          have ec : ∀ v, fr.eval (.const v) = v := fun _ => rfl
          refine fx_val (v := .bool true) (w' := wz) (fx_wantedK (k := 7) (t := 151) (b := true) rfl (by kernel_rfl) eg) ?_ ⟨Nat.le_refl _, rfl, Below.refl _ _⟩
          clear eg
          unfold execOp
          generalize fr.eval = ev at ec e0 ⊢
          simp [go_sem, ec, e0, hpI]
        | 13, _ =>
          simp only [List.getElem?_toArray, List.getElem?_cons_zero, List.getElem?_cons_succ, Option.some.injEq] at hop
          subst hop
          generalize hfr : fxF _ vs fxT _ 13 = fr
          have h0 : vs 7 = .bool true := hd 7 (by decide)
          have e0 : fr.eval (.tmp 151) = .bool true := by rw [← hfr]; exact (fx_new (by simp) 13 (by kernel_rfl)).trans h0
          have h1 : vs 12 = .bool true := hd 12 (by decide)
          have e1 : fr.eval (.tmp 156) = .bool true := by rw [← hfr]; exact (fx_new (by simp) 13 (by kernel_rfl)).trans h1
          clear hfr
          have ec : ∀ v, fr.eval (.const v) = v := fun _ => rfl
          refine fx_val (v := .bool true) (w' := wz) rfl ?_ ⟨Nat.le_refl _, rfl, Below.refl _ _⟩
          skip
          unfold execOp
          generalize fr.eval = ev at ec e0 e1 ⊢
          simp [go_sem, ec, e0, e1]
        | 14, _ =>
          simp only [List.getElem?_toArray, List.getElem?_cons_zero, List.getElem?_cons_succ, Option.some.injEq] at hop
          subst hop
          generalize hfr : fxF _ vs fxT _ 14 = fr
          have h0 : vs 13 = .bool true := hd 13 (by decide)
          have e0 : fr.eval (.tmp 157) = .bool true := by rw [← hfr]; exact (fx_new (by simp) 14 (by kernel_rfl)).trans h0
          clear hfr
          have ec : ∀ v, fr.eval (.const v) = v := fun _ => rfl
          refine fx_val (v := .bool true) (w' := wz) rfl ?_ ⟨Nat.le_refl _, rfl, Below.refl _ _⟩
          skip
          unfold execOp
          generalize fr.eval = ev at ec e0 ⊢
          simp [go_sem, ec, e0]
        | 15, _ =>
          simp only [List.getElem?_toArray, List.getElem?_cons_zero, List.getElem?_cons_succ, Option.some.injEq] at hop
          subst hop
          generalize hfr : fxF _ vs fxT _ 15 = fr
          have e1 : fr.eval (.tmp 5) = .pointer (some ⟨g5, 0, none⟩) := by rw [← hfr]; exact fx_old 15 (by kernel_rfl)
          have hg : vs 14 = .bool true := hd 14 (by decide)
          have eg : fr.eval (.tmp 158) = .bool true := by rw [← hfr]; exact (fx_new (by simp) 15 (by kernel_rfl)).trans hg
          clear hfr
          exact fx_rowK 41 (.tmp 5) (fx_wantedK (k := 14) (t := 158) (b := true) rfl (by kernel_rfl) eg) rfl g5 e1 (gC (.slice ja j jc) (.slice qa j qc)) (run_loadVar_row _ _ 41 41 (gC (.slice ja j jc) (.slice qa j qc)) (0, 0) _ (rowK rH.out hinv) Tryz.underlying41 rfl info_g) ⟨Nat.le_refl _, rfl, Below.refl _ _⟩
        | 16, _ =>
          simp only [List.getElem?_toArray, List.getElem?_cons_zero, List.getElem?_cons_succ, Option.some.injEq] at hop
          subst hop
          generalize hfr : fxF _ vs fxT _ 16 = fr
          have h0 : vs 15 = .agg (gC (.slice ja j jc) (.slice qa j qc)) := hd 15 (by decide)
          have e0 : fr.eval (.tmp 159) = .agg (gC (.slice ja j jc) (.slice qa j qc)) := by rw [← hfr]; exact (fx_new (by simp) 16 (by kernel_rfl)).trans h0
          have hg : vs 14 = .bool true := hd 14 (by decide)
          have eg : fr.eval (.tmp 158) = .bool true := by rw [← hfr]; exact (fx_new (by simp) 16 (by kernel_rfl)).trans hg
          clear hfr
          have ec : ∀ v, fr.eval (.const v) = v := fun _ => rfl
          refine fx_call #[.agg (gC (.slice ja j jc) (.slice qa j qc))] (fx_wantedK (k := 14) (t := 158) (b := true) rfl (by kernel_rfl) eg) rfl Tryz.func40 (by kernel_rfl) rfl (by simp [ec, e0]) rfl ((hOr.out wz (xH.out.mono hinv)).mono ?_)
          rintro e9 w9 ⟨a, c, rfl, z2⟩
          exact ⟨_, rfl, z2.size, ⟨a, c, rfl⟩, z2⟩
        | 17, _ =>
          simp only [List.getElem?_toArray, List.getElem?_cons_zero, List.getElem?_cons_succ, Option.some.injEq] at hop
          subst hop
          generalize hfr : fxF _ vs fxT _ 17 = fr
          obtain ⟨a, c, hv⟩ := hd 16 (by decide)
          have e0 : fr.eval (.tmp 160) = .slice a j c := by rw [← hfr]; exact (fx_new (by simp) 17 (by kernel_rfl)).trans hv
          have hg : vs 14 = .bool true := hd 14 (by decide)
          have eg : fr.eval (.tmp 158) = .bool true := by rw [← hfr]; exact (fx_new (by simp) 17 (by kernel_rfl)).trans hg
          clear hfr
          refine fx_val (v := .int .i64 (j : Int)) (w' := wz) (fx_wantedK (k := 14) (t := 158) (b := true) rfl (by kernel_rfl) eg) ?_ ⟨Nat.le_refl _, rfl, Below.refl _ _⟩
          clear eg
          unfold execOp
          generalize fr.eval = ev at e0 ⊢
          simp [go_sem, e0]
        | 18, _ =>
          simp only [List.getElem?_toArray, List.getElem?_cons_zero, List.getElem?_cons_succ, Option.some.injEq] at hop
          subst hop
          generalize hfr : fxF _ vs fxT _ 18 = fr
          have e0 : fr.eval (.tmp 5) = .pointer (some ⟨g5, 0, none⟩) := by rw [← hfr]; exact fx_old 18 (by kernel_rfl)
          have hg : vs 14 = .bool true := hd 14 (by decide)
          have eg : fr.eval (.tmp 158) = .bool true := by rw [← hfr]; exact (fx_new (by simp) 18 (by kernel_rfl)).trans hg
          clear hfr
          have ec : ∀ v, fr.eval (.const v) = v := fun _ => rfl
          refine fx_val (v := .pointer (some ⟨g5, 1, none⟩)) (w' := wz) (fx_wantedK (k := 14) (t := 158) (b := true) rfl (by kernel_rfl) eg) ?_ ⟨Nat.le_refl _, rfl, Below.refl _ _⟩
          clear eg
          unfold execOp
          generalize fr.eval = ev at ec e0 ⊢
          simp [go_sem, ec, e0]
        | 19, _ =>
          simp only [List.getElem?_toArray, List.getElem?_cons_zero, List.getElem?_cons_succ, Option.some.injEq] at hop
          subst hop
          generalize hfr : fxF _ vs fxT _ 19 = fr
          have h0 : vs 18 = .pointer (some ⟨g5, 1, none⟩) := hd 18 (by decide)
          have e0 : fr.eval (.tmp 162) = .pointer (some ⟨g5, 1, none⟩) := by rw [← hfr]; exact (fx_new (by simp) 19 (by kernel_rfl)).trans h0
          have hg : vs 14 = .bool true := hd 14 (by decide)
          have eg : fr.eval (.tmp 158) = .bool true := by rw [← hfr]; exact (fx_new (by simp) 19 (by kernel_rfl)).trans hg
          clear hfr
          exact fx_cellK 22 (.tmp 162) (fx_wantedK (k := 14) (t := 158) (b := true) rfl (by kernel_rfl) eg) rfl g5 1 e0 (gC (.slice ja j jc) (.slice qa j qc)) _ _ (rowK rH.out hinv) (.slice qa j qc) rfl Tryz.isAgg22 ⟨Nat.le_refl _, rfl, Below.refl _ _⟩
        | 20, _ =>
          simp only [List.getElem?_toArray, List.getElem?_cons_zero, List.getElem?_cons_succ, Option.some.injEq] at hop
          subst hop
          generalize hfr : fxF _ vs fxT _ 20 = fr
          have h0 : vs 19 = .slice qa j qc := hd 19 (by decide)
          have e0 : fr.eval (.tmp 163) = .slice qa j qc := by rw [← hfr]; exact (fx_new (by simp) 20 (by kernel_rfl)).trans h0
          have hg : vs 14 = .bool true := hd 14 (by decide)
          have eg : fr.eval (.tmp 158) = .bool true := by rw [← hfr]; exact (fx_new (by simp) 20 (by kernel_rfl)).trans hg
          clear hfr
          have ec : ∀ v, fr.eval (.const v) = v := fun _ => rfl
          refine fx_val (v := .int .i64 (j : Int)) (w' := wz) (fx_wantedK (k := 14) (t := 158) (b := true) rfl (by kernel_rfl) eg) ?_ ⟨Nat.le_refl _, rfl, Below.refl _ _⟩
          clear eg
          unfold execOp
          generalize fr.eval = ev at ec e0 ⊢
          simp [go_sem, ec, e0]
        | 21, _ =>
          simp only [List.getElem?_toArray, List.getElem?_cons_zero, List.getElem?_cons_succ, Option.some.injEq] at hop
          subst hop
          generalize hfr : fxF _ vs fxT _ 21 = fr
          have h0 : vs 17 = .int .i64 (j : Int) := hd 17 (by decide)
          have e0 : fr.eval (.tmp 161) = .int .i64 (j : Int) := by rw [← hfr]; exact (fx_new (by simp) 21 (by kernel_rfl)).trans h0
          have h1 : vs 20 = .int .i64 (j : Int) := hd 20 (by decide)
          have e1 : fr.eval (.tmp 164) = .int .i64 (j : Int) := by rw [← hfr]; exact (fx_new (by simp) 21 (by kernel_rfl)).trans h1
          have hg : vs 14 = .bool true := hd 14 (by decide)
          have eg : fr.eval (.tmp 158) = .bool true := by rw [← hfr]; exact (fx_new (by simp) 21 (by kernel_rfl)).trans hg
          clear hfr
          have ec : ∀ v, fr.eval (.const v) = v := fun _ => rfl
          refine fx_val (v := .bool true) (w' := wz) (fx_wantedK (k := 14) (t := 158) (b := true) rfl (by kernel_rfl) eg) ?_ ⟨Nat.le_refl _, rfl, Below.refl _ _⟩
          clear eg
          unfold execOp
          generalize fr.eval = ev at ec e0 e1 ⊢
          simp [go_sem, ec, e0, e1]
        | 22, _ =>
          simp only [List.getElem?_toArray, List.getElem?_cons_zero, List.getElem?_cons_succ, Option.some.injEq] at hop
          subst hop
          generalize hfr : fxF _ vs fxT _ 22 = fr
          have h0 : vs 14 = .bool true := hd 14 (by decide)
          have e0 : fr.eval (.tmp 158) = .bool true := by rw [← hfr]; exact (fx_new (by simp) 22 (by kernel_rfl)).trans h0
          have h1 : vs 21 = .bool true := hd 21 (by decide)
          have e1 : fr.eval (.tmp 165) = .bool true := by rw [← hfr]; exact (fx_new (by simp) 22 (by kernel_rfl)).trans h1
          clear hfr
          have ec : ∀ v, fr.eval (.const v) = v := fun _ => rfl
          refine fx_val (v := .bool true) (w' := wz) rfl ?_ ⟨Nat.le_refl _, rfl, Below.refl _ _⟩
          skip
          unfold execOp
          generalize fr.eval = ev at ec e0 e1 ⊢
          simp [go_sem, ec, e0, e1]
        | 23, _ =>
          simp only [List.getElem?_toArray, List.getElem?_cons_zero, List.getElem?_cons_succ, Option.some.injEq] at hop
          subst hop
          generalize hfr : fxF _ vs fxT _ 23 = fr
          have h0 : vs 22 = .bool true := hd 22 (by decide)
          have e0 : fr.eval (.tmp 166) = .bool true := by rw [← hfr]; exact (fx_new (by simp) 23 (by kernel_rfl)).trans h0
          clear hfr
          have ec : ∀ v, fr.eval (.const v) = v := fun _ => rfl
          refine fx_val (v := .bool true) (w' := wz) rfl ?_ ⟨Nat.le_refl _, rfl, Below.refl _ _⟩
          skip
          unfold execOp
          generalize fr.eval = ev at ec e0 ⊢
          simp [go_sem, ec, e0]
        | 24, _ =>
          simp only [List.getElem?_toArray, List.getElem?_cons_zero, List.getElem?_cons_succ, Option.some.injEq] at hop
          subst hop
          generalize hfr : fxF _ vs fxT _ 24 = fr
          have hg : vs 23 = .bool true := hd 23 (by decide)
          have eg : fr.eval (.tmp 167) = .bool true := by rw [← hfr]; exact (fx_new (by simp) 24 (by kernel_rfl)).trans hg
          clear hfr
          have ec : ∀ v, fr.eval (.const v) = v := fun _ => rfl
          refine fx_call #[] (fx_wantedK (k := 23) (t := 167) (b := true) rfl (by kernel_rfl) eg) rfl Tryz.func27 (by kernel_rfl) rfl (by simp [ec]) rfl ((hal.out wz (hG.out.mono hinv)).mono ?_)
          rintro e9 w9 ⟨rfl, z2⟩
          exact ⟨_, rfl, z2.size, rfl, z2⟩
        | 25, _ =>
          simp only [List.getElem?_toArray, List.getElem?_cons_zero, List.getElem?_cons_succ, Option.some.injEq] at hop
          subst hop
          generalize hfr : fxF _ vs fxT _ 25 = fr
          have h0 : vs 23 = .bool true := hd 23 (by decide)
          have e0 : fr.eval (.tmp 167) = .bool true := by rw [← hfr]; exact (fx_new (by simp) 25 (by kernel_rfl)).trans h0
          have h1 : vs 24 = .bool true := hd 24 (by decide)
          have e1 : fr.eval (.tmp 168) = .bool true := by rw [← hfr]; exact (fx_new (by simp) 25 (by kernel_rfl)).trans h1
          clear hfr
          have ec : ∀ v, fr.eval (.const v) = v := fun _ => rfl
          refine fx_val (v := .bool true) (w' := wz) rfl ?_ ⟨Nat.le_refl _, rfl, Below.refl _ _⟩
          skip
          unfold execOp
          generalize fr.eval = ev at ec e0 e1 ⊢
          simp [go_sem, ec, e0, e1]
        | j + 26, hj => exact absurd hj (by omega)
      case hdone =>
        intro vs iv w9 hinv _ hf
        have h25 : vs 25 = .bool true := hf 25 (by decide) (by decide)
        simp only [fxF, fxT, if_true, List.drop_succ_cons, List.drop_zero, List.getElem?_toArray, List.getElem?_cons_zero, List.getElem?_cons_succ, Option.bind_some, Option.bind_none]
        rw [h25]
        have hS9 := Lib.hid (hS.out.trans (hinv.mono hS.out.size))
        clear hf h25 hinv
        generalize vs 0 = z0' at *
        generalize vs 1 = z1' at *
        generalize vs 2 = z2' at *
        generalize vs 3 = z3' at *
        generalize vs 4 = z4' at *
        generalize vs 5 = z5' at *
        generalize vs 6 = z6' at *
        generalize vs 7 = z7' at *
        generalize vs 8 = z8' at *
        generalize vs 9 = z9' at *
        generalize vs 10 = z10' at *
        generalize vs 11 = z11' at *
        generalize vs 12 = z12' at *
        generalize vs 13 = z13' at *
        generalize vs 14 = z14' at *
        generalize vs 15 = z15' at *
        generalize vs 16 = z16' at *
        generalize vs 17 = z17' at *
        generalize vs 18 = z18' at *
        generalize vs 19 = z19' at *
        generalize vs 20 = z20' at *
        generalize vs 21 = z21' at *
        generalize vs 22 = z22' at *
        generalize vs 23 = z23' at *
        generalize vs 24 = z24' at *
        go_wp2
        go_ret
        exact ⟨rfl, hS9.out⟩
    have hjI : (j : Int) < (N : Int) := by omega
    have hlt' := Lib.hid hlt
    have hl20 := Lib.hid (hsm'.out j (by have := hlN.out; omega))
    have hclj := Lib.hid (hcl.out j hlt)
    obtain ⟨b2, o2, rfl, hbw2, _, q3, _⟩ := rdI_at xH.out.1 (Below.refl _ _) j hlt
    obtain ⟨b, ob, pb, pbc, rfl, hbw, _, q1, q2⟩ := rdO_at xH.out.2 hlN.out (Below.refl _ _) j hlt
    have kH0 := Lib.hid (fun (wz : World) (h : Below wr.heap.size wr wz) => (show wz.cell? ⟨g5, 0, none⟩ = some (.slice (some ⟨b2, o2, none⟩) N jc) by rw [cell_of_row _ _ _ _ _ _ (rowK rH.out h)]; rfl))
    have kH1 := Lib.hid (fun (wz : World) (h : Below wr.heap.size wr wz) => (show wz.cell? ⟨g5, 1, none⟩ = some (.slice (some ⟨b, ob, none⟩) N qc) by rw [cell_of_row _ _ _ _ _ _ (rowK rH.out h)]; rfl))
    have k00 := Lib.hid (fun (wz : World) (h : Below wr.heap.size wr wz) => (show wz.cell? ⟨w.heap.size, 0, none⟩ = some (.slice ia n ic) by rw [cell_of_row _ _ _ _ _ _ (rowK r0.out h)]; rfl))
    have yX := Lib.hid (fun (wz : World) (h : Below wr.heap.size wr wz) => rowK rX.out h)
    have y1 := Lib.hid (fun (wz : World) (h : Below wr.heap.size wr wz) => rowK r1.out h)
    have yI := Lib.hid (fun (wz : World) (h : Below wr.heap.size wr wz) => xH.out.1.mono h)
    rcases hat.out j hlt with ⟨hjp, e1, e2⟩ | ⟨k, hk, e1, e2, e3⟩
    · rw [e1] at q1 q2 hl20 hclj
      rw [e2] at q3
      have hA32 := Lib.hid hlx.out
      have hAt := Lib.hid (fun (wz : World) (h : Below wr.heap.size wr wz) => hAt0.out wz (xI.out.mono h))
      have heqA := Lib.hid (show decide (x = x) = true from decide_eq_true rfl)
      have hneA := Lib.hid (show (!decide (x = x)) = false by rw [decide_eq_true rfl]; rfl)
      have hSm := Lib.hid (fun (wz : World) (h : Below wr.heap.size wr wz) => sameO_yes o hl20.out (.slice pb o.n pbc) (.slice pa o.n pc) wz (q2.mono h) (xp.out.mono h))
      have iA : Hid ((Tryz.prog.info? 24).map (·.size) = some (idV x).length) := Lib.hid (by rw [idV_length, hA32.out]; kernel_rfl)
      have iO : Hid ((Tryz.prog.info? 35).map (·.size) = some (o.c (.slice pb o.n pbc)).toList.length) := Lib.hid info_op
      have q1' := Lib.hid (fun (wz : World) (h : Below wr.heap.size wr wz) => range_below q1 hbw h)
      have q3' := Lib.hid (fun (wz : World) (h : Below wr.heap.size wr wz) => range_below q3 hbw2 h)
      have kp := Lib.hid (fun (wz : World) (h : Below wr.heap.size wr wz) => (show wz.cell? ⟨b, ob + j * 11 + 1, none⟩ = some (.slice pb o.n pbc) from range_below q1 hbw h 1 _ rfl))
      have hAl := Lib.hid (fun (wz : World) (h : Below wr.heap.size wr wz) => (show Calls Tryz.prog 39 #[.slice (some ⟨b2, o2, none⟩) N jc, .slice pb o.n pbc] wz fun e w' => e = .returned (.bool true) ∧ Below wz.heap.size wz w' from by
        have k9 := rAll_any F1 N (.slice (some ⟨b2, o2, none⟩) N jc) o.F o.n (.slice pb o.n pbc) wz (yI.out wz h) (by omega) (q2.mono h) (by have := hl20.out; omega)
        rw [hclj.out] at k9
        exact k9))
      clear q1 q2 q3 hbw hbw2 e1 e2 hlt hj hjp
      go_upto_region 11 with (refine loadC 26 _ rfl g5 0 rfl rfl (gC (.slice (some ⟨b2, o2, none⟩) N jc) (.slice (some ⟨b, ob, none⟩) N qc)) _ _ rH.out (.slice (some ⟨b2, o2, none⟩) N jc) rfl Tryz.isAgg26 ?_)
      refine wp_region_quiet (C := fun w' => Below wr.heap.size wr w') (by kernel_rfl) (by kernel_rfl) ((Below.refl _ _).drew) ?_
      simp only []
      (first | (go_big_quiet_want; go_big_quiet_op; first | go_big_quiet_on | (refine ⟨_, fun _ _ => rfl, ?_⟩; go_big_quiet_on)) | go_big_quiet_skip)
      refine wpq (.slice ia n ic) rfl (quiet_cell 26 _ rfl w.heap.size 0 rfl (.slice ia n ic) k00.out Tryz.isAgg26) rfl (fun K hK => ?_); go_simp; refine hK _ ?_; clear hK K
      (first | (go_big_quiet_want; go_big_quiet_op; first | go_big_quiet_on | (refine ⟨_, fun _ _ => rfl, ?_⟩; go_big_quiet_on)) | go_big_quiet_skip)
      refine wpq (.slice (some ⟨b2, o2, none⟩) N jc) rfl (quiet_cell 26 _ rfl g5 0 rfl (.slice (some ⟨b2, o2, none⟩) N jc) kH0.out Tryz.isAgg26) rfl (fun K hK => ?_); go_simp; refine hK _ ?_; clear hK K
      (first | (go_big_quiet_want; go_big_quiet_op; first | go_big_quiet_on | (refine ⟨_, fun _ _ => rfl, ?_⟩; go_big_quiet_on)) | go_big_quiet_skip)
      (first | (go_big_quiet_want; go_big_quiet_op; first | go_big_quiet_on | (refine ⟨_, fun _ _ => rfl, ?_⟩; go_big_quiet_on)) | go_big_quiet_skip)
      refine wpq (.agg (u8s x)) rfl (qa_load_mid 24 _ rfl b2 (o2 + j * 32) rfl x _ Tryz.underlying24 rfl iA.out q3'.out) rfl (fun K hK => ?_); go_simp; refine hK _ ?_; clear hK K
      refine wpq (.int .i64 (-1)) rfl (quiet_call2 rfl Tryz.func37 (by kernel_rfl) rfl (.slice ia n ic) (.agg (u8s x)) (.int .i64 (-1)) rfl rfl rfl (fun w9 h => (hAt.out w9 h).mono fun e w' ⟨he, hd⟩ => ⟨he, h.trans (hd.mono h.size)⟩)) rfl (fun K hK => ?_); go_simp; refine hK _ ?_; clear hK K
      (first | (go_big_quiet_want; go_big_quiet_op; first | go_big_quiet_on | (refine ⟨_, fun _ _ => rfl, ?_⟩; go_big_quiet_on)) | go_big_quiet_skip)
      refine wpQuiet_nil ?_
      intro w5 h5
      have h5' := Lib.hid h5
      clear h5
      go_upto_region 12 with fail
      refine wp_region_quiet (C := fun w' => Below wr.heap.size wr w') (by kernel_rfl) (by kernel_rfl) (h5'.out.drew) ?_
      simp only []
      (first | (go_big_quiet_want; go_big_quiet_op; first | go_big_quiet_on | (refine ⟨_, fun _ _ => rfl, ?_⟩; go_big_quiet_on)) | go_big_quiet_skip)
      refine wpq (.slice (some ⟨b2, o2, none⟩) N jc) rfl (quiet_cell 26 _ rfl g5 0 rfl (.slice (some ⟨b2, o2, none⟩) N jc) kH0.out Tryz.isAgg26) rfl (fun K hK => ?_); go_simp; refine hK _ ?_; clear hK K
      (first | (go_big_quiet_want; go_big_quiet_op; first | go_big_quiet_on | (refine ⟨_, fun _ _ => rfl, ?_⟩; go_big_quiet_on)) | go_big_quiet_skip)
      (first | (go_big_quiet_want; go_big_quiet_op; first | go_big_quiet_on | (refine ⟨_, fun _ _ => rfl, ?_⟩; go_big_quiet_on)) | go_big_quiet_skip)
      refine wpq (.agg (u8s x)) rfl (qa_load_mid 24 _ rfl b2 (o2 + j * 32) rfl x _ Tryz.underlying24 rfl iA.out q3'.out) rfl (fun K hK => ?_); go_simp; refine hK _ ?_; clear hK K
      refine wpq (.agg (u8s x)) rfl (quiet_row 24 _ rfl (g5 + 1) rfl 24 (u8s x) (0, 0) _ yX.out Tryz.underlying24 rfl ix.out) rfl (fun K hK => ?_); go_simp; refine hK _ ?_; clear hK K
      refine wpq (.bool true) rfl (qa_eqlI _ _ x x hlx.out hlx.out true heqA.out rfl rfl rfl) rfl (fun K hK => ?_); go_simp; refine hK _ ?_; clear hK K
      (first | (go_big_quiet_want; go_big_quiet_op; first | go_big_quiet_on | (refine ⟨_, fun _ _ => rfl, ?_⟩; go_big_quiet_on)) | go_big_quiet_skip)
      (first | (go_big_quiet_want; go_big_quiet_op; first | go_big_quiet_on | (refine ⟨_, fun _ _ => rfl, ?_⟩; go_big_quiet_on)) | go_big_quiet_skip)
      (first | (go_big_quiet_want; go_big_quiet_op; first | go_big_quiet_on | (refine ⟨_, fun _ _ => rfl, ?_⟩; go_big_quiet_on)) | go_big_quiet_skip)
      (first | (go_big_quiet_want; go_big_quiet_op; first | go_big_quiet_on | (refine ⟨_, fun _ _ => rfl, ?_⟩; go_big_quiet_on)) | go_big_quiet_skip)
      (first | (go_big_quiet_want; go_big_quiet_op; first | go_big_quiet_on | (refine ⟨_, fun _ _ => rfl, ?_⟩; go_big_quiet_on)) | go_big_quiet_skip)
      refine wpq (.slice (some ⟨b, ob, none⟩) N qc) rfl (quiet_cell 22 _ rfl g5 1 rfl (.slice (some ⟨b, ob, none⟩) N qc) kH1.out Tryz.isAgg22) rfl (fun K hK => ?_); go_simp; refine hK _ ?_; clear hK K
      (first | (go_big_quiet_want; go_big_quiet_op; first | go_big_quiet_on | (refine ⟨_, fun _ _ => rfl, ?_⟩; go_big_quiet_on)) | go_big_quiet_skip)
      (first | (go_big_quiet_want; go_big_quiet_op; first | go_big_quiet_on | (refine ⟨_, fun _ _ => rfl, ?_⟩; go_big_quiet_on)) | go_big_quiet_skip)
      refine wpq (.agg (o.c (.slice pb o.n pbc))) rfl (qa_load_midS 35 _ rfl b (ob + j * 11) rfl (o.c (.slice pb o.n pbc)) _ Tryz.underlying35 rfl iO.out q1'.out) rfl (fun K hK => ?_); go_simp; refine hK _ ?_; clear hK K
      refine wpq (.agg (o.c (.slice pa o.n pc))) rfl (quiet_row 35 _ rfl (w.heap.size + 1) rfl 35 (o.c (.slice pa o.n pc)) (0, 0) _ y1.out Tryz.underlying35 rfl info_op) rfl (fun K hK => ?_); go_simp; refine hK _ ?_; clear hK K
      refine wpq (.bool true) rfl (quiet_call2 rfl Tryz.func38 (by kernel_rfl) rfl (.agg (o.c (.slice pb o.n pbc))) (.agg (o.c (.slice pa o.n pc))) (.bool true) rfl rfl rfl (fun w9 h => (hSm.out w9 h).mono fun e w' ⟨he, hd⟩ => ⟨he, h.trans (hd.mono h.size)⟩)) rfl (fun K hK => ?_); go_simp; refine hK _ ?_; clear hK K
      (first | (go_big_quiet_want; go_big_quiet_op; first | go_big_quiet_on | (refine ⟨_, fun _ _ => rfl, ?_⟩; go_big_quiet_on)) | go_big_quiet_skip)
      (first | (go_big_quiet_want; go_big_quiet_op; first | go_big_quiet_on | (refine ⟨_, fun _ _ => rfl, ?_⟩; go_big_quiet_on)) | go_big_quiet_skip)
      (first | (go_big_quiet_want; go_big_quiet_op; first | go_big_quiet_on | (refine ⟨_, fun _ _ => rfl, ?_⟩; go_big_quiet_on)) | go_big_quiet_skip)
      (first | (go_big_quiet_want; go_big_quiet_op; first | go_big_quiet_on | (refine ⟨_, fun _ _ => rfl, ?_⟩; go_big_quiet_on)) | go_big_quiet_skip)
      (first | (go_big_quiet_want; go_big_quiet_op; first | go_big_quiet_on | (refine ⟨_, fun _ _ => rfl, ?_⟩; go_big_quiet_on)) | go_big_quiet_skip)
      refine wpq (.slice (some ⟨b2, o2, none⟩) N jc) rfl (quiet_cell 26 _ rfl g5 0 rfl (.slice (some ⟨b2, o2, none⟩) N jc) kH0.out Tryz.isAgg26) rfl (fun K hK => ?_); go_simp; refine hK _ ?_; clear hK K
      (first | (go_big_quiet_want; go_big_quiet_op; first | go_big_quiet_on | (refine ⟨_, fun _ _ => rfl, ?_⟩; go_big_quiet_on)) | go_big_quiet_skip)
      (first | (go_big_quiet_want; go_big_quiet_op; first | go_big_quiet_on | (refine ⟨_, fun _ _ => rfl, ?_⟩; go_big_quiet_on)) | go_big_quiet_skip)
      refine wpq (.agg (u8s x)) rfl (qa_load_mid 24 _ rfl b2 (o2 + j * 32) rfl x _ Tryz.underlying24 rfl iA.out q3'.out) rfl (fun K hK => ?_); go_simp; refine hK _ ?_; clear hK K
      refine wpq (.agg (u8s x)) rfl (quiet_row 24 _ rfl (g5 + 1) rfl 24 (u8s x) (0, 0) _ yX.out Tryz.underlying24 rfl ix.out) rfl (fun K hK => ?_); go_simp; refine hK _ ?_; clear hK K
      refine wpq (.bool false) rfl (qa_neqI _ _ x x hlx.out hlx.out false hneA.out rfl rfl rfl) rfl (fun K hK => ?_); go_simp; refine hK _ ?_; clear hK K
      (first | (go_big_quiet_want; go_big_quiet_op; first | go_big_quiet_on | (refine ⟨_, fun _ _ => rfl, ?_⟩; go_big_quiet_on)) | go_big_quiet_skip)
      (first | (go_big_quiet_want; go_big_quiet_op; first | go_big_quiet_on | (refine ⟨_, fun _ _ => rfl, ?_⟩; go_big_quiet_on)) | go_big_quiet_skip)
      (first | (go_big_quiet_want; go_big_quiet_op; first | go_big_quiet_on | (refine ⟨_, fun _ _ => rfl, ?_⟩; go_big_quiet_on)) | go_big_quiet_skip)
      (first | (go_big_quiet_want; go_big_quiet_op; first | go_big_quiet_on | (refine ⟨_, fun _ _ => rfl, ?_⟩; go_big_quiet_on)) | go_big_quiet_skip)
      (first | (go_big_quiet_want; go_big_quiet_op; first | go_big_quiet_on | (refine ⟨_, fun _ _ => rfl, ?_⟩; go_big_quiet_on)) | go_big_quiet_skip)
      (first | (go_big_quiet_want; go_big_quiet_op; first | go_big_quiet_on | (refine ⟨_, fun _ _ => rfl, ?_⟩; go_big_quiet_on)) | go_big_quiet_skip)
      (first | (go_big_quiet_want; go_big_quiet_op; first | go_big_quiet_on | (refine ⟨_, fun _ _ => rfl, ?_⟩; go_big_quiet_on)) | go_big_quiet_skip)
      (first | (go_big_quiet_want; go_big_quiet_op; first | go_big_quiet_on | (refine ⟨_, fun _ _ => rfl, ?_⟩; go_big_quiet_on)) | go_big_quiet_skip)
      (first | (go_big_quiet_want; go_big_quiet_op; first | go_big_quiet_on | (refine ⟨_, fun _ _ => rfl, ?_⟩; go_big_quiet_on)) | go_big_quiet_skip)
      (first | (go_big_quiet_want; go_big_quiet_op; first | go_big_quiet_on | (refine ⟨_, fun _ _ => rfl, ?_⟩; go_big_quiet_on)) | go_big_quiet_skip)
      (first | (go_big_quiet_want; go_big_quiet_op; first | go_big_quiet_on | (refine ⟨_, fun _ _ => rfl, ?_⟩; go_big_quiet_on)) | go_big_quiet_skip)
      (first | (go_big_quiet_want; go_big_quiet_op; first | go_big_quiet_on | (refine ⟨_, fun _ _ => rfl, ?_⟩; go_big_quiet_on)) | go_big_quiet_skip)
      (first | (go_big_quiet_want; go_big_quiet_op; first | go_big_quiet_on | (refine ⟨_, fun _ _ => rfl, ?_⟩; go_big_quiet_on)) | go_big_quiet_skip)
      (first | (go_big_quiet_want; go_big_quiet_op; first | go_big_quiet_on | (refine ⟨_, fun _ _ => rfl, ?_⟩; go_big_quiet_on)) | go_big_quiet_skip)
      (first | (go_big_quiet_want; go_big_quiet_op; first | go_big_quiet_on | (refine ⟨_, fun _ _ => rfl, ?_⟩; go_big_quiet_on)) | go_big_quiet_skip)
      (first | (go_big_quiet_want; go_big_quiet_op; first | go_big_quiet_on | (refine ⟨_, fun _ _ => rfl, ?_⟩; go_big_quiet_on)) | go_big_quiet_skip)
      (first | (go_big_quiet_want; go_big_quiet_op; first | go_big_quiet_on | (refine ⟨_, fun _ _ => rfl, ?_⟩; go_big_quiet_on)) | go_big_quiet_skip)
      (first | (go_big_quiet_want; go_big_quiet_op; first | go_big_quiet_on | (refine ⟨_, fun _ _ => rfl, ?_⟩; go_big_quiet_on)) | go_big_quiet_skip)
      (first | (go_big_quiet_want; go_big_quiet_op; first | go_big_quiet_on | (refine ⟨_, fun _ _ => rfl, ?_⟩; go_big_quiet_on)) | go_big_quiet_skip)
      (first | (go_big_quiet_want; go_big_quiet_op; first | go_big_quiet_on | (refine ⟨_, fun _ _ => rfl, ?_⟩; go_big_quiet_on)) | go_big_quiet_skip)
      (first | (go_big_quiet_want; go_big_quiet_op; first | go_big_quiet_on | (refine ⟨_, fun _ _ => rfl, ?_⟩; go_big_quiet_on)) | go_big_quiet_skip)
      refine wpq (.slice (some ⟨b2, o2, none⟩) N jc) rfl (quiet_cell 26 _ rfl g5 0 rfl (.slice (some ⟨b2, o2, none⟩) N jc) kH0.out Tryz.isAgg26) rfl (fun K hK => ?_); go_simp; refine hK _ ?_; clear hK K
      (first | (go_big_quiet_want; go_big_quiet_op; first | go_big_quiet_on | (refine ⟨_, fun _ _ => rfl, ?_⟩; go_big_quiet_on)) | go_big_quiet_skip)
      refine wpq (.slice (some ⟨b, ob, none⟩) N qc) rfl (quiet_cell 22 _ rfl g5 1 rfl (.slice (some ⟨b, ob, none⟩) N qc) kH1.out Tryz.isAgg22) rfl (fun K hK => ?_); go_simp; refine hK _ ?_; clear hK K
      (first | (go_big_quiet_want; go_big_quiet_op; first | go_big_quiet_on | (refine ⟨_, fun _ _ => rfl, ?_⟩; go_big_quiet_on)) | go_big_quiet_skip)
      (first | (go_big_quiet_want; go_big_quiet_op; first | go_big_quiet_on | (refine ⟨_, fun _ _ => rfl, ?_⟩; go_big_quiet_on)) | go_big_quiet_skip)
      (first | (go_big_quiet_want; go_big_quiet_op; first | go_big_quiet_on | (refine ⟨_, fun _ _ => rfl, ?_⟩; go_big_quiet_on)) | go_big_quiet_skip)
      refine wpq (.slice pb o.n pbc) rfl (quiet_cell 26 _ rfl b (ob + j * 11 + 1) rfl (.slice pb o.n pbc) kp.out Tryz.isAgg26) rfl (fun K hK => ?_); go_simp; refine hK _ ?_; clear hK K
      refine wpq (.bool true) rfl (quiet_call2 rfl Tryz.func39 (by kernel_rfl) rfl (.slice (some ⟨b2, o2, none⟩) N jc) (.slice pb o.n pbc) (.bool true) rfl rfl rfl (fun w9 h => (hAl.out w9 h).mono fun e w' ⟨he, hd⟩ => ⟨he, h.trans (hd.mono h.size)⟩)) rfl (fun K hK => ?_); go_simp; refine hK _ ?_; clear hK K
      (first | (go_big_quiet_want; go_big_quiet_op; first | go_big_quiet_on | (refine ⟨_, fun _ _ => rfl, ?_⟩; go_big_quiet_on)) | go_big_quiet_skip)
      (first | (go_big_quiet_want; go_big_quiet_op; first | go_big_quiet_on | (refine ⟨_, fun _ _ => rfl, ?_⟩; go_big_quiet_on)) | go_big_quiet_skip)
      refine wpQuiet_nil ?_
      intro w6 h6
      have h6' := Lib.hid (hb.out.trans (h6.mono hb.out.size))
      clear h6
      have hwj : IntKind.i64.wrap ((j : Int) + 1) = ((j + 1 : Nat) : Int) := by rw [IntWalk.i64_in _ (by omega)]; omega
      go_wp2
      go_roundw
      case rel => exact ⟨j + 1, by have := hlt'.out; omega, by go_num, h6'.out⟩
      case measure => simp [intOf]; have := hlt'.out; omega
    · rw [e1] at q1 q2 hl20 hclj
      rw [e2] at q3
      have hA32 := Lib.hid (show (idF F k).length = 32 by rw [idF, List.length_take, List.length_drop, hlF''.out]; omega)
      have hAt := Lib.hid (fun (wz : World) (h : Below wr.heap.size wr wz) => hAtk.out k hk wz (xI.out.mono h))
      have hneB := Lib.hid (show (!decide (idF F k = x)) = true by rw [decide_eq_false e3]; rfl)
      have heqB := Lib.hid (show decide (idF F k = x) = false from decide_eq_false e3)
      obtain ⟨b3, ob3, pb3, pbc3, hoa, hbw3, _, q4, q5⟩ := rdO_at xO.out hnL'.out (Below.refl _ _) k hk
      subst hoa
      have k01 := Lib.hid (fun (wz : World) (h : Below wr.heap.size wr wz) => (show wz.cell? ⟨w.heap.size, 1, none⟩ = some (.slice (some ⟨b3, ob3, none⟩) n oc) by rw [cell_of_row _ _ _ _ _ _ (rowK r0.out h)]; rfl))
      have q4' := Lib.hid (fun (wz : World) (h : Below wr.heap.size wr wz) => range_below q4 hbw3 h)
      have hkI : (k : Int) < (n : Int) := by omega
      have hk0 : ¬ (k : Int) < 0 := by omega
      have dk0 := decide_eq_false hk0
      have q5' := Lib.hid (fun (wz : World) (h : Below wr.heap.size wr wz) => q5.mono h)
      clear q4 q5 e3 hk hbw3
      generalize idF F k = A at *
      generalize nthO L k = od at *
      have hSm := Lib.hid (fun (wz : World) (h : Below wr.heap.size wr wz) => sameO_yes od hl20.out (.slice pb od.n pbc) (.slice pb3 od.n pbc3) wz (q2.mono h) (q5'.out wz h))
      have iA : Hid ((Tryz.prog.info? 24).map (·.size) = some (idV A).length) := Lib.hid (by rw [idV_length, hA32.out]; kernel_rfl)
      have iO : Hid ((Tryz.prog.info? 35).map (·.size) = some (od.c (.slice pb od.n pbc)).toList.length) := Lib.hid info_op
      have q1' := Lib.hid (fun (wz : World) (h : Below wr.heap.size wr wz) => range_below q1 hbw h)
      have q3' := Lib.hid (fun (wz : World) (h : Below wr.heap.size wr wz) => range_below q3 hbw2 h)
      have kp := Lib.hid (fun (wz : World) (h : Below wr.heap.size wr wz) => (show wz.cell? ⟨b, ob + j * 11 + 1, none⟩ = some (.slice pb od.n pbc) from range_below q1 hbw h 1 _ rfl))
      have hAl := Lib.hid (fun (wz : World) (h : Below wr.heap.size wr wz) => (show Calls Tryz.prog 39 #[.slice (some ⟨b2, o2, none⟩) N jc, .slice pb od.n pbc] wz fun e w' => e = .returned (.bool true) ∧ Below wz.heap.size wz w' from by
        have k9 := rAll_any F1 N (.slice (some ⟨b2, o2, none⟩) N jc) od.F od.n (.slice pb od.n pbc) wz (yI.out wz h) (by omega) (q2.mono h) (by have := hl20.out; omega)
        rw [hclj.out] at k9
        exact k9))
      clear q1 q2 q3 hbw hbw2 e1 e2 hlt hj
      go_upto_region 11 with (refine loadC 26 _ rfl g5 0 rfl rfl (gC (.slice (some ⟨b2, o2, none⟩) N jc) (.slice (some ⟨b, ob, none⟩) N qc)) _ _ rH.out (.slice (some ⟨b2, o2, none⟩) N jc) rfl Tryz.isAgg26 ?_)
      refine wp_region_quiet (C := fun w' => Below wr.heap.size wr w') (by kernel_rfl) (by kernel_rfl) ((Below.refl _ _).drew) ?_
      simp only []
      (first | (go_big_quiet_want; go_big_quiet_op; first | go_big_quiet_on | (refine ⟨_, fun _ _ => rfl, ?_⟩; go_big_quiet_on)) | go_big_quiet_skip)
      refine wpq (.slice ia n ic) rfl (quiet_cell 26 _ rfl w.heap.size 0 rfl (.slice ia n ic) k00.out Tryz.isAgg26) rfl (fun K hK => ?_); go_simp; refine hK _ ?_; clear hK K
      (first | (go_big_quiet_want; go_big_quiet_op; first | go_big_quiet_on | (refine ⟨_, fun _ _ => rfl, ?_⟩; go_big_quiet_on)) | go_big_quiet_skip)
      refine wpq (.slice (some ⟨b2, o2, none⟩) N jc) rfl (quiet_cell 26 _ rfl g5 0 rfl (.slice (some ⟨b2, o2, none⟩) N jc) kH0.out Tryz.isAgg26) rfl (fun K hK => ?_); go_simp; refine hK _ ?_; clear hK K
      (first | (go_big_quiet_want; go_big_quiet_op; first | go_big_quiet_on | (refine ⟨_, fun _ _ => rfl, ?_⟩; go_big_quiet_on)) | go_big_quiet_skip)
      (first | (go_big_quiet_want; go_big_quiet_op; first | go_big_quiet_on | (refine ⟨_, fun _ _ => rfl, ?_⟩; go_big_quiet_on)) | go_big_quiet_skip)
      refine wpq (.agg (u8s A)) rfl (qa_load_mid 24 _ rfl b2 (o2 + j * 32) rfl A _ Tryz.underlying24 rfl iA.out q3'.out) rfl (fun K hK => ?_); go_simp; refine hK _ ?_; clear hK K
      refine wpq (.int .i64 (k : Int)) rfl (quiet_call2 rfl Tryz.func37 (by kernel_rfl) rfl (.slice ia n ic) (.agg (u8s A)) (.int .i64 (k : Int)) rfl rfl rfl (fun w9 h => (hAt.out w9 h).mono fun e w' ⟨he, hd⟩ => ⟨he, h.trans (hd.mono h.size)⟩)) rfl (fun K hK => ?_); go_simp; refine hK _ ?_; clear hK K
      (first | (go_big_quiet_want; go_big_quiet_op; first | go_big_quiet_on | (refine ⟨_, fun _ _ => rfl, ?_⟩; go_big_quiet_on)) | go_big_quiet_skip)
      refine wpQuiet_nil ?_
      intro w5 h5
      have h5' := Lib.hid h5
      clear h5
      go_upto_region 12 with fail
      refine wp_region_quiet (C := fun w' => Below wr.heap.size wr w') (by kernel_rfl) (by kernel_rfl) (h5'.out.drew) ?_
      simp only []
      have iO3 : Hid ((Tryz.prog.info? 35).map (·.size) = some (od.c (.slice pb3 od.n pbc3)).toList.length) := Lib.hid info_op
      (first | (go_big_quiet_want; go_big_quiet_op; first | go_big_quiet_on | (refine ⟨_, fun _ _ => rfl, ?_⟩; go_big_quiet_on)) | go_big_quiet_skip)
      refine wpq (.slice (some ⟨b2, o2, none⟩) N jc) rfl (quiet_cell 26 _ rfl g5 0 rfl (.slice (some ⟨b2, o2, none⟩) N jc) kH0.out Tryz.isAgg26) rfl (fun K hK => ?_); go_simp; refine hK _ ?_; clear hK K
      (first | (go_big_quiet_want; go_big_quiet_op; first | go_big_quiet_on | (refine ⟨_, fun _ _ => rfl, ?_⟩; go_big_quiet_on)) | go_big_quiet_skip)
      (first | (go_big_quiet_want; go_big_quiet_op; first | go_big_quiet_on | (refine ⟨_, fun _ _ => rfl, ?_⟩; go_big_quiet_on)) | go_big_quiet_skip)
      refine wpq (.agg (u8s A)) rfl (qa_load_mid 24 _ rfl b2 (o2 + j * 32) rfl A _ Tryz.underlying24 rfl iA.out q3'.out) rfl (fun K hK => ?_); go_simp; refine hK _ ?_; clear hK K
      refine wpq (.agg (u8s x)) rfl (quiet_row 24 _ rfl (g5 + 1) rfl 24 (u8s x) (0, 0) _ yX.out Tryz.underlying24 rfl ix.out) rfl (fun K hK => ?_); go_simp; refine hK _ ?_; clear hK K
      refine wpq (.bool false) rfl (qa_eqlI _ _ A x hA32.out hlx.out false heqB.out rfl rfl rfl) rfl (fun K hK => ?_); go_simp; refine hK _ ?_; clear hK K
      (first | (go_big_quiet_want; go_big_quiet_op; first | go_big_quiet_on | (refine ⟨_, fun _ _ => rfl, ?_⟩; go_big_quiet_on)) | go_big_quiet_skip)
      (first | (go_big_quiet_want; go_big_quiet_op; first | go_big_quiet_on | (refine ⟨_, fun _ _ => rfl, ?_⟩; go_big_quiet_on)) | go_big_quiet_skip)
      (first | (go_big_quiet_want; go_big_quiet_op; first | go_big_quiet_on | (refine ⟨_, fun _ _ => rfl, ?_⟩; go_big_quiet_on)) | go_big_quiet_skip)
      (first | (go_big_quiet_want; go_big_quiet_op; first | go_big_quiet_on | (refine ⟨_, fun _ _ => rfl, ?_⟩; go_big_quiet_on)) | go_big_quiet_skip)
      (first | (go_big_quiet_want; go_big_quiet_op; first | go_big_quiet_on | (refine ⟨_, fun _ _ => rfl, ?_⟩; go_big_quiet_on)) | go_big_quiet_skip)
      (first | (go_big_quiet_want; go_big_quiet_op; first | go_big_quiet_on | (refine ⟨_, fun _ _ => rfl, ?_⟩; go_big_quiet_on)) | go_big_quiet_skip)
      (first | (go_big_quiet_want; go_big_quiet_op; first | go_big_quiet_on | (refine ⟨_, fun _ _ => rfl, ?_⟩; go_big_quiet_on)) | go_big_quiet_skip)
      (first | (go_big_quiet_want; go_big_quiet_op; first | go_big_quiet_on | (refine ⟨_, fun _ _ => rfl, ?_⟩; go_big_quiet_on)) | go_big_quiet_skip)
      (first | (go_big_quiet_want; go_big_quiet_op; first | go_big_quiet_on | (refine ⟨_, fun _ _ => rfl, ?_⟩; go_big_quiet_on)) | go_big_quiet_skip)
      (first | (go_big_quiet_want; go_big_quiet_op; first | go_big_quiet_on | (refine ⟨_, fun _ _ => rfl, ?_⟩; go_big_quiet_on)) | go_big_quiet_skip)
      (first | (go_big_quiet_want; go_big_quiet_op; first | go_big_quiet_on | (refine ⟨_, fun _ _ => rfl, ?_⟩; go_big_quiet_on)) | go_big_quiet_skip)
      (first | (go_big_quiet_want; go_big_quiet_op; first | go_big_quiet_on | (refine ⟨_, fun _ _ => rfl, ?_⟩; go_big_quiet_on)) | go_big_quiet_skip)
      (first | (go_big_quiet_want; go_big_quiet_op; first | go_big_quiet_on | (refine ⟨_, fun _ _ => rfl, ?_⟩; go_big_quiet_on)) | go_big_quiet_skip)
      (first | (go_big_quiet_want; go_big_quiet_op; first | go_big_quiet_on | (refine ⟨_, fun _ _ => rfl, ?_⟩; go_big_quiet_on)) | go_big_quiet_skip)
      (first | (go_big_quiet_want; go_big_quiet_op; first | go_big_quiet_on | (refine ⟨_, fun _ _ => rfl, ?_⟩; go_big_quiet_on)) | go_big_quiet_skip)
      (first | (go_big_quiet_want; go_big_quiet_op; first | go_big_quiet_on | (refine ⟨_, fun _ _ => rfl, ?_⟩; go_big_quiet_on)) | go_big_quiet_skip)
      refine wpq (.slice (some ⟨b2, o2, none⟩) N jc) rfl (quiet_cell 26 _ rfl g5 0 rfl (.slice (some ⟨b2, o2, none⟩) N jc) kH0.out Tryz.isAgg26) rfl (fun K hK => ?_); go_simp; refine hK _ ?_; clear hK K
      (first | (go_big_quiet_want; go_big_quiet_op; first | go_big_quiet_on | (refine ⟨_, fun _ _ => rfl, ?_⟩; go_big_quiet_on)) | go_big_quiet_skip)
      (first | (go_big_quiet_want; go_big_quiet_op; first | go_big_quiet_on | (refine ⟨_, fun _ _ => rfl, ?_⟩; go_big_quiet_on)) | go_big_quiet_skip)
      refine wpq (.agg (u8s A)) rfl (qa_load_mid 24 _ rfl b2 (o2 + j * 32) rfl A _ Tryz.underlying24 rfl iA.out q3'.out) rfl (fun K hK => ?_); go_simp; refine hK _ ?_; clear hK K
      refine wpq (.agg (u8s x)) rfl (quiet_row 24 _ rfl (g5 + 1) rfl 24 (u8s x) (0, 0) _ yX.out Tryz.underlying24 rfl ix.out) rfl (fun K hK => ?_); go_simp; refine hK _ ?_; clear hK K
      refine wpq (.bool true) rfl (qa_neqI _ _ A x hA32.out hlx.out true hneB.out rfl rfl rfl) rfl (fun K hK => ?_); go_simp; refine hK _ ?_; clear hK K
      (first | (go_big_quiet_want; go_big_quiet_op; first | go_big_quiet_on | (refine ⟨_, fun _ _ => rfl, ?_⟩; go_big_quiet_on)) | go_big_quiet_skip)
      (first | (go_big_quiet_want; go_big_quiet_op; first | go_big_quiet_on | (refine ⟨_, fun _ _ => rfl, ?_⟩; go_big_quiet_on)) | go_big_quiet_skip)
      (first | (go_big_quiet_want; go_big_quiet_op; first | go_big_quiet_on | (refine ⟨_, fun _ _ => rfl, ?_⟩; go_big_quiet_on)) | go_big_quiet_skip)
      (first | (go_big_quiet_want; go_big_quiet_op; first | go_big_quiet_on | (refine ⟨_, fun _ _ => rfl, ?_⟩; go_big_quiet_on)) | go_big_quiet_skip)
      (first | (go_big_quiet_want; go_big_quiet_op; first | go_big_quiet_on | (refine ⟨_, fun _ _ => rfl, ?_⟩; go_big_quiet_on)) | go_big_quiet_skip)
      refine wpq (.slice (some ⟨b, ob, none⟩) N qc) rfl (quiet_cell 22 _ rfl g5 1 rfl (.slice (some ⟨b, ob, none⟩) N qc) kH1.out Tryz.isAgg22) rfl (fun K hK => ?_); go_simp; refine hK _ ?_; clear hK K
      (first | (go_big_quiet_want; go_big_quiet_op; first | go_big_quiet_on | (refine ⟨_, fun _ _ => rfl, ?_⟩; go_big_quiet_on)) | go_big_quiet_skip)
      (first | (go_big_quiet_want; go_big_quiet_op; first | go_big_quiet_on | (refine ⟨_, fun _ _ => rfl, ?_⟩; go_big_quiet_on)) | go_big_quiet_skip)
      refine wpq (.agg (od.c (.slice pb od.n pbc))) rfl (qa_load_midS 35 _ rfl b (ob + j * 11) rfl (od.c (.slice pb od.n pbc)) _ Tryz.underlying35 rfl iO.out q1'.out) rfl (fun K hK => ?_); go_simp; refine hK _ ?_; clear hK K
      (first | (go_big_quiet_want; go_big_quiet_op; first | go_big_quiet_on | (refine ⟨_, fun _ _ => rfl, ?_⟩; go_big_quiet_on)) | go_big_quiet_skip)
      refine wpq (.slice (some ⟨b3, ob3, none⟩) n oc) rfl (quiet_cell 22 _ rfl w.heap.size 1 rfl (.slice (some ⟨b3, ob3, none⟩) n oc) k01.out Tryz.isAgg22) rfl (fun K hK => ?_); go_simp; refine hK _ ?_; clear hK K
      (first | (go_big_quiet_want; go_big_quiet_op; first | go_big_quiet_on | (refine ⟨_, fun _ _ => rfl, ?_⟩; go_big_quiet_on)) | go_big_quiet_skip)
      (first | (go_big_quiet_want; go_big_quiet_op; first | go_big_quiet_on | (refine ⟨_, fun _ _ => rfl, ?_⟩; go_big_quiet_on)) | go_big_quiet_skip)
      refine wpq (.agg (od.c (.slice pb3 od.n pbc3))) rfl (qa_load_midS 35 _ rfl b3 (ob3 + k * 11) rfl (od.c (.slice pb3 od.n pbc3)) _ Tryz.underlying35 rfl iO3.out q4'.out) rfl (fun K hK => ?_); go_simp; refine hK _ ?_; clear hK K
      refine wpq (.bool true) rfl (quiet_call2 rfl Tryz.func38 (by kernel_rfl) rfl (.agg (od.c (.slice pb od.n pbc))) (.agg (od.c (.slice pb3 od.n pbc3))) (.bool true) rfl rfl rfl (fun w9 h => (hSm.out w9 h).mono fun e w' ⟨he, hd⟩ => ⟨he, h.trans (hd.mono h.size)⟩)) rfl (fun K hK => ?_); go_simp; refine hK _ ?_; clear hK K
      (first | (go_big_quiet_want; go_big_quiet_op; first | go_big_quiet_on | (refine ⟨_, fun _ _ => rfl, ?_⟩; go_big_quiet_on)) | go_big_quiet_skip)
      (first | (go_big_quiet_want; go_big_quiet_op; first | go_big_quiet_on | (refine ⟨_, fun _ _ => rfl, ?_⟩; go_big_quiet_on)) | go_big_quiet_skip)
      (first | (go_big_quiet_want; go_big_quiet_op; first | go_big_quiet_on | (refine ⟨_, fun _ _ => rfl, ?_⟩; go_big_quiet_on)) | go_big_quiet_skip)
      (first | (go_big_quiet_want; go_big_quiet_op; first | go_big_quiet_on | (refine ⟨_, fun _ _ => rfl, ?_⟩; go_big_quiet_on)) | go_big_quiet_skip)
      (first | (go_big_quiet_want; go_big_quiet_op; first | go_big_quiet_on | (refine ⟨_, fun _ _ => rfl, ?_⟩; go_big_quiet_on)) | go_big_quiet_skip)
      (first | (go_big_quiet_want; go_big_quiet_op; first | go_big_quiet_on | (refine ⟨_, fun _ _ => rfl, ?_⟩; go_big_quiet_on)) | go_big_quiet_skip)
      refine wpq (.slice (some ⟨b2, o2, none⟩) N jc) rfl (quiet_cell 26 _ rfl g5 0 rfl (.slice (some ⟨b2, o2, none⟩) N jc) kH0.out Tryz.isAgg26) rfl (fun K hK => ?_); go_simp; refine hK _ ?_; clear hK K
      (first | (go_big_quiet_want; go_big_quiet_op; first | go_big_quiet_on | (refine ⟨_, fun _ _ => rfl, ?_⟩; go_big_quiet_on)) | go_big_quiet_skip)
      refine wpq (.slice (some ⟨b, ob, none⟩) N qc) rfl (quiet_cell 22 _ rfl g5 1 rfl (.slice (some ⟨b, ob, none⟩) N qc) kH1.out Tryz.isAgg22) rfl (fun K hK => ?_); go_simp; refine hK _ ?_; clear hK K
      (first | (go_big_quiet_want; go_big_quiet_op; first | go_big_quiet_on | (refine ⟨_, fun _ _ => rfl, ?_⟩; go_big_quiet_on)) | go_big_quiet_skip)
      (first | (go_big_quiet_want; go_big_quiet_op; first | go_big_quiet_on | (refine ⟨_, fun _ _ => rfl, ?_⟩; go_big_quiet_on)) | go_big_quiet_skip)
      (first | (go_big_quiet_want; go_big_quiet_op; first | go_big_quiet_on | (refine ⟨_, fun _ _ => rfl, ?_⟩; go_big_quiet_on)) | go_big_quiet_skip)
      refine wpq (.slice pb od.n pbc) rfl (quiet_cell 26 _ rfl b (ob + j * 11 + 1) rfl (.slice pb od.n pbc) kp.out Tryz.isAgg26) rfl (fun K hK => ?_); go_simp; refine hK _ ?_; clear hK K
      refine wpq (.bool true) rfl (quiet_call2 rfl Tryz.func39 (by kernel_rfl) rfl (.slice (some ⟨b2, o2, none⟩) N jc) (.slice pb od.n pbc) (.bool true) rfl rfl rfl (fun w9 h => (hAl.out w9 h).mono fun e w' ⟨he, hd⟩ => ⟨he, h.trans (hd.mono h.size)⟩)) rfl (fun K hK => ?_); go_simp; refine hK _ ?_; clear hK K
      (first | (go_big_quiet_want; go_big_quiet_op; first | go_big_quiet_on | (refine ⟨_, fun _ _ => rfl, ?_⟩; go_big_quiet_on)) | go_big_quiet_skip)
      (first | (go_big_quiet_want; go_big_quiet_op; first | go_big_quiet_on | (refine ⟨_, fun _ _ => rfl, ?_⟩; go_big_quiet_on)) | go_big_quiet_skip)
      refine wpQuiet_nil ?_
      intro w6 h6
      have h6' := Lib.hid (hb.out.trans (h6.mono hb.out.size))
      clear h6
      have hwj : IntKind.i64.wrap ((j : Int) + 1) = ((j + 1 : Nat) : Int) := by rw [IntWalk.i64_in _ (by omega)]; omega
      go_wp2
      go_roundw
      case rel => exact ⟨j + 1, by have := hlt'.out; omega, by go_num, h6'.out⟩
      case measure => simp [intOf]; have := hlt'.out; omega
end Go.Proofs.YtlbgffhipondiaaGreatDoor.wir.val

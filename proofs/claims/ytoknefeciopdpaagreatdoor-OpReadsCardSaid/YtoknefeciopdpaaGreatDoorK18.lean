/- Layer 6: Twin and Sign with slices of their own; the reference's Sign. OpReads' walk. -/
import Derived.Test.YtoknefeciopdpaaGreatDoorK13
import Derived.Test.YtoknefeciopdpaaGreatDoorS03x
namespace Go.Proofs.YtoknefeciopdpaaGreatDoor.wir.val
open Go.RowKit Go.YtoknefeciopdpaaGreatDoor
set_option linter.unusedVariables false
theorem set2_world0 {w : World} {g : Nat} {a b x y : Value} {T : TypeId} (hg : w.heap[g]? = some (.cells #[a, b] T (0, 0))) : (w.setCell ⟨g, 0, none⟩ x).setCell ⟨g, 1, none⟩ y = w.setRow g #[x, y] := by
  have h := fun c => setRow_heap w g #[a, b] c T (0, 0) hg
  rw [setCell_eq hg, setCell_eq (h _), setRow2 hg]
  simp only [List.setIfInBounds_toArray, List.set_cons_succ, List.set_cons_zero]
set_option maxHeartbeats 1000000 in
theorem rsigned_any0 (a : Nat) (h : 1 ≤ a ∧ a < 500000003) (mv : Value) (m : List Int) (w : World) (hm : RdB w mv m) (hmb : Bytes m) (hml : m.length ≤ 9991) :
    Calls Tryz.prog 61 #[.int .u32 (a : Int), mv] w fun e w' => e = .returned (.agg #[.int .u32 (eN a m : Int), .int .u32 (sN a m : Int)]) ∧ Below w.heap.size w w' := by
  obtain ⟨ma, mc, rfl⟩ := hm.slice
  have hn := Lib.hid (fun wi (o : Below w.heap.size w wi) => rnonce_any a (by omega) _ m wi (hm.mono o) hmb hml)
  have hK := nonceN_lt a m
  have hk1 := Lib.hid (rkey_any (nonceN a m) (by omega)); have hk2 := Lib.hid (rkey_any a (by omega))
  have hc := Lib.hid (fun wi (o : Below w.heap.size w wi) => rchal_any (grp.pw 4 (nonceN a m)) (grp.pw 4 a) (pw_u32 _ _) (pw_u32 _ _) _ m wi (hm.mono o) hmb hml)
  have hE := eN_lt a m
  have hsc := Lib.hid (grp.scaled_any (eN a m) a hE (by omega))
  have hsu := Lib.hid (grp.sum_any (nonceN a m) (eN a m * a % 500000003) hK.2 (Nat.mod_lt _ (by decide)))
  have hSd : sN a m = (nonceN a m + eN a m * a % 500000003) % 500000003 := rfl
  have hEd : eN a m = chalN (grp.pw 4 (nonceN a m)) (grp.pw 4 a) m := rfl
  rw [← hSd] at hsu
  rw [← hEd] at hc
  generalize eN a m = E at *
  generalize sN a m = S at *
  generalize grp.pw 4 (nonceN a m) = X1 at *
  generalize grp.pw 4 a = X2 at *
  generalize nonceN a m = K at *
  generalize E * a % 500000003 = PP at *
  generalize m.length = n at *
  have hrow := Lib.hid (heap_alloc_new w (.cells #[.int .u32 0, .int .u32 0] 30))
  have hBa := Lib.hid (below_a w (.cells #[.int .u32 0, .int .u32 0] 30))
  clear h hm hmb hK hE hSd hEd
  go_enter Tryz.func61, Tryz.ntmps61
  go_wp2_with (go_at_call 100; (with_reducible refine (hn.out _ hBa.out).mono ?_); rintro e w1 ⟨rfl, hb1⟩; have hb1' := Lib.hid hb1; clear hb1; refine Stop.go'' _ ?_)
  refine StopP.go ?_
  have hz1 := hb1'.out.size
  have hB1 := Lib.hid (hBa.out.trans (hb1'.out.mono (by simp)))
  have r1 := Lib.hid ((hb1'.out.block w.heap.size (by simp)).trans hrow.out)
  have hz := (Array.getElem?_eq_some_iff.1 r1.out).1
  clear hb1' hrow hz1
  go_wp2_with (first | (go_at_call 60; (first | (with_reducible refine (hk1.out _).mono ?_) | (with_reducible refine (hk2.out _).mono ?_)); rintro e w' ⟨rfl, rfl⟩) | (go_at_call 101; (with_reducible refine (hc.out _ hB1.out).mono ?_); rintro e w2 ⟨rfl, hb2⟩; have hb2' := Lib.hid hb2; clear hb2; refine Stop.go'' _ ?_))
  refine StopP.go ?_
  have hB2 := Lib.hid (hB1.out.trans (hb2'.out.mono (by omega)))
  have r2 := Lib.hid ((hb2'.out.block w.heap.size hz).trans r1.out)
  clear hb2' r1 hB1 hz
  go_wp2_with (first | (go_at_call 103; (with_reducible refine (hsc.out _).mono ?_); rintro e w' ⟨rfl, rfl⟩) | (go_at_call 102; (with_reducible refine (hsu.out _).mono ?_); rintro e w' ⟨rfl, rfl⟩) | (refine wpList_store_row rfl 30 _ _ rfl w.heap.size #[.int .u32 (E : Int), .int .u32 (S : Int)] rfl rfl 30 _ r2.out (sig_info2 _ _) rfl (two_one _ _) ?_))
  try simp only [Exit.inBlock, Exit.then]
  exact bodyPost_ret (results_cell_row rfl _ _ w.heap.size 30 _ _ _ rfl (setRow_heap _ _ _ _ _ _ r2.out) Tryz.underlying30 rfl (sig_info2 _ _)) rfl ⟨rfl, below_setRow' hB2.out (Nat.le_refl _) _⟩
set_option maxHeartbeats 4000000 in
set_option maxRecDepth 100000 in
theorem rSigned_any (o : Od) (fo : o.Fit) (h0 : chkO o = 0) (pv : Value) (w : World) (hp : RdI w pv o.n o.F) :
    Calls Tryz.prog 64 #[.agg (o.c pv)] w fun e w' => e = .returned (.bool (rightB o.au (msgB o) o.s o.e)) ∧ Below w.heap.size w w' := by
  obtain ⟨hn, _, hA⟩ := chk_zero h0
  obtain ⟨W, hW⟩ : ∃ W, W = w.alloc (.cells (o.c pv) 32) := ⟨_, rfl⟩
  have hr0 := heap_alloc_new w (.cells (o.c pv) 32)
  have hb0 := (Below.refl w.heap.size w).alloc (Nat.le_refl _) (.cells (o.c pv) 32)
  rw [← hW] at hr0 hb0
  have hms := Lib.hid (msgB_short o fo hn hp.len hA)
  have hmb := Lib.hid (msgB_bytes o fo hn hA)
  obtain ⟨pa, pc, rfl⟩ := hp.slice
  have hb1 := Lib.hid hb0
  have hrow := Lib.hid hr0
  have hlt := (Array.getElem?_eq_some_iff.1 hr0).1
  have hS := Lib.hid (show ∀ (wz : World) (h : Below W.heap.size W wz), (fun wz => wz.cell? ⟨w.heap.size, 0, none⟩ = some (.int .u32 (o.au : Int)) ∧ wz.cell? ⟨w.heap.size, 1, none⟩ = some (.slice pa o.n pc) ∧ wz.cell? ⟨w.heap.size, 2, none⟩ = some (.int .u64 (o.st : Int)) ∧ wz.cell? ⟨w.heap.size, 3, none⟩ = some (.int .u8 o.k) ∧ wz.cell? ⟨w.heap.size, 4, none⟩ = some (.string o.key) ∧ wz.cell? ⟨w.heap.size, 5, none⟩ = some (.int .u8 o.v.k) ∧ wz.cell? ⟨w.heap.size, 6, none⟩ = some (.int .i64 o.v.n) ∧ wz.cell? ⟨w.heap.size, 7, none⟩ = some (.int .u64 (o.v.b : Int)) ∧ wz.cell? ⟨w.heap.size, 8, none⟩ = some (.string o.v.s) ∧ wz.cell? ⟨w.heap.size, 9, none⟩ = some (.int .u32 (o.e : Int)) ∧ wz.cell? ⟨w.heap.size, 10, none⟩ = some (.int .u32 (o.s : Int))) wz from fun wz h => cells11 (rowB hrow.out h hlt))
  have hM := Lib.hid (fun (wz : World) (hb : Below W.heap.size W wz) => rmsg_any o fo hn hA (.slice pa o.n pc) wz ((hp.mono hb0).mono hb))
  have hR := Lib.hid (fun (wz : World) (v : Value) (h : RdB wz v (msgB o)) => rright_any o.au (chk_in h0) o.s o.e fo.s fo.e v (msgB o) wz h hmb.out (Nat.le_trans hms.out (by decide)))
  generalize rightB o.au (msgB o) o.s o.e = RB at *
  generalize hme : msgB o = MB at *
  clear hr0 hb0 hp fo hn hA hme h0
  go_enter Tryz.func64, Tryz.ntmps64
  go_upto_region 1 with fail
  rw [← hW]
  clear hW
  have hB := Lib.hid (show Below W.heap.size W W.drew from (Below.refl _ _).drew)
  obtain ⟨c0, c1, c2, c3, c4, c5, c6, c7, c8, c9, c10⟩ := hS.out W (Below.refl _ _)
  go_region_held3 (fun wz => wz.cell? ⟨w.heap.size, 0, none⟩ = some (.int .u32 (o.au : Int)) ∧ wz.cell? ⟨w.heap.size, 1, none⟩ = some (.slice pa o.n pc) ∧ wz.cell? ⟨w.heap.size, 2, none⟩ = some (.int .u64 (o.st : Int)) ∧ wz.cell? ⟨w.heap.size, 3, none⟩ = some (.int .u8 o.k) ∧ wz.cell? ⟨w.heap.size, 4, none⟩ = some (.string o.key) ∧ wz.cell? ⟨w.heap.size, 5, none⟩ = some (.int .u8 o.v.k) ∧ wz.cell? ⟨w.heap.size, 6, none⟩ = some (.int .i64 o.v.n) ∧ wz.cell? ⟨w.heap.size, 7, none⟩ = some (.int .u64 (o.v.b : Int)) ∧ wz.cell? ⟨w.heap.size, 8, none⟩ = some (.string o.v.s) ∧ wz.cell? ⟨w.heap.size, 9, none⟩ = some (.int .u32 (o.e : Int)) ∧ wz.cell? ⟨w.heap.size, 10, none⟩ = some (.int .u32 (o.s : Int))) (first | (exact hS.out _ hB.out) | go_keep)
    (first
      | (go_at_call 62; (with_reducible refine (hM.out _ hB.out).mono ?_); rintro e w4 ⟨z4, rfl, q1, q2⟩; replace hB := Lib.hid (hB.out.trans (Below.mono q2 hB.out.size)); have hO := Lib.hid q1.rd; obtain ⟨ma, mc, hz4⟩ := hO.out.slice; subst hz4; clear q1 q2)
      | (go_at_call 109; (with_reducible refine (hR.out _ _ hO.out).mono ?_); rintro e w4 ⟨rfl, q2⟩; replace hB := Lib.hid (hB.out.trans (Below.mono q2 hB.out.size)); clear q2))
  all_goals
    clear c0 c1 c2 c3 c4 c5 c6 c7 c8 c9 c10
    go_wp2
    go_ret
    exact ⟨rfl, hb1.out.trans (hB.out.mono hb1.out.size)⟩
theorem ver_right {o : Od} (h0 : chkO o = 0) : verO o = if rightB o.au (msgB o) o.s o.e = true then 0 else 22 := by unfold verO; rw [if_pos h0]
set_option maxHeartbeats 4000000 in
set_option maxRecDepth 100000 in
theorem rVerify_any (o : Od) (fo : o.Fit) (pv : Value) (w : World) (hp : RdI w pv o.n o.F) :
    Calls Tryz.prog 26 #[.agg (o.c pv)] w fun e w' => e = .returned (.int .i64 (verO o)) ∧ Below w.heap.size w w' := by
  obtain ⟨pa, pc, rfl⟩ := hp.slice
  obtain ⟨W, hW⟩ : ∃ W, W = w.alloc (.cells (o.c (.slice pa o.n pc)) 32) := ⟨_, rfl⟩
  have hS := Lib.hid (show Below w.heap.size w W by rw [hW]; exact below_a w _)
  have r0 := Lib.hid (show W.heap[w.heap.size]? = some (.cells (o.c (.slice pa o.n pc)) 32 (0, 0)) by rw [hW]; exact heap_alloc_new w _)
  have pw := Lib.hid hp
  have hck := Lib.hid (fun (wz : World) (h : RdI wz (.slice pa o.n pc) o.n o.F) => ropCheck_any o fo (.slice pa o.n pc) wz h)
  clear hp
  by_cases h0 : chkO o = 0
  · have hsg := Lib.hid (fun (wz : World) (h : RdI wz (.slice pa o.n pc) o.n o.F) => rSigned_any o fo h0 (.slice pa o.n pc) wz h)
    rw [ver_right h0]
    rw [h0] at hck
    generalize rightB o.au (msgB o) o.s o.e = RB at *
    clear fo h0
    cases RB
    · skip
      go_enter Tryz.func26, Tryz.ntmps26
      go_upto_region 1 with fail
      rw [← hW]
      clear hW
      go_wp2_with (first | (refine wpList_load_row_g rfl 32 _ rfl w.heap.size rfl 32 (o.c (.slice pa o.n pc)) (0, 0) _ r0.out Tryz.underlying32 rfl info_op ?_) | (go_at_call 44; (with_reducible refine (hck.out _ (pw.out.mono hS.out)).mono ?_); rintro e9 w4 ⟨rfl, q2⟩; (try replace r0 := Lib.hid (rowB r0.out q2 (Array.getElem?_eq_some_iff.1 r0.out).1)); replace hS := Lib.hid (hS.out.trans (Below.mono q2 hS.out.size)); clear q2) | (go_at_call 64; (with_reducible refine (hsg.out _ (pw.out.mono hS.out)).mono ?_); rintro e9 w4 ⟨rfl, q2⟩; (try replace r0 := Lib.hid (rowB r0.out q2 (Array.getElem?_eq_some_iff.1 r0.out).1)); replace hS := Lib.hid (hS.out.trans (Below.mono q2 hS.out.size)); clear q2))
      go_ret
      exact ⟨rfl, hS.out⟩
    · skip
      go_enter Tryz.func26, Tryz.ntmps26
      go_upto_region 1 with fail
      rw [← hW]
      clear hW
      go_wp2_with (first | (refine wpList_load_row_g rfl 32 _ rfl w.heap.size rfl 32 (o.c (.slice pa o.n pc)) (0, 0) _ r0.out Tryz.underlying32 rfl info_op ?_) | (go_at_call 44; (with_reducible refine (hck.out _ (pw.out.mono hS.out)).mono ?_); rintro e9 w4 ⟨rfl, q2⟩; (try replace r0 := Lib.hid (rowB r0.out q2 (Array.getElem?_eq_some_iff.1 r0.out).1)); replace hS := Lib.hid (hS.out.trans (Below.mono q2 hS.out.size)); clear q2) | (go_at_call 64; (with_reducible refine (hsg.out _ (pw.out.mono hS.out)).mono ?_); rintro e9 w4 ⟨rfl, q2⟩; (try replace r0 := Lib.hid (rowB r0.out q2 (Array.getElem?_eq_some_iff.1 r0.out).1)); replace hS := Lib.hid (hS.out.trans (Below.mono q2 hS.out.size)); clear q2))
      go_ret
      exact ⟨rfl, hS.out⟩
  · have hv : verO o = chkO o := if_neg h0
    rw [hv]
    have hx : (chkO o != 0) = true := by simpa using h0
    generalize chkO o = E at *
    clear hv fo h0
    go_enter Tryz.func26, Tryz.ntmps26
    go_upto_region 1 with fail
    rw [← hW]
    clear hW
    go_wp2_with (first | (refine wpList_load_row_g rfl 32 _ rfl w.heap.size rfl 32 (o.c (.slice pa o.n pc)) (0, 0) _ r0.out Tryz.underlying32 rfl info_op ?_) | (go_at_call 44; (with_reducible refine (hck.out _ (pw.out.mono hS.out)).mono ?_); rintro e9 w4 ⟨rfl, q2⟩; (try replace r0 := Lib.hid (rowB r0.out q2 (Array.getElem?_eq_some_iff.1 r0.out).1)); replace hS := Lib.hid (hS.out.trans (Below.mono q2 hS.out.size)); clear q2))
    go_ret
    exact ⟨rfl, hS.out⟩
theorem rowA (w : World) (A B : Obj) : ((w.alloc A).alloc B).heap[w.heap.size]? = some A := rowA0 w A B
theorem own_setRow {B : Nat} {E T : TypeId} {w : World} {v : Value} {n : Nat} {F : List Int} (h : OwnI B E w v n F) {g : Nat} {cs : Array Value} {fr : Nat × Nat} (hg : w.heap[g]? = some (.cells cs T fr)) (hT : T ≠ E) (cs2 : Array Value) : OwnI B E (w.setRow g cs2) v n F := by
  refine ⟨h.1, ?_⟩
  rcases h.2 with hn | ⟨k, cap, cur, rfl, hbg, hk, rest⟩
  · exact .inl hn
  · refine .inr ⟨k, cap, cur, rfl, hbg, (setRow_other w g k cs2 ?_).trans hk, rest⟩
    intro e
    subst e
    rw [hg] at hk
    injection hk with hk
    injection hk with _ h2 _
    exact hT h2
set_option maxHeartbeats 4000000 in
set_option maxRecDepth 100000 in
theorem twin_own (o : Od) (hn : o.n ≤ 20) (pv : Value) (w : World) (hp : RdI w pv o.n o.F) :
    Calls Tryz.prog 21 #[.agg (o.c pv)] w fun e w' => ∃ qv, e = .returned (.agg (o.c qv)) ∧ OwnI w.heap.size 42 w' qv o.n o.F ∧ Below w.heap.size w w' := by
  obtain ⟨W, hW⟩ : ∃ W, W = (w.alloc (.cells (o.c pv) 32)).alloc (.cells (zO.c (.slice none 0 0)) 32) := ⟨_, rfl⟩
  have hr0 : W.heap[w.heap.size]? = some (.cells (o.c pv) 32 (0, 0)) := by rw [hW]; exact rowB (heap_alloc_new w _) (below_a _ _) (by simp)
  have hr1 : W.heap[w.heap.size + 1]? = some (.cells (zO.c (.slice none 0 0)) 32 (0, 0)) := by rw [hW]; exact hn2 w _ _
  have hb0 : Below w.heap.size w W := by rw [hW]; exact ((Below.refl w.heap.size w).alloc (Nat.le_refl _) _).alloc (by simp) _
  obtain ⟨pa, pc, rfl⟩ := hp.slice
  have hb1 := Lib.hid hb0
  have hrow := Lib.hid hr0
  have hres := Lib.hid hr1
  have hlt := Lib.hid (Array.getElem?_eq_some_iff.1 hr0).1
  have hlt1 := Lib.hid (Array.getElem?_eq_some_iff.1 hr1).1
  have hp1 := Lib.hid (hp.mono hb0)
  have hc1 : (W.alloc (.cells #[] 42)).cell? ⟨w.heap.size, 1, none⟩ = some (.slice pa o.n pc) := by rw [cell_of_row _ _ _ _ _ _ (rowB hr0 (below_a W _) hlt.out)]; rfl
  clear hr0 hr1 hb0 hp
  go_enter Tryz.func21, Tryz.ntmps21
  go_upto_region 1 with fail
  change Code.wp _ _ _ _ ((w.alloc (.cells (o.c (.slice pa o.n pc)) 32)).alloc (.cells (zO.c (.slice none 0 0)) 32))
  rw [← hW]
  clear hW
  go_wp2_with (refine appendIs rfl _ _ 23 rfl W.heap.size 42 Tryz.underlying23 (by kernel_rfl) _ rfl 0 [] (own_litI W) _ rfl o.n o.F (hp1.out.mono (below_a W _)) (by omega) (by simp) ?_)
  intro v2 w2 h1 h2
  have hB2 := Lib.hid ((below_a W (.cells #[] 42)).trans ((own_litI W).below h2 (by simp)))
  have hq := Lib.hid (show OwnI W.heap.size 42 w2 v2 o.n o.F by have h := h1; simpa using h)
  have hq3 := Lib.hid (fun cs cs2 => show OwnI W.heap.size 42 ((w2.setRow w.heap.size cs).setRow (w.heap.size + 1) cs2) v2 o.n o.F by have h := (ownI_setRow (ownI_setRow h1 hlt.out cs) hlt1.out cs2); simpa using h)
  obtain ⟨qa, qc, rfl⟩ := hq.out.rd.slice
  have hr2 := Lib.hid (rowB hrow.out hB2.out hlt.out)
  have hs2 := Lib.hid (rowB hres.out hB2.out hlt1.out)
  have f1 := frozen_of_row w2 w.heap.size 1 _ _ hr2.out
  have k1 : w2.cell? ⟨w.heap.size, 1, none⟩ = some (.slice pa o.n pc) := by rw [cell_of_row _ _ _ _ _ _ hr2.out]; rfl
  have hset := Lib.hid (show w2.setCell ⟨w.heap.size, 1, none⟩ (.slice qa o.n qc) = w2.setRow w.heap.size (o.c (.slice qa o.n qc)) from setCell_eq hr2.out 1 (.slice qa o.n qc))
  clear h1 h2
  refine Stop.go ?_
  go_upto_region 2 with fail
  rw [hset.out]
  have hr3 := Lib.hid (setRow_heap w2 w.heap.size _ (o.c (.slice qa o.n qc)) _ _ hr2.out)
  have hs3 := Lib.hid ((setRow_other w2 w.heap.size (w.heap.size + 1) (o.c (.slice qa o.n qc)) (by omega)).trans hs2.out)
  have hB3 := Lib.hid (show Below w.heap.size w (w2.setRow w.heap.size (o.c (.slice qa o.n qc))) from below_setRow' (hb1.out.trans (hB2.out.mono hb1.out.size)) (Nat.le_refl _) _)
  have hq4 := Lib.hid (hq3.out (o.c (.slice qa o.n qc)) (o.c (.slice qa o.n qc)))
  clear hset hq3 hq f1 k1 hr2 hs2 hB2 hc1 hp1 hrow hres
  generalize w2.setRow w.heap.size (o.c (.slice qa o.n qc)) = w3 at *
  go_wp2_with (first
    | (refine wpList_load_row_g rfl 32 _ rfl w.heap.size rfl 32 (o.c (.slice qa o.n qc)) (0, 0) _ hr3.out Tryz.underlying32 rfl info_op ?_)
    | (refine wpList_store_row rfl 32 _ _ rfl (w.heap.size + 1) (o.c (.slice qa o.n qc)) rfl rfl 32 _ hs3.out info_op rfl (op_one _ _ _ _) ?_))
  exact bodyPost_ret (results_cell_row rfl _ _ (w.heap.size + 1) 32 _ _ _ rfl (setRow_heap _ _ _ _ _ _ hs3.out) Tryz.underlying32 rfl info_op) rfl ⟨_, rfl, hq4.out.mono hb1.out.size, below_setRow' hB3.out (by omega) _⟩
set_option maxHeartbeats 8000000 in
set_option maxRecDepth 100000 in
theorem opSign_held (a : Nat) (h : 1 ≤ a ∧ a < 500000003) (o : Od) (fo : o.Fit) (pv : Value) (w : World) (hp : RdI w pv o.n o.F) (hG : GlobW w) (h0 : chkO (o.byA (grp.pw 4 a)).bare = 0) :
    Calls Tryz.prog 23 #[.int .u32 (a : Int), .agg (o.c pv)] w fun e w' => ∃ qv, e = .returned (.tuple #[.agg ((o.sigd (grp.pw 4 a) (eN a (msgB (o.byA (grp.pw 4 a)))) (sN a (msgB (o.byA (grp.pw 4 a))))).c qv), .int .i64 0]) ∧ HeldI w.heap.size w' qv o.n o.F ∧ Below w.heap.size w w' := by
  obtain ⟨W, hW⟩ : ∃ W, W = (w.alloc (.cells (o.c pv) 32)).alloc (.cells (zO.c (.slice none 0 0)) 32) := ⟨_, rfl⟩
  have hr0 : W.heap[w.heap.size]? = some (.cells (o.c pv) 32 (0, 0)) := by rw [hW]; exact rowB (heap_alloc_new w _) (below_a _ _) (by simp)
  have hr1 : W.heap[w.heap.size + 1]? = some (.cells (zO.c (.slice none 0 0)) 32 (0, 0)) := by rw [hW]; exact hn2 w _ _
  have hb0 : Below w.heap.size w W := by rw [hW]; exact ((Below.refl w.heap.size w).alloc (Nat.le_refl _) _).alloc (by simp) _
  obtain ⟨pa, pc, rfl⟩ := hp.slice
  have hb1 := Lib.hid hb0
  have hrow := Lib.hid hr0
  have hres := Lib.hid hr1
  have hlt := Lib.hid (Array.getElem?_eq_some_iff.1 hr0).1
  have hlt1 := Lib.hid (Array.getElem?_eq_some_iff.1 hr1).1
  have hp1 := Lib.hid (hp.mono hb0)
  have hP := Lib.hid (fun wz => public_ok a h wz)
  have hpw := Lib.hid hp
  have hlF := Lib.hid hp.len
  generalize hy : grp.pw 4 a = y at *
  have hyu : y < 4294967296 := by rw [← hy]; exact pw_u32 4 a
  have hf0 := frozen_of_row W w.heap.size 0 _ _ hr0
  have hc0 : W.cell? ⟨w.heap.size, 0, none⟩ = some (.int .u32 (o.au : Int)) := by rw [cell_of_row _ _ _ _ _ _ hr0]; rfl
  have hM := Lib.hid (fun (wz : World) (hb : Below w.heap.size w wz) => (opMessage_any (o.byA y) (fit_by fo y hyu) (.slice pa o.n pc) wz (hpw.out.mono hb)).mono (fun e w' hq => show ∃ sv, e = .returned (.tuple #[sv, .int .i64 0]) ∧ RdB w' sv (msgB (o.byA y)) ∧ Below wz.heap.size wz w' from by have h1 := hq.1; rw [if_pos h0] at h1; obtain ⟨sv, h2, h3⟩ := h1; exact ⟨sv, h2, h3.rd, hq.2⟩))
  have hSg := Lib.hid (fun (wz : World) (v : Value) (hb : Below w.heap.size w wz) (hv : RdB wz v (msgB (o.byA y))) => sign_ok a h v (msgB (o.byA y)) wz hv (msgB_bytes (o.byA y) (fit_by fo y hyu) (chk_zero h0).1 (chk_zero h0).2.2) (Nat.le_trans (msgB_short (o.byA y) (fit_by fo y hyu) (chk_zero h0).1 hlF.out (chk_zero h0).2.2) (by decide)) (hG.mono hb))
  have hn20 : o.n ≤ 20 := Nat.le_trans (chk_zero h0).1 (by decide)
  have hCp := Lib.hid (fun (e s : Nat) (wz : World) (hb : Below w.heap.size w wz) => copied_any (o.sigd y e s) hn20 fo.key fo.v.s (.slice pa o.n pc) wz (hpw.out.mono hb))
  have hml := Lib.hid (show ∃ N, (msgB (o.byA y)).length = N from ⟨_, rfl⟩)
  generalize eN a (msgB (o.byA y)) = E at *
  generalize sN a (msgB (o.byA y)) = S at *
  generalize msgB (o.byA y) = MB at *
  clear hr0 hr1 hb0 hp fo hG h hy h0 hn20 hlF
  go_enter Tryz.func23, Tryz.ntmps23
  go_upto_region 1 with fail
  change Code.wp _ _ _ _ ((w.alloc (.cells (o.c (.slice pa o.n pc)) 32)).alloc (.cells (zO.c (.slice none 0 0)) 32))
  rw [← hW]
  clear hW
  go_upto_region 4 with (go_at_call 55; (with_reducible refine (hP.out _).mono ?_); rintro e w3 ⟨rfl, q2⟩; have hB := Lib.hid (hb1.out.trans (Below.mono q2 hb1.out.size)); have hr := Lib.hid (rowB hrow.out q2 hlt.out); have hs := Lib.hid (rowB hres.out q2 hlt1.out); clear q2 hc0 hf0)
  have f0 := frozen_of_row w3 w.heap.size 0 _ _ hr.out
  have d0 : w3.cell? ⟨w.heap.size, 0, none⟩ = some (.int .u32 (o.au : Int)) := by rw [cell_of_row _ _ _ _ _ _ hr.out]; rfl
  have hset := Lib.hid (set_au hr.out y)
  go_upto_region 5 with fail
  rw [hset.out]
  clear hset f0 d0
  replace hs := Lib.hid ((setRow_other w3 w.heap.size (w.heap.size + 1) ((o.byA y).c (.slice pa o.n pc)) (by omega)).trans hs.out)
  replace hr := Lib.hid (setRow_heap w3 w.heap.size _ ((o.byA y).c (.slice pa o.n pc)) _ _ hr.out)
  replace hB := Lib.hid (show Below w.heap.size w (w3.setRow w.heap.size ((o.byA y).c (.slice pa o.n pc))) from below_setRow' hB.out (Nat.le_refl _) _)
  generalize w3.setRow w.heap.size ((o.byA y).c (.slice pa o.n pc)) = w4 at *
  go_upto_region 8 with (first
    | (refine wpList_load_row_g rfl 32 _ rfl w.heap.size rfl 32 ((o.byA y).c (.slice pa o.n pc)) (0, 0) _ hr.out Tryz.underlying32 rfl info_op ?_)
    | (go_at_call 29; (with_reducible refine (hM.out _ hB.out).mono ?_); rintro e w5 ⟨sv, rfl, q1, q2⟩; replace hr := Lib.hid (rowB hr.out q2 (Array.getElem?_eq_some_iff.1 hr.out).1); replace hs := Lib.hid (rowB hs.out q2 (Array.getElem?_eq_some_iff.1 hs.out).1); replace hB := Lib.hid (hB.out.trans (Below.mono q2 hB.out.size)); have hO := Lib.hid q1; obtain ⟨ma, mc, hz⟩ := hO.out.slice; subst hz; clear q1 q2))
  go_wp2_with (go_at_call 56; (with_reducible refine (hSg.out _ _ hB.out hO.out).mono ?_); rintro e w6 ⟨rfl, q2⟩; replace hr := Lib.hid (rowB hr.out q2 (Array.getElem?_eq_some_iff.1 hr.out).1); replace hs := Lib.hid (rowB hs.out q2 (Array.getElem?_eq_some_iff.1 hs.out).1); replace hB := Lib.hid (hB.out.trans (Below.mono q2 hB.out.size)); have g9 := frozen_of_row w6 w.heap.size 9 _ _ hr.out; have g10 := frozen_of_row w6 w.heap.size 10 _ _ hr.out; have hx := (cellsO hr.out); have x9 := hx.2.2.2.2.2.1; have x10 := hx.2.2.2.2.2.2; have hset := Lib.hid (set_es (o := o) y E S hr.out); clear q2 hx; refine Stop.go'' _ ?_)
  refine StopP.go ?_
  go_upto_region 9 with fail
  rw [hset.out]
  clear hset g9 g10 x9 x10
  replace hs := Lib.hid ((setRow_other w6 w.heap.size (w.heap.size + 1) ((o.sigd y E S).c (.slice pa o.n pc)) (by omega)).trans hs.out)
  replace hr := Lib.hid (setRow_heap w6 w.heap.size _ ((o.sigd y E S).c (.slice pa o.n pc)) _ _ hr.out)
  replace hB := Lib.hid (show Below w.heap.size w (w6.setRow w.heap.size ((o.sigd y E S).c (.slice pa o.n pc))) from below_setRow' hB.out (Nat.le_refl _) _)
  generalize w6.setRow w.heap.size ((o.sigd y E S).c (.slice pa o.n pc)) = w7 at *
  have hl7 := Lib.hid (Array.getElem?_eq_some_iff.1 hs.out).1
  go_wp2_with (first
    | (refine wpList_load_row_g rfl 32 _ rfl w.heap.size rfl 32 ((o.sigd y E S).c (.slice pa o.n pc)) (0, 0) _ hr.out Tryz.underlying32 rfl info_op ?_)
    | (go_at_call 57; (with_reducible refine (hCp.out E S _ hB.out).mono ?_); rintro e w8 ⟨qv, rfl, q1, q2⟩; replace hr := Lib.hid (rowB hr.out q2 (Array.getElem?_eq_some_iff.1 hr.out).1); replace hs := Lib.hid (rowB hs.out q2 (Array.getElem?_eq_some_iff.1 hs.out).1); replace hB := Lib.hid (hB.out.trans (Below.mono q2 hB.out.size)); have hq := Lib.hid q1; obtain ⟨qa, qc, hz⟩ := hq.out.rd.slice; subst hz; clear q1 q2)
    | (refine wpList_store_row rfl 32 _ _ rfl (w.heap.size + 1) ((o.sigd y E S).c (.slice qa o.n qc)) rfl rfl 32 _ hs.out info_op rfl (op_one (o.sigd y E S) _ _ _) ?_))
  exact bodyPost_ret (results_row_tmp rfl _ _ (w.heap.size + 1) 32 _ _ _ rfl (setRow_heap _ _ _ _ _ _ hs.out) Tryz.underlying32 rfl info_op) rfl ⟨_, rfl, heldI_lower (heldI_own (ownI_setRow hq.out hl7.out _)) (Nat.le_of_lt (Nat.lt_trans (Nat.lt_succ_self _) hl7.out)), below_setRow' hB.out (by omega) _⟩
set_option maxHeartbeats 8000000 in
set_option maxRecDepth 100000 in
theorem rSign_arg (a : Nat) (ha : a < 4294967296) (o : Od) (fo : o.Fit) (pv : Value) (w : World) (hp : RdI w pv o.n o.F) (h : ¬ (1 ≤ a ∧ a < 500000003)) :
    Calls Tryz.prog 24 #[.int .u32 (a : Int), .agg (o.c pv)] w fun e w' => e = .returned (.tuple #[.agg (zO.c (.slice none 0 0)), .int .i64 2]) ∧ Below w.heap.size w w' := by
  obtain ⟨pa, pc, rfl⟩ := hp.slice
  obtain ⟨W, hW⟩ : ∃ W, W = (w.alloc (.cells (o.c (.slice pa o.n pc)) 32)).alloc (.cells (zO.c (.slice none 0 0)) 32) := ⟨_, rfl⟩
  have hS := Lib.hid (show Below w.heap.size w W by rw [hW]; exact ((Below.refl w.heap.size w).alloc (Nat.le_refl _) _).alloc (by simp) _)
  have r3 := Lib.hid (show W.heap[w.heap.size]? = some (.cells (o.c (.slice pa o.n pc)) 32 (0, 0)) by rw [hW]; exact rowA w _ _)
  have r4 := Lib.hid (show W.heap[w.heap.size + 1]? = some (.cells (zO.c (.slice none 0 0)) 32 (0, 0)) by rw [hW]; exact hn2 w _ _)
  have pw := Lib.hid hp
  have hlF := hp.len
  clear hp
  have hk := Lib.hid (fun wz => rcheck_bad a ha h wz)
  clear h fo hlF
  go_enter Tryz.func24, Tryz.ntmps24
  go_upto_region 1 with fail
  change Code.wp _ _ _ _ ((w.alloc (.cells (o.c (.slice pa o.n pc)) 32)).alloc (.cells (zO.c (.slice none 0 0)) 32))
  rw [← hW]
  clear hW
  go_wp2_with (first | (go_at_call 58; (with_reducible refine (hk.out _).mono ?_); rintro e9 w4 ⟨rfl, rfl⟩) | (refine storeOver _ (w.heap.size + 1) _ rfl 32 _ _ rfl (zO.c (.slice none 0 0)) 32 r4.out rfl rfl info_op rfl (op_one zO _ _ _) ?_; intro w9 hr9 hb9; have hr9' := Lib.hid hr9; have hb9' := Lib.hid hb9; clear hr9 hb9))
  exact bodyPost_ret (results_row_tmp rfl _ _ (w.heap.size + 1) 32 _ _ _ rfl hr9'.out Tryz.underlying32 rfl info_op) rfl ⟨rfl, hS.out.trans (hb9'.out.mono (Nat.le_succ _))⟩
set_option maxHeartbeats 8000000 in
set_option maxRecDepth 100000 in
theorem rSign_bad (a : Nat) (ha : a < 4294967296) (o : Od) (fo : o.Fit) (pv : Value) (w : World) (hp : RdI w pv o.n o.F) (hn20 : o.n ≤ 20) (h : 1 ≤ a ∧ a < 500000003) (h0 : chkO (o.byA (grp.pw 4 a)).bare ≠ 0) :
    Calls Tryz.prog 24 #[.int .u32 (a : Int), .agg (o.c pv)] w fun e w' => e = .returned (.tuple #[.agg (zO.c (.slice none 0 0)), .int .i64 (chkO (o.byA (grp.pw 4 a)).bare)]) ∧ Below w.heap.size w w' := by
  obtain ⟨pa, pc, rfl⟩ := hp.slice
  obtain ⟨W, hW⟩ : ∃ W, W = (w.alloc (.cells (o.c (.slice pa o.n pc)) 32)).alloc (.cells (zO.c (.slice none 0 0)) 32) := ⟨_, rfl⟩
  have hS := Lib.hid (show Below w.heap.size w W by rw [hW]; exact ((Below.refl w.heap.size w).alloc (Nat.le_refl _) _).alloc (by simp) _)
  have r3 := Lib.hid (show W.heap[w.heap.size]? = some (.cells (o.c (.slice pa o.n pc)) 32 (0, 0)) by rw [hW]; exact rowA w _ _)
  have r4 := Lib.hid (show W.heap[w.heap.size + 1]? = some (.cells (zO.c (.slice none 0 0)) 32 (0, 0)) by rw [hW]; exact hn2 w _ _)
  have pw := Lib.hid hp
  have hlF := hp.len
  clear hp
  have hk := Lib.hid (fun wz => rcheck_ok a h wz)
  have hky := Lib.hid (fun wz => rkey_any a ha wz)
  have hba := Lib.hid (fun (wz : World) (h : RdI wz (.slice pa o.n pc) o.n o.F) => bare_any o (.slice pa o.n pc) wz h)
  have htw := Lib.hid (fun (wz : World) (h : RdI wz (.slice pa o.n pc) o.n o.F) => twin_own o.bare hn20 (.slice pa o.n pc) wz h)
  have hck := Lib.hid (fun (wz : World) (v : Value) (h : RdI wz v o.n o.F) => ropCheck_any (o.bare.byA (grp.pw 4 a)) (fit_by fo.bare _ (pw_u32 4 a)) v wz h)
  have hyu := pw_u32 4 a
  generalize grp.pw 4 a = y at *
  go_enter Tryz.func24, Tryz.ntmps24
  go_upto_region 1 with fail
  change Code.wp _ _ _ _ ((w.alloc (.cells (o.c (.slice pa o.n pc)) 32)).alloc (.cells (zO.c (.slice none 0 0)) 32))
  rw [← hW]
  clear hW
  go_upto_region 4 with (first | (go_at_call 58; (with_reducible refine (hk.out _).mono ?_); rintro e9 w4 ⟨rfl, rfl⟩) | (refine wpList_load_row_g rfl 32 _ rfl w.heap.size rfl 32 (o.c (.slice pa o.n pc)) (0, 0) _ r3.out Tryz.underlying32 rfl info_op ?_) | (go_at_call 59; (with_reducible refine (hba.out _ (pw.out.mono hS.out)).mono ?_); rintro e9 w4 ⟨rfl, q2⟩; (try replace r3 := Lib.hid (rowB r3.out q2 (Array.getElem?_eq_some_iff.1 r3.out).1)); (try replace r4 := Lib.hid (rowB r4.out q2 (Array.getElem?_eq_some_iff.1 r4.out).1)); replace hS := Lib.hid (hS.out.trans (Below.mono q2 hS.out.size)); clear q2) | (go_at_call 21; (with_reducible refine (htw.out _ (pw.out.mono hS.out)).mono ?_); rintro e9 w4 ⟨qv, rfl, q1, q2⟩; have hSz := Lib.hid hS.out.size; (try replace r3 := Lib.hid (rowB r3.out q2 (Array.getElem?_eq_some_iff.1 r3.out).1)); (try replace r4 := Lib.hid (rowB r4.out q2 (Array.getElem?_eq_some_iff.1 r4.out).1)); replace hS := Lib.hid (hS.out.trans (Below.mono q2 hS.out.size)); have xQ := Lib.hid (q1.mono hSz.out); obtain ⟨qa, qc, hqv⟩ := q1.rd.slice; subst hqv; clear q1 hSz; clear q2) | (refine storeNew _ rfl 32 _ _ rfl (o.bare.c (.slice qa o.n qc)) 32 rfl rfl info_op rfl (op_one o.bare qa o.n qc) ?_; intro wx hrx hbx; have hl40 := Lib.hid (Array.getElem?_eq_some_iff.1 r4.out).1; (try replace r3 := Lib.hid (rowB r3.out hbx (Array.getElem?_eq_some_iff.1 r3.out).1)); (try replace r4 := Lib.hid (rowB r4.out hbx (Array.getElem?_eq_some_iff.1 r4.out).1)); replace hS := Lib.hid (hS.out.trans (Below.mono hbx hS.out.size)); have xQ2 := Lib.hid (xQ.out.kept hbx); have r6 := Lib.hid hrx; have hl4 := Lib.hid (show w.heap.size + 1 < w4.heap.size from hl40.out); clear hrx hbx))
  clear xQ
  have xQ := xQ2
  clear xQ2
  have g6d : ∃ g6, g6 = w4.heap.size := ⟨_, rfl⟩
  obtain ⟨g6, hg6⟩ := g6d
  have hg6s := Lib.hid (show w.heap.size + 1 < g6 from by rw [hg6]; exact hl4.out)
  rw [← hg6] at r6 ⊢
  clear hg6
  have y0 := frozen_of_row wx g6 0 _ _ r6.out
  have z0 : wx.cell? ⟨g6, 0, none⟩ = some (.int .u32 (o.au : Int)) := by rw [cell_of_row _ _ _ _ _ _ r6.out]; rfl
  go_upto_region 5 with (go_at_call 60; (with_reducible refine (hky.out _).mono ?_); rintro e9 w5 ⟨rfl, rfl⟩)
  rw [set_au r6.out y]
  have t6 := Lib.hid (setRow_heap _ _ _ ((o.bare.byA y).c (.slice qa o.n qc)) _ _ r6.out)
  have t3 := Lib.hid ((setRow_other w5 g6 w.heap.size ((o.bare.byA y).c (.slice qa o.n qc)) (by have := hg6s.out; omega)).trans r3.out)
  have t4 := Lib.hid ((setRow_other w5 g6 (w.heap.size + 1) ((o.bare.byA y).c (.slice qa o.n qc)) (by have := hg6s.out; omega)).trans r4.out)
  have tS := Lib.hid (show Below w.heap.size w (w5.setRow g6 ((o.bare.byA y).c (.slice qa o.n qc))) from below_setRow' hS.out (Nat.le_of_lt (Nat.lt_of_succ_lt hg6s.out)) _)
  have tQ := Lib.hid (show OwnI w.heap.size 42 (w5.setRow g6 ((o.bare.byA y).c (.slice qa o.n qc))) (.slice qa o.n qc) o.n o.F from own_setRow xQ.out r6.out (by decide) _)
  clear r3 r4 r6 hS xQ y0 z0 hl4
  generalize w5.setRow g6 ((o.bare.byA y).c (.slice qa o.n qc)) = wv at *
  have r3 := t3
  have r4 := t4
  have r6 := t6
  have hS := tS
  have xQ := tQ
  clear t3 t4 t6 tS tQ
  have hcb : (chkO (o.byA y).bare != 0) = true := by simpa using h0
  have hce : chkO (o.bare.byA y) = chkO (o.byA y).bare := rfl
  rw [hce] at hck
  obtain ⟨CK, hCK⟩ : ∃ C, chkO (o.byA y).bare = C := ⟨_, rfl⟩
  rw [hCK] at hck hcb
  have hCKh := Lib.hid hCK
  clear h0 hce fo hlF hyu hCK
  go_wp2_with (first | (refine wpList_load_row_g rfl 32 _ rfl g6 rfl 32 ((o.bare.byA y).c (.slice qa o.n qc)) (0, 0) _ r6.out Tryz.underlying32 rfl info_op ?_) | (go_at_call 44; (with_reducible refine (hck.out _ _ xQ.out.rd).mono ?_); rintro e9 w4 ⟨rfl, q2⟩; replace xQ := Lib.hid (xQ.out.kept q2); (try replace r3 := Lib.hid (rowB r3.out q2 (Array.getElem?_eq_some_iff.1 r3.out).1)); (try replace r4 := Lib.hid (rowB r4.out q2 (Array.getElem?_eq_some_iff.1 r4.out).1)); (try replace r6 := Lib.hid (rowB r6.out q2 (Array.getElem?_eq_some_iff.1 r6.out).1)); replace hS := Lib.hid (hS.out.trans (Below.mono q2 hS.out.size)); clear q2) | (refine storeOver _ (w.heap.size + 1) _ rfl 32 _ _ rfl (zO.c (.slice none 0 0)) 32 r4.out rfl rfl info_op rfl (op_one zO _ _ _) ?_; intro w9 hr9 hb9; have hr9' := Lib.hid hr9; have hb9' := Lib.hid hb9; clear hr9 hb9))
  exact bodyPost_ret (results_row_tmp rfl _ _ (w.heap.size + 1) 32 _ _ _ rfl hr9'.out Tryz.underlying32 rfl info_op) rfl ⟨by exact congrArg (fun c => Ending.returned (Value.tuple #[.agg (zO.c (.slice none 0 0)), .int .i64 c])) hCKh.out.symm, hS.out.trans (hb9'.out.mono (Nat.le_succ _))⟩
theorem own_row (x : Od) (y E S : Nat) : ((x.bare.byA y).sg E S) = x.sigd y E S := rfl
set_option maxHeartbeats 8000000 in
set_option maxRecDepth 100000 in
theorem rSign_ok (a : Nat) (ha : a < 4294967296) (o : Od) (fo : o.Fit) (pv : Value) (w : World) (hp : RdI w pv o.n o.F) (h : 1 ≤ a ∧ a < 500000003) (h0 : chkO (o.byA (grp.pw 4 a)).bare = 0) :
    Calls Tryz.prog 24 #[.int .u32 (a : Int), .agg (o.c pv)] w fun e w' => ∃ qv, e = .returned (.tuple #[.agg ((o.sigd (grp.pw 4 a) (eN a (msgB (o.byA (grp.pw 4 a)))) (sN a (msgB (o.byA (grp.pw 4 a))))).c qv), .int .i64 0]) ∧ HeldI w.heap.size w' qv o.n o.F ∧ Below w.heap.size w w' := by
  obtain ⟨pa, pc, rfl⟩ := hp.slice
  obtain ⟨W, hW⟩ : ∃ W, W = (w.alloc (.cells (o.c (.slice pa o.n pc)) 32)).alloc (.cells (zO.c (.slice none 0 0)) 32) := ⟨_, rfl⟩
  have hS := Lib.hid (show Below w.heap.size w W by rw [hW]; exact ((Below.refl w.heap.size w).alloc (Nat.le_refl _) _).alloc (by simp) _)
  have r3 := Lib.hid (show W.heap[w.heap.size]? = some (.cells (o.c (.slice pa o.n pc)) 32 (0, 0)) by rw [hW]; exact rowA w _ _)
  have r4 := Lib.hid (show W.heap[w.heap.size + 1]? = some (.cells (zO.c (.slice none 0 0)) 32 (0, 0)) by rw [hW]; exact hn2 w _ _)
  have pw := Lib.hid hp
  have hlF := hp.len
  clear hp
  have hn20 : o.n ≤ 20 := Nat.le_trans (chk_zero h0).1 (by decide)
  have hk := Lib.hid (fun wz => rcheck_ok a h wz)
  have hky := Lib.hid (fun wz => rkey_any a ha wz)
  have hba := Lib.hid (fun (wz : World) (h : RdI wz (.slice pa o.n pc) o.n o.F) => bare_any o (.slice pa o.n pc) wz h)
  have htw := Lib.hid (fun (wz : World) (h : RdI wz (.slice pa o.n pc) o.n o.F) => twin_own o.bare hn20 (.slice pa o.n pc) wz h)
  have hck := Lib.hid (fun (wz : World) (v : Value) (h : RdI wz v o.n o.F) => ropCheck_any (o.bare.byA (grp.pw 4 a)) (fit_by fo.bare _ (pw_u32 4 a)) v wz h)
  have hce : chkO (o.bare.byA (grp.pw 4 a)) = 0 := h0
  rw [hce] at hck
  have htx := Lib.hid (fun (wz : World) (v : Value) (h : RdI wz v o.n o.F) => (show Calls Tryz.prog 62 #[.agg ((o.bare.byA (grp.pw 4 a)).c v)] wz fun e w' => ∃ sv, e = .returned sv ∧ OwnB wz.heap.size 5 w' sv (msgB (o.byA (grp.pw 4 a))) ∧ Below wz.heap.size wz w' from rmsg_any (o.bare.byA (grp.pw 4 a)) (fit_by fo.bare _ (pw_u32 4 a)) (chk_zero h0).1 (chk_zero h0).2.2 v wz h))
  have hsn := Lib.hid (fun (wz : World) (v : Value) (hv : RdB wz v (msgB (o.byA (grp.pw 4 a)))) => rsigned_any0 a h v (msgB (o.byA (grp.pw 4 a))) wz hv (msgB_bytes (o.byA (grp.pw 4 a)) (fit_by fo _ (pw_u32 4 a)) (chk_zero h0).1 (chk_zero h0).2.2) (Nat.le_trans (msgB_short (o.byA (grp.pw 4 a)) (fit_by fo _ (pw_u32 4 a)) (chk_zero h0).1 hlF (chk_zero h0).2.2) (by decide)))
  generalize eN a (msgB (o.byA (grp.pw 4 a))) = E at *
  generalize sN a (msgB (o.byA (grp.pw 4 a))) = S at *
  generalize msgB (o.byA (grp.pw 4 a)) = MB at *
  clear h0 hce hlF
  have hyu := pw_u32 4 a
  generalize grp.pw 4 a = y at *
  go_enter Tryz.func24, Tryz.ntmps24
  go_upto_region 1 with fail
  change Code.wp _ _ _ _ ((w.alloc (.cells (o.c (.slice pa o.n pc)) 32)).alloc (.cells (zO.c (.slice none 0 0)) 32))
  rw [← hW]
  clear hW
  go_upto_region 4 with (first | (go_at_call 58; (with_reducible refine (hk.out _).mono ?_); rintro e9 w4 ⟨rfl, rfl⟩) | (refine wpList_load_row_g rfl 32 _ rfl w.heap.size rfl 32 (o.c (.slice pa o.n pc)) (0, 0) _ r3.out Tryz.underlying32 rfl info_op ?_) | (go_at_call 59; (with_reducible refine (hba.out _ (pw.out.mono hS.out)).mono ?_); rintro e9 w4 ⟨rfl, q2⟩; (try replace r3 := Lib.hid (rowB r3.out q2 (Array.getElem?_eq_some_iff.1 r3.out).1)); (try replace r4 := Lib.hid (rowB r4.out q2 (Array.getElem?_eq_some_iff.1 r4.out).1)); replace hS := Lib.hid (hS.out.trans (Below.mono q2 hS.out.size)); clear q2) | (go_at_call 21; (with_reducible refine (htw.out _ (pw.out.mono hS.out)).mono ?_); rintro e9 w4 ⟨qv, rfl, q1, q2⟩; have hSz := Lib.hid hS.out.size; (try replace r3 := Lib.hid (rowB r3.out q2 (Array.getElem?_eq_some_iff.1 r3.out).1)); (try replace r4 := Lib.hid (rowB r4.out q2 (Array.getElem?_eq_some_iff.1 r4.out).1)); replace hS := Lib.hid (hS.out.trans (Below.mono q2 hS.out.size)); have xQ := Lib.hid (q1.mono hSz.out); obtain ⟨qa, qc, hqv⟩ := q1.rd.slice; subst hqv; clear q1 hSz; clear q2) | (refine storeNew _ rfl 32 _ _ rfl (o.bare.c (.slice qa o.n qc)) 32 rfl rfl info_op rfl (op_one o.bare qa o.n qc) ?_; intro wx hrx hbx; have hl40 := Lib.hid (Array.getElem?_eq_some_iff.1 r4.out).1; (try replace r3 := Lib.hid (rowB r3.out hbx (Array.getElem?_eq_some_iff.1 r3.out).1)); (try replace r4 := Lib.hid (rowB r4.out hbx (Array.getElem?_eq_some_iff.1 r4.out).1)); replace hS := Lib.hid (hS.out.trans (Below.mono hbx hS.out.size)); have xQ2 := Lib.hid (xQ.out.kept hbx); have r6 := Lib.hid hrx; have hl4 := Lib.hid (show w.heap.size + 1 < w4.heap.size from hl40.out); clear hrx hbx))
  clear xQ
  have xQ := xQ2
  clear xQ2
  have g6d : ∃ g6, g6 = w4.heap.size := ⟨_, rfl⟩
  obtain ⟨g6, hg6⟩ := g6d
  have hg6s := Lib.hid (show w.heap.size + 1 < g6 from by rw [hg6]; exact hl4.out)
  rw [← hg6] at r6 ⊢
  clear hg6
  have y0 := frozen_of_row wx g6 0 _ _ r6.out
  have z0 : wx.cell? ⟨g6, 0, none⟩ = some (.int .u32 (o.au : Int)) := by rw [cell_of_row _ _ _ _ _ _ r6.out]; rfl
  go_upto_region 5 with (go_at_call 60; (with_reducible refine (hky.out _).mono ?_); rintro e9 w5 ⟨rfl, rfl⟩)
  rw [set_au r6.out y]
  have t6 := Lib.hid (setRow_heap _ _ _ ((o.bare.byA y).c (.slice qa o.n qc)) _ _ r6.out)
  have t3 := Lib.hid ((setRow_other w5 g6 w.heap.size ((o.bare.byA y).c (.slice qa o.n qc)) (by have := hg6s.out; omega)).trans r3.out)
  have t4 := Lib.hid ((setRow_other w5 g6 (w.heap.size + 1) ((o.bare.byA y).c (.slice qa o.n qc)) (by have := hg6s.out; omega)).trans r4.out)
  have tS := Lib.hid (show Below w.heap.size w (w5.setRow g6 ((o.bare.byA y).c (.slice qa o.n qc))) from below_setRow' hS.out (Nat.le_of_lt (Nat.lt_of_succ_lt hg6s.out)) _)
  have tQ := Lib.hid (show OwnI w.heap.size 42 (w5.setRow g6 ((o.bare.byA y).c (.slice qa o.n qc))) (.slice qa o.n qc) o.n o.F from own_setRow xQ.out r6.out (by decide) _)
  clear r3 r4 r6 hS xQ y0 z0 hl4
  generalize w5.setRow g6 ((o.bare.byA y).c (.slice qa o.n qc)) = wv at *
  have r3 := t3
  have r4 := t4
  have r6 := t6
  have hS := tS
  have xQ := tQ
  clear t3 t4 t6 tS tQ
  clear hyu fo
  go_upto_region 7 with (first | (refine wpList_load_row_g rfl 32 _ rfl g6 rfl 32 ((o.bare.byA y).c (.slice qa o.n qc)) (0, 0) _ r6.out Tryz.underlying32 rfl info_op ?_) | (go_at_call 44; (with_reducible refine (hck.out _ _ xQ.out.rd).mono ?_); rintro e9 w4 ⟨rfl, q2⟩; replace xQ := Lib.hid (xQ.out.kept q2); (try replace r3 := Lib.hid (rowB r3.out q2 (Array.getElem?_eq_some_iff.1 r3.out).1)); (try replace r4 := Lib.hid (rowB r4.out q2 (Array.getElem?_eq_some_iff.1 r4.out).1)); (try replace r6 := Lib.hid (rowB r6.out q2 (Array.getElem?_eq_some_iff.1 r6.out).1)); replace hS := Lib.hid (hS.out.trans (Below.mono q2 hS.out.size)); clear q2))
  go_upto_region 8 with (first | (refine wpList_load_row_g rfl 32 _ rfl g6 rfl 32 ((o.bare.byA y).c (.slice qa o.n qc)) (0, 0) _ r6.out Tryz.underlying32 rfl info_op ?_) | (go_at_call 62; (with_reducible refine (htx.out _ _ xQ.out.rd).mono ?_); rintro e9 w4 ⟨sv, rfl, q1, q2⟩; replace xQ := Lib.hid (xQ.out.kept q2); (try replace r3 := Lib.hid (rowB r3.out q2 (Array.getElem?_eq_some_iff.1 r3.out).1)); (try replace r4 := Lib.hid (rowB r4.out q2 (Array.getElem?_eq_some_iff.1 r4.out).1)); (try replace r6 := Lib.hid (rowB r6.out q2 (Array.getElem?_eq_some_iff.1 r6.out).1)); replace hS := Lib.hid (hS.out.trans (Below.mono q2 hS.out.size)); have xB := Lib.hid q1.rd; obtain ⟨ma, mc, hsv⟩ := xB.out.slice; subst hsv; clear q1; clear q2) | (go_at_call 61; (with_reducible refine (hsn.out _ _ xB.out).mono ?_); rintro e9 w4 ⟨rfl, q2⟩; replace xQ := Lib.hid (xQ.out.kept q2); (try replace r3 := Lib.hid (rowB r3.out q2 (Array.getElem?_eq_some_iff.1 r3.out).1)); (try replace r4 := Lib.hid (rowB r4.out q2 (Array.getElem?_eq_some_iff.1 r4.out).1)); (try replace r6 := Lib.hid (rowB r6.out q2 (Array.getElem?_eq_some_iff.1 r6.out).1)); replace hS := Lib.hid (hS.out.trans (Below.mono q2 hS.out.size)); have g9 := frozen_of_row w4 g6 9 _ _ r6.out; have g10 := frozen_of_row w4 g6 10 _ _ r6.out; obtain ⟨x9, x10⟩ := (cellsO r6.out).2.2.2.2.2; clear q2))
  rw [setSg E S r6.out]
  have t6 := Lib.hid (show (w4.setRow g6 ((o.sigd y E S).c (.slice qa o.n qc))).heap[g6]? = some (.cells ((o.sigd y E S).c (.slice qa o.n qc)) 32 (0, 0)) from setRow_heap _ _ _ _ _ _ r6.out)
  have t4 := Lib.hid ((setRow_other w4 g6 (w.heap.size + 1) ((o.sigd y E S).c (.slice qa o.n qc)) (by have := hg6s.out; omega)).trans r4.out)
  have tS := Lib.hid (show Below w.heap.size w (w4.setRow g6 ((o.sigd y E S).c (.slice qa o.n qc))) from below_setRow' hS.out (Nat.le_of_lt (Nat.lt_of_succ_lt hg6s.out)) _)
  have tQ := Lib.hid (show OwnI w.heap.size 42 (w4.setRow g6 ((o.sigd y E S).c (.slice qa o.n qc))) (.slice qa o.n qc) o.n o.F from own_setRow xQ.out r6.out (by decide) _)
  have tQ2 := Lib.hid (own_setRow tQ.out t4.out (by decide) ((o.sigd y E S).c (.slice qa o.n qc)))
  change Code.wp _ _ _ _ (w4.setRow g6 ((o.sigd y E S).c (.slice qa o.n qc)))
  clear r3 r4 r6 hS xQ g9 g10 x9 x10
  generalize w4.setRow g6 ((o.sigd y E S).c (.slice qa o.n qc)) = wv at *
  go_wp2_with (first | (refine wpList_load_row_g rfl 32 _ rfl g6 rfl 32 ((o.sigd y E S).c (.slice qa o.n qc)) (0, 0) _ t6.out Tryz.underlying32 rfl info_op ?_) | (refine wpList_store_row rfl 32 _ _ rfl (w.heap.size + 1) ((o.sigd y E S).c (.slice qa o.n qc)) rfl rfl 32 _ t4.out info_op rfl (op_one (o.sigd y E S) qa o.n qc) ?_))
  exact bodyPost_ret (results_row_tmp rfl _ _ (w.heap.size + 1) 32 _ _ _ rfl (setRow_heap _ _ _ _ _ _ t4.out) Tryz.underlying32 rfl info_op) rfl ⟨_, rfl, heldI_own tQ2.out, below_setRow' tS.out (Nat.le_succ _) _⟩
end Go.Proofs.YtoknefeciopdpaaGreatDoor.wir.val
namespace Go.Proofs.YtoknefeciopdpaaGreatDoor.wir.val
open Go.RowKit Go.YtoknefeciopdpaaGreatDoor
set_option linter.unusedVariables false
/-- The bytes that the law changes: each cell is a byte, and nothing else has turned. -/
def Churned (g LB : Nat) (T : TypeId) (w wr : World) : Prop := (∀ j, j ≠ g → wr.heap[j]? = w.heap[j]?) ∧ wr.heap.size = w.heap.size ∧ ∃ cs, wr.heap[g]? = some (.cells cs T (0, 0)) ∧ ∀ i, i < LB → ∃ x, cs[i]? = some (.int .u8 x)
theorem churned_set {g LB : Nat} {T : TypeId} {w wr : World} (h : Churned g LB T w wr) (k : Nat) (y : Int) : Churned g LB T w (wr.setCell ⟨g, k, none⟩ (.int .u8 y)) := by
  obtain ⟨h1, h2, cs, h3, h4⟩ := h
  refine ⟨fun j hj => (setCell_rows _ _ _ _ hj).trans (h1 j hj), by simp [World.setCell, h2], _, setCell_row h3 k _, fun i hi => ?_⟩
  obtain ⟨x, hx⟩ := h4 i hi
  rw [Array.getElem?_setIfInBounds]
  split
  · split
    · exact ⟨y, rfl⟩
    · rename_i h5 h6
      subst h5
      rw [Array.getElem?_eq_none (by omega)] at hx; cases hx
  · exact ⟨x, hx⟩
theorem churned_drew {g LB : Nat} {T : TypeId} {w wr : World} (h : Churned g LB T w wr) : Churned g LB T w wr.drew := h
theorem own_churned {B g LB n : Nat} {E T : TypeId} {w wr : World} {v : Value} {F : List Int} (h : OwnI B E w v n F) (k : Hid (Churned g LB T w wr)) (hne : some g ≠ v.ownBlock) : OwnI B E wr v n F := by
  refine ⟨h.1, ?_⟩
  rcases h.2 with hn | ⟨j, cap, cur, rfl, hbg, hk, rest⟩
  · exact .inl hn
  · exact .inr ⟨j, cap, cur, rfl, hbg, (k.out.1 j (fun e => hne (by rw [← e]; rfl))).trans hk, rest⟩
/-- What both programs answer to some bytes. -/
structure DecAns (b : List Int) where
  (p : Od) (E : Int)
  n : p.n ≤ 20
  one : ∀ v wi, RdB wi v b → Calls Tryz.prog 15 #[v] wi fun e w' => ∃ ia ic, e = .returned (.tuple #[.agg (p.c (.slice ia p.n ic)), .int .i64 E]) ∧ HeldI wi.heap.size w' (.slice ia p.n ic) p.n p.F ∧ Below wi.heap.size wi w'
  two : ∀ v wi, RdB wi v b → Calls Tryz.prog 22 #[v] wi fun e w' => ∃ ia ic, e = .returned (.tuple #[.agg (p.c (.slice ia p.n ic)), .int .i64 E]) ∧ HeldI wi.heap.size w' (.slice ia p.n ic) p.n p.F ∧ Below wi.heap.size wi w'
theorem dp_no {b : List Int} (h : decO b = none) {w w' : World} {e : Ending} (hp : decPost w b e w') : ∃ ia ic, e = .returned (.tuple #[.agg (zO.c (.slice ia zO.n ic)), .int .i64 12]) ∧ HeldI w.heap.size w' (.slice ia zO.n ic) zO.n zO.F ∧ Below w.heap.size w w' := by
  rcases hp.2 with ⟨_, he⟩ | ⟨o, a, c, h0, _⟩
  · exact ⟨none, 0, he, heldI_nil _ _, hp.1⟩
  · rw [h] at h0; cases h0
theorem dp_yes {b : List Int} {o : Od} (hd : decO b = some o) {w w' : World} {e : Ending} (hp : decPost w b e w') : ∃ ia ic, e = .returned (.tuple #[.agg (o.c (.slice ia o.n ic)), .int .i64 0]) ∧ HeldI w.heap.size w' (.slice ia o.n ic) o.n o.F ∧ Below w.heap.size w w' := by
  rcases hp.2 with ⟨h0, _⟩ | ⟨p, a, c, hq, he, hi⟩
  · rw [hd] at h0; cases h0
  · rw [hd] at hq
    obtain rfl := Option.some.inj hq
    exact ⟨a, c, he, hi, hp.1⟩
theorem dec_ans (b : List Int) (hb : Bytes b) (hl : b.length ≤ 1000) : Nonempty (DecAns b) := by
  cases hd : decO b with
  | none => exact ⟨{ p := zO, E := 12, n := Nat.zero_le _, one := fun v wi hr => (opDecode_any b v wi hr hb (by omega)).mono fun e w' hp => dp_no hd hp, two := fun v wi hr => (rDecode_any b v wi hr hb hl).mono fun e w' hp => dp_no hd hp }⟩
  | some o =>
    have hc := (decO_back hb hd).2.2.1
    exact ⟨{ p := o, E := 0, n := Nat.le_trans (chk_zero hc).1 (by decide), one := fun v wi hr => (opDecode_any b v wi hr hb (by omega)).mono fun e w' hp => dp_yes hd hp, two := fun v wi hr => (rDecode_any b v wi hr hb hl).mono fun e w' hp => dp_yes hd hp }⟩
/-- What both programs answer to a secret and an operation. -/
structure SignAns (a : Nat) (o : Od) where
  (p : Od) (E : Int)
  n : p.n ≤ 20
  one : ∀ v wi, RdI wi v o.n o.F → GlobW wi → Calls Tryz.prog 23 #[.int .u32 (a : Int), .agg (o.c v)] wi fun e w' => ∃ ia ic, e = .returned (.tuple #[.agg (p.c (.slice ia p.n ic)), .int .i64 E]) ∧ HeldI wi.heap.size w' (.slice ia p.n ic) p.n p.F ∧ Below wi.heap.size wi w'
  two : ∀ v wi, RdI wi v o.n o.F → Calls Tryz.prog 24 #[.int .u32 (a : Int), .agg (o.c v)] wi fun e w' => ∃ ia ic, e = .returned (.tuple #[.agg (p.c (.slice ia p.n ic)), .int .i64 E]) ∧ HeldI wi.heap.size w' (.slice ia p.n ic) p.n p.F ∧ Below wi.heap.size wi w'
theorem heldI_nw2 {B : Nat} {w : World} {v : Value} {n : Nat} {F : List Int} (h : HeldI B w v n F) : ∃ a c, v = .slice a n c := (heldI_nw h).slice
theorem sign_ans (a : Nat) (ha : a < 4294967296) (o : Od) (fo : o.Fit) (hn : o.n ≤ 20) : Nonempty (SignAns a o) := by
  by_cases h : 1 ≤ a ∧ a < 500000003
  · by_cases h0 : chkO (o.byA (grp.pw 4 a)).bare = 0
    · have h1 := fun v wi hr hg => opSign_held a h o fo v wi hr hg h0
      have h2 := fun v wi hr => rSign_ok a ha o fo v wi hr h h0
      generalize eN a (msgB (o.byA (grp.pw 4 a))) = E at *
      generalize sN a (msgB (o.byA (grp.pw 4 a))) = S at *
      exact ⟨{ p := o.sigd (grp.pw 4 a) E S, E := 0, n := hn
               one := fun v wi hr hg => (h1 v wi hr hg).mono fun e w' ⟨qv, he, hi, hb⟩ => by
                 obtain ⟨x, y, rfl⟩ := heldI_nw2 hi
                 exact ⟨x, y, he, hi, hb⟩
               two := fun v wi hr => (h2 v wi hr).mono fun e w' ⟨qv, he, hi, hb⟩ => by
                 obtain ⟨x, y, rfl⟩ := heldI_nw2 hi
                 exact ⟨x, y, he, hi, hb⟩ }⟩
    · exact ⟨{ p := zO, E := chkO (o.byA (grp.pw 4 a)).bare, n := Nat.zero_le _
               one := fun v wi hr hg => (opSign_bad a h o fo v wi hr h0).mono fun e w' ⟨he, hb⟩ => ⟨none, 0, he, heldI_nil _ _, hb⟩
               two := fun v wi hr => (rSign_bad a ha o fo v wi hr hn h h0).mono fun e w' ⟨he, hb⟩ => ⟨none, 0, he, heldI_nil _ _, hb⟩ }⟩
  · exact ⟨{ p := zO, E := 2, n := Nat.zero_le _
             one := fun v wi hr hg => (opSign_arg a h o v wi hr).mono fun e w' ⟨he, hb⟩ => ⟨none, 0, he, heldI_nil _ _, hb⟩
             two := fun v wi hr => (rSign_arg a ha o fo v wi hr h).mono fun e w' ⟨he, hb⟩ => ⟨none, 0, he, heldI_nil _ _, hb⟩ }⟩
theorem heldI_grown {B : Nat} {w w' : World} {v : Value} {n : Nat} {F : List Int} (h : HeldI B w v n F) (hs : ∀ k, B ≤ k → w'.heap[k]? = w.heap[k]?) (hz : w.heap.size ≤ w'.heap.size) : HeldI B w' v n F := fun wx h1 h2 =>
  h wx (fun k k1 k2 => (h1 k k1 (Nat.lt_of_lt_of_le k2 hz)).trans (hs k k1)) (Nat.le_trans hz h2)
set_option maxRecDepth 100000 in
set_option maxHeartbeats 8000000 in
theorem reads_law6 (l : List Int) (bv : Value) (a : Nat) (ha : a < 4294967296) (o : Od) (fr : o.Raw) (pv : Value) (w : World) (hrb : RdB w bv l) (hb : Bytes l) (hp0 : RdI w pv o.n o.F) (hG0 : GlobW w) :
    Calls Tryz.prog 4 #[bv, .int .u32 (a : Int), .agg (o.c pv)] w fun e w' => e = .returned (.bool true) ∧ Below w.heap.size w w' := by
  obtain ⟨pa, pc, rfl⟩ := hp0.slice
  obtain ⟨ba, bc, rfl⟩ := hrb.slice
  obtain ⟨N, hN⟩ : ∃ N, l.length = N := ⟨_, rfl⟩
  rw [hN] at hrb ⊢
  obtain ⟨W, hW⟩ : ∃ W, W = w.alloc (.cells (o.c (.slice pa o.n pc)) 32) := ⟨_, rfl⟩
  have hS := Lib.hid (show Below w.heap.size w W by rw [hW]; exact below_a w _)
  have r5 := Lib.hid (show W.heap[w.heap.size]? = some (.cells (o.c (.slice pa o.n pc)) 32 (0, 0)) by rw [hW]; exact heap_alloc_new w _)
  have pw := Lib.hid hp0
  have bw := Lib.hid hrb
  have hG := Lib.hid hG0
  have hgr := Lib.hid (fun wz => great_any o pa pc wz)
  clear hrb hG0
  cases hg : greatB o with
  | true =>
    rw [hg] at hgr
    clear fr hg hb hN
    go_enter Tryz.func4, Tryz.ntmps4
    go_upto_region 1 with fail
    rw [← hW]
    clear hW
    go_wp2_with (first | (refine wpList_load_row_g rfl 32 _ rfl w.heap.size rfl 32 (o.c (.slice pa o.n pc)) (0, 0) _ r5.out Tryz.underlying32 rfl info_op ?_) | (go_at_call 20; (with_reducible refine (hgr.out _).mono ?_); rintro e9 w4 ⟨rfl, q2⟩; (try replace r5 := Lib.hid (rowB r5.out q2 (Array.getElem?_eq_some_iff.1 r5.out).1)); replace hS := Lib.hid (hS.out.trans (Below.mono q2 hS.out.size)); clear q2))
    go_ret
    exact ⟨rfl, hS.out⟩
  | false =>
  rw [hg] at hgr
  have fo := raw_fit fr hg
  have hn20 : o.n ≤ 20 := by
    unfold greatB at hg
    simp only [Bool.or_eq_false_iff, decide_eq_false_iff_not] at hg
    omega
  clear fr hg
  by_cases hbig : 1000 < N
  · have i1 : (1000 : Int) < (N : Int) := by omega
    have i2 : decide ((1000 : Int) < (N : Int)) = true := decide_eq_true i1
    clear fo hb hN
    go_enter Tryz.func4, Tryz.ntmps4
    go_upto_region 1 with fail
    rw [← hW]
    clear hW
    go_wp2_with (first | (refine wpList_load_row_g rfl 32 _ rfl w.heap.size rfl 32 (o.c (.slice pa o.n pc)) (0, 0) _ r5.out Tryz.underlying32 rfl info_op ?_) | (go_at_call 20; (with_reducible refine (hgr.out _).mono ?_); rintro e9 w4 ⟨rfl, q2⟩; (try replace r5 := Lib.hid (rowB r5.out q2 (Array.getElem?_eq_some_iff.1 r5.out).1)); replace hS := Lib.hid (hS.out.trans (Below.mono q2 hS.out.size)); clear q2))
    go_ret
    exact ⟨rfl, hS.out⟩
  have i1 : ¬ (1000 : Int) < (N : Int) := by omega
  have i2 : decide ((1000 : Int) < (N : Int)) = false := decide_eq_false i1
  have hN10 := Lib.hid (show N ≤ 1000 by omega)
  obtain ⟨⟨P1, E1, n1, one1, two1⟩⟩ := dec_ans l hb (by omega)
  obtain ⟨⟨P2, E2, n2, one2, two2⟩⟩ := sign_ans a ha o fo hn20
  have d1 := Lib.hid one1; have d2 := Lib.hid two1; have s1 := Lib.hid one2; have s2 := Lib.hid two2
  have n1 := Lib.hid n1; have n2 := Lib.hid n2
  have v1 := Lib.hid (fun (wz : World) (v : Value) (h : RdI wz v o.n o.F) (hg : GlobW wz) => opVerify_any o fo v wz h hg)
  have v2 := Lib.hid (fun (wz : World) (v : Value) (h : RdI wz v o.n o.F) => rVerify_any o fo v wz h)
  have tw := Lib.hid (fun (wz : World) (h : RdI wz (.slice pa o.n pc) o.n o.F) => twin_own o hn20 (.slice pa o.n pc) wz h)
  generalize verO o = VO at *
  have e1 : (E1 == E1) = true := by simp
  have e2 : (E2 == E2) = true := by simp
  have e3 : (VO == VO) = true := by simp
  have lN := Lib.hid hN
  have hlF := Lib.hid hp0.len
  have hn20 := Lib.hid hn20
  clear hb hN fo one1 two1 one2 two2 hp0 ha
  go_enter Tryz.func4, Tryz.ntmps4
  go_upto_region 1 with fail
  rw [← hW]
  clear hW
  go_wp2_with (first
    | (refine wpList_load_row_g rfl 32 _ rfl w.heap.size rfl 32 (o.c (.slice pa o.n pc)) (0, 0) _ r5.out Tryz.underlying32 rfl info_op ?_)
    | (go_at_call 20; (with_reducible refine (hgr.out _).mono ?_); rintro e9 w4 ⟨rfl, q2⟩; (try replace r5 := Lib.hid (rowB r5.out q2 (Array.getElem?_eq_some_iff.1 r5.out).1)); replace hS := Lib.hid (hS.out.trans (Below.mono q2 hS.out.size)); clear q2)
    | (go_at_call 21; (with_reducible refine (tw.out _ (pw.out.mono hS.out)).mono ?_); rintro e9 w4 ⟨qv, rfl, q1, q2⟩; have hSz0 := Lib.hid hS.out.size; (try replace r5 := Lib.hid (rowB r5.out q2 (Array.getElem?_eq_some_iff.1 r5.out).1)); replace hS := Lib.hid (hS.out.trans (Below.mono q2 hS.out.size)); have xT := Lib.hid q1; have hBT := Lib.hid hSz0.out; obtain ⟨ta, tcc, hqv⟩ := xT.out.rd.slice; subst hqv; clear q1; clear q2)
    | (refine appendB rfl _ _ 33 rfl w4.heap.size 5 Tryz.underlying33 (by kernel_rfl) _ rfl [] (own_nil w4) _ rfl l ((bw.out.mono hS.out).mono (below_a1 w4 (.cells #[] 5))) (by simp; rw [lN.out]; have := hN10.out; omega) (by simp) ?_))
  intro own w1 h1 h2
  have hB1 := (below_a1 w4 (.cells #[] 5)).trans ((own_nil w4).below h2 (by simp))
  obtain ⟨oa0, oc0, rfl⟩ := own_slice h1 _ lN.out
  have ow := Lib.hid h1
  have hB4 := Lib.hid hS.out.size
  have hbB := Lib.hid hBT.out
  replace r5 := Lib.hid (rowB r5.out hB1 (Array.getElem?_eq_some_iff.1 r5.out).1)
  replace xT := Lib.hid (xT.out.kept hB1)
  replace hS := Lib.hid (hS.out.trans (hB1.mono hS.out.size))
  have rdo := Lib.hid h1.rd
  clear h1 h2 hB1
  refine Stop.go ?_
  go_upto_region 4 with (refine storeNew _ rfl 32 _ _ rfl (o.c (.slice ta o.n tcc)) 32 rfl rfl info_op rfl (op_one o ta o.n tcc) ?_; intro wT hrx hbx; replace xT := Lib.hid (xT.out.kept hbx); replace ow := Lib.hid (ow.out.kept hbx); (try replace r5 := Lib.hid (rowB r5.out hbx (Array.getElem?_eq_some_iff.1 r5.out).1)); (try replace rdo := Lib.hid (rdo.out.mono hbx)); replace hS := Lib.hid (hS.out.trans (Below.mono hbx hS.out.size)); have r7 := Lib.hid hrx; clear hrx hbx)
  have g7d : ∃ g7, g7 = w1.heap.size := ⟨_, rfl⟩
  obtain ⟨g7, hg7⟩ := g7d
  rw [← hg7] at r7 ⊢
  clear hg7
  have hT := Lib.hid (Below.refl wT.heap.size wT)
  have hST := Lib.hid hS.out
  have r5T := r5
  have r7T := r7
  go_upto_region 5 with (first
    | (go_at_call 15; (with_reducible refine (d1.out _ _ rdo.out).mono ?_); rintro e9 w4 ⟨aa, ac, rfl, q1, q2⟩; have hSz := Lib.hid hT.out.size; (try replace r5 := Lib.hid (rowB r5.out q2 (Array.getElem?_eq_some_iff.1 r5.out).1)); (try replace r7 := Lib.hid (rowB r7.out q2 (Array.getElem?_eq_some_iff.1 r7.out).1)); (try replace rdo := Lib.hid (rdo.out.mono q2)); replace hT := Lib.hid (hT.out.trans (Below.mono q2 hT.out.size)); replace hS := Lib.hid (hS.out.trans (Below.mono q2 hS.out.size)); have k9 := Lib.hid (heldI_lower q1 hSz.out); clear q1 hSz; clear q2)
    | (refine storeNew _ rfl 32 _ _ rfl (P1.c (.slice aa P1.n ac)) 32 rfl rfl info_op rfl (op_one P1 aa P1.n ac) ?_; intro wx hrx hbx; have hzr9 := Lib.hid hT.out.size; (try replace r5 := Lib.hid (rowB r5.out hbx (Array.getElem?_eq_some_iff.1 r5.out).1)); (try replace r7 := Lib.hid (rowB r7.out hbx (Array.getElem?_eq_some_iff.1 r7.out).1)); (try replace rdo := Lib.hid (rdo.out.mono hbx)); (try replace k9 := Lib.hid (heldI_mono k9.out hbx)); replace hT := Lib.hid (hT.out.trans (Below.mono hbx hT.out.size)); replace hS := Lib.hid (hS.out.trans (Below.mono hbx hS.out.size)); have r9 := Lib.hid hrx; have lr9 := Lib.hid (show wT.heap.size ≤ w4.heap.size from hzr9.out); clear hrx hbx hzr9))
  have gdr9 : ∃ g, g = w4.heap.size := ⟨_, rfl⟩
  obtain ⟨gr9, hgr9⟩ := gdr9
  rw [← hgr9] at r9 lr9 ⊢
  clear hgr9
  go_upto_region 6 with (first
    | (go_at_call 22; (with_reducible refine (d2.out _ _ (bw.out.mono hS.out)).mono ?_); rintro e9 w4 ⟨ca, cc, rfl, q1, q2⟩; have hSz := Lib.hid hT.out.size; (try replace r5 := Lib.hid (rowB r5.out q2 (Array.getElem?_eq_some_iff.1 r5.out).1)); (try replace r7 := Lib.hid (rowB r7.out q2 (Array.getElem?_eq_some_iff.1 r7.out).1)); (try replace r9 := Lib.hid (rowB r9.out q2 (Array.getElem?_eq_some_iff.1 r9.out).1)); (try replace rdo := Lib.hid (rdo.out.mono q2)); (try replace k9 := Lib.hid (heldI_mono k9.out q2)); replace hT := Lib.hid (hT.out.trans (Below.mono q2 hT.out.size)); replace hS := Lib.hid (hS.out.trans (Below.mono q2 hS.out.size)); have k11 := Lib.hid (heldI_lower q1 hSz.out); clear q1 hSz; clear q2)
    | (refine storeNew _ rfl 32 _ _ rfl (P1.c (.slice ca P1.n cc)) 32 rfl rfl info_op rfl (op_one P1 ca P1.n cc) ?_; intro wx hrx hbx; have hzr11 := Lib.hid hT.out.size; (try replace r5 := Lib.hid (rowB r5.out hbx (Array.getElem?_eq_some_iff.1 r5.out).1)); (try replace r7 := Lib.hid (rowB r7.out hbx (Array.getElem?_eq_some_iff.1 r7.out).1)); (try replace r9 := Lib.hid (rowB r9.out hbx (Array.getElem?_eq_some_iff.1 r9.out).1)); (try replace rdo := Lib.hid (rdo.out.mono hbx)); (try replace k9 := Lib.hid (heldI_mono k9.out hbx)); (try replace k11 := Lib.hid (heldI_mono k11.out hbx)); replace hT := Lib.hid (hT.out.trans (Below.mono hbx hT.out.size)); replace hS := Lib.hid (hS.out.trans (Below.mono hbx hS.out.size)); have r11 := Lib.hid hrx; have lr11 := Lib.hid (show wT.heap.size ≤ w4.heap.size from hzr11.out); clear hrx hbx hzr11))
  have gdr11 : ∃ g, g = w4.heap.size := ⟨_, rfl⟩
  obtain ⟨gr11, hgr11⟩ := gdr11
  rw [← hgr11] at r11 lr11 ⊢
  clear hgr11
  go_upto_region 7 with (first
    | (refine wpList_load_row_g rfl 32 _ rfl g7 rfl 32 (o.c (.slice ta o.n tcc)) (0, 0) _ r7.out Tryz.underlying32 rfl info_op ?_)
    | (go_at_call 23; (with_reducible refine (s1.out _ _ (xT.out.rd.mono hT.out) (hG.out.mono hS.out)).mono ?_); rintro e9 w4 ⟨da, dc, rfl, q1, q2⟩; have hSz := Lib.hid hT.out.size; (try replace r5 := Lib.hid (rowB r5.out q2 (Array.getElem?_eq_some_iff.1 r5.out).1)); (try replace r7 := Lib.hid (rowB r7.out q2 (Array.getElem?_eq_some_iff.1 r7.out).1)); (try replace r9 := Lib.hid (rowB r9.out q2 (Array.getElem?_eq_some_iff.1 r9.out).1)); (try replace r11 := Lib.hid (rowB r11.out q2 (Array.getElem?_eq_some_iff.1 r11.out).1)); (try replace rdo := Lib.hid (rdo.out.mono q2)); (try replace k9 := Lib.hid (heldI_mono k9.out q2)); (try replace k11 := Lib.hid (heldI_mono k11.out q2)); replace hT := Lib.hid (hT.out.trans (Below.mono q2 hT.out.size)); replace hS := Lib.hid (hS.out.trans (Below.mono q2 hS.out.size)); have k13 := Lib.hid (heldI_lower q1 hSz.out); clear q1 hSz; clear q2)
    | (refine storeNew _ rfl 32 _ _ rfl (P2.c (.slice da P2.n dc)) 32 rfl rfl info_op rfl (op_one P2 da P2.n dc) ?_; intro wx hrx hbx; have hzr13 := Lib.hid hT.out.size; (try replace r5 := Lib.hid (rowB r5.out hbx (Array.getElem?_eq_some_iff.1 r5.out).1)); (try replace r7 := Lib.hid (rowB r7.out hbx (Array.getElem?_eq_some_iff.1 r7.out).1)); (try replace r9 := Lib.hid (rowB r9.out hbx (Array.getElem?_eq_some_iff.1 r9.out).1)); (try replace r11 := Lib.hid (rowB r11.out hbx (Array.getElem?_eq_some_iff.1 r11.out).1)); (try replace rdo := Lib.hid (rdo.out.mono hbx)); (try replace k9 := Lib.hid (heldI_mono k9.out hbx)); (try replace k11 := Lib.hid (heldI_mono k11.out hbx)); (try replace k13 := Lib.hid (heldI_mono k13.out hbx)); replace hT := Lib.hid (hT.out.trans (Below.mono hbx hT.out.size)); replace hS := Lib.hid (hS.out.trans (Below.mono hbx hS.out.size)); have r13 := Lib.hid hrx; have lr13 := Lib.hid (show wT.heap.size ≤ w4.heap.size from hzr13.out); clear hrx hbx hzr13))
  have gdr13 : ∃ g, g = w4.heap.size := ⟨_, rfl⟩
  obtain ⟨gr13, hgr13⟩ := gdr13
  rw [← hgr13] at r13 lr13 ⊢
  clear hgr13
  go_upto_region 8 with (first
    | (refine wpList_load_row_g rfl 32 _ rfl w.heap.size rfl 32 (o.c (.slice pa o.n pc)) (0, 0) _ r5.out Tryz.underlying32 rfl info_op ?_)
    | (go_at_call 24; (with_reducible refine (s2.out _ _ (pw.out.mono hS.out)).mono ?_); rintro e9 w4 ⟨ea, ec, rfl, q1, q2⟩; have hSz := Lib.hid hT.out.size; (try replace r5 := Lib.hid (rowB r5.out q2 (Array.getElem?_eq_some_iff.1 r5.out).1)); (try replace r7 := Lib.hid (rowB r7.out q2 (Array.getElem?_eq_some_iff.1 r7.out).1)); (try replace r9 := Lib.hid (rowB r9.out q2 (Array.getElem?_eq_some_iff.1 r9.out).1)); (try replace r11 := Lib.hid (rowB r11.out q2 (Array.getElem?_eq_some_iff.1 r11.out).1)); (try replace r13 := Lib.hid (rowB r13.out q2 (Array.getElem?_eq_some_iff.1 r13.out).1)); (try replace rdo := Lib.hid (rdo.out.mono q2)); (try replace k9 := Lib.hid (heldI_mono k9.out q2)); (try replace k11 := Lib.hid (heldI_mono k11.out q2)); (try replace k13 := Lib.hid (heldI_mono k13.out q2)); replace hT := Lib.hid (hT.out.trans (Below.mono q2 hT.out.size)); replace hS := Lib.hid (hS.out.trans (Below.mono q2 hS.out.size)); have k15 := Lib.hid (heldI_lower q1 hSz.out); clear q1 hSz; clear q2)
    | (refine storeNew _ rfl 32 _ _ rfl (P2.c (.slice ea P2.n ec)) 32 rfl rfl info_op rfl (op_one P2 ea P2.n ec) ?_; intro wx hrx hbx; have hzr15 := Lib.hid hT.out.size; (try replace r5 := Lib.hid (rowB r5.out hbx (Array.getElem?_eq_some_iff.1 r5.out).1)); (try replace r7 := Lib.hid (rowB r7.out hbx (Array.getElem?_eq_some_iff.1 r7.out).1)); (try replace r9 := Lib.hid (rowB r9.out hbx (Array.getElem?_eq_some_iff.1 r9.out).1)); (try replace r11 := Lib.hid (rowB r11.out hbx (Array.getElem?_eq_some_iff.1 r11.out).1)); (try replace r13 := Lib.hid (rowB r13.out hbx (Array.getElem?_eq_some_iff.1 r13.out).1)); (try replace rdo := Lib.hid (rdo.out.mono hbx)); (try replace k9 := Lib.hid (heldI_mono k9.out hbx)); (try replace k11 := Lib.hid (heldI_mono k11.out hbx)); (try replace k13 := Lib.hid (heldI_mono k13.out hbx)); (try replace k15 := Lib.hid (heldI_mono k15.out hbx)); replace hT := Lib.hid (hT.out.trans (Below.mono hbx hT.out.size)); replace hS := Lib.hid (hS.out.trans (Below.mono hbx hS.out.size)); have r15 := Lib.hid hrx; have lr15 := Lib.hid (show wT.heap.size ≤ w4.heap.size from hzr15.out); clear hrx hbx hzr15))
  have gdr15 : ∃ g, g = w4.heap.size := ⟨_, rfl⟩
  obtain ⟨gr15, hgr15⟩ := gdr15
  rw [← hgr15] at r15 lr15 ⊢
  clear hgr15
  go_upto_region 9 with (first | (refine wpList_load_row_g rfl 32 _ rfl g7 rfl 32 (o.c (.slice ta o.n tcc)) (0, 0) _ r7.out Tryz.underlying32 rfl info_op ?_) | (go_at_call 25; (with_reducible refine (v1.out _ _ (xT.out.rd.mono hT.out) (hG.out.mono hS.out)).mono ?_); rintro e9 w4 ⟨rfl, q2⟩; (try replace r5 := Lib.hid (rowB r5.out q2 (Array.getElem?_eq_some_iff.1 r5.out).1)); (try replace r7 := Lib.hid (rowB r7.out q2 (Array.getElem?_eq_some_iff.1 r7.out).1)); (try replace r9 := Lib.hid (rowB r9.out q2 (Array.getElem?_eq_some_iff.1 r9.out).1)); (try replace r11 := Lib.hid (rowB r11.out q2 (Array.getElem?_eq_some_iff.1 r11.out).1)); (try replace r13 := Lib.hid (rowB r13.out q2 (Array.getElem?_eq_some_iff.1 r13.out).1)); (try replace r15 := Lib.hid (rowB r15.out q2 (Array.getElem?_eq_some_iff.1 r15.out).1)); (try replace rdo := Lib.hid (rdo.out.mono q2)); (try replace k9 := Lib.hid (heldI_mono k9.out q2)); (try replace k11 := Lib.hid (heldI_mono k11.out q2)); (try replace k13 := Lib.hid (heldI_mono k13.out q2)); (try replace k15 := Lib.hid (heldI_mono k15.out q2)); replace hT := Lib.hid (hT.out.trans (Below.mono q2 hT.out.size)); replace hS := Lib.hid (hS.out.trans (Below.mono q2 hS.out.size)); clear q2))
  have w6d : ∃ w6, w6 = w4 := ⟨_, rfl⟩
  obtain ⟨w6, hw6⟩ := w6d
  rw [← hw6] at r5 r7 r9 r11 r13 r15 k9 k11 k13 k15 hT hS ⊢
  clear hw6 d1 d2 s1 s2 v1 tw rdo
  have ow6 := Lib.hid (ow.out.kept hT.out)
  have xT6 := Lib.hid (xT.out.kept hT.out)
  have xTT := xT
  have owT := ow
  have l7 := Lib.hid (Array.getElem?_eq_some_iff.1 r7T.out).1
  have l5 := Lib.hid (Array.getElem?_eq_some_iff.1 r5T.out).1
  clear ow xT r5T r7T
  have hgt := Lib.hid (show ∀ g, ta = some ⟨g, 0, none⟩ → g < wT.heap.size from fun g hg => by
    rcases xTT.out.2 with ⟨he, h0⟩ | ⟨g', cap, cur, he, hbg, hgr6, _⟩
    · injection he with e _ _; rw [hg] at e; cases e
    · injection he with e _ _
      rw [hg] at e
      injection e with e
      injection e with e _ _
      subst e
      exact (Array.getElem?_eq_some_iff.1 hgr6).1)
  have hgb := Lib.hid (show ∀ g, oa0 = some ⟨g, 0, none⟩ → g < wT.heap.size from fun g hg => by
    rcases owT.out.2 with ⟨he, h0⟩ | ⟨g', cap, cur, he, hbg, hgr6, _⟩
    · injection he with e _ _; rw [hg] at e; cases e
    · injection he with e _ _
      rw [hg] at e
      injection e with e
      injection e with e _ _
      subst e
      exact (Array.getElem?_eq_some_iff.1 hgr6).1)
  clear xTT owT
  rcases ow6.out.2 with ⟨he, h0⟩ | ⟨g, cap, cur, he, hbg, hgrb, hcn, hcm, hcs, hct⟩
  · obtain ⟨e4, e5, e6⟩ := Value.slice.inj he
    subst e4 e6
    have hLB0 : N = 0 := e5
    clear he h0 e5
    subst hLB0
    go_wp2
    go_loopw [18] (fun i wr => i = .int .i64 0 ∧ w6 = wr) (fun i _ => 0)
    case atStart => exact ⟨rfl, rfl⟩
    case round =>
      obtain ⟨rfl, hwr⟩ := hrel
      subst hwr
      rcases xT6.out.2 with ⟨he, h0⟩ | ⟨g, cap, cur, he, hbg, hgr6, hcn, hcm, hcs, hct⟩
      · obtain ⟨e4, e5, e6⟩ := Value.slice.inj he
        subst e4 e6
        have u1 : w6.cell? ⟨g7, 1, none⟩ = some (.slice none o.n 0) := cell_of_row _ _ _ _ _ _ r7.out
        rw [e5] at u1
        clear he h0 e5
        go_wp2
        go_loopw [19] (fun i wr => i = .int .i64 0 ∧ w6 = wr) (fun i _ => 0)
        case atStart => exact ⟨rfl, rfl⟩
        case round =>
          obtain ⟨rfl, hwr⟩ := hrel
          subst hwr
          have mk9 := Lib.hid (heldI_nw k9.out)
          have mk11 := Lib.hid (heldI_nw k11.out)
          have mk13 := Lib.hid (heldI_nw k13.out)
          have mk15 := Lib.hid (heldI_nw k15.out)
          have hA := Lib.hid (fun (wz : World) (h : Below w6.heap.size w6 wz) => sameO_yes P1 n1.out _ _ wz (mk9.out.mono h) (mk11.out.mono h))
          have hC := Lib.hid (fun (wz : World) (h : Below w6.heap.size w6 wz) => sameO_yes P2 n2.out _ _ wz (mk13.out.mono h) (mk15.out.mono h))
          have hQ := Lib.hid (Below.refl w6.heap.size w6)
          go_wp2_with (first
            | (refine wpList_load_row_g rfl 32 _ rfl _ rfl 32 (P1.c (.slice aa P1.n ac)) (0, 0) _ r9.out Tryz.underlying32 rfl info_op ?_)
            | (refine wpList_load_row_g rfl 32 _ rfl _ rfl 32 (P1.c (.slice ca P1.n cc)) (0, 0) _ r11.out Tryz.underlying32 rfl info_op ?_)
            | (refine wpList_load_row_g rfl 32 _ rfl _ rfl 32 (P2.c (.slice da P2.n dc)) (0, 0) _ r13.out Tryz.underlying32 rfl info_op ?_)
            | (refine wpList_load_row_g rfl 32 _ rfl _ rfl 32 (P2.c (.slice ea P2.n ec)) (0, 0) _ r15.out Tryz.underlying32 rfl info_op ?_)
            | (refine wpList_load_row_g rfl 32 _ rfl _ rfl 32 (o.c (.slice pa o.n pc)) (0, 0) _ r5.out Tryz.underlying32 rfl info_op ?_)
            | (go_at_call 18; (with_reducible refine (hA.out _ hQ.out).mono ?_); rintro e w9 ⟨rfl, h9⟩; replace r9 := Lib.hid (rowB r9.out h9 (Array.getElem?_eq_some_iff.1 r9.out).1); replace r11 := Lib.hid (rowB r11.out h9 (Array.getElem?_eq_some_iff.1 r11.out).1); replace r13 := Lib.hid (rowB r13.out h9 (Array.getElem?_eq_some_iff.1 r13.out).1); replace r15 := Lib.hid (rowB r15.out h9 (Array.getElem?_eq_some_iff.1 r15.out).1); replace r5 := Lib.hid (rowB r5.out h9 (Array.getElem?_eq_some_iff.1 r5.out).1); replace hQ := Lib.hid (hQ.out.trans (Below.mono h9 hQ.out.size)); clear h9)
            | (go_at_call 18; (with_reducible refine (hC.out _ hQ.out).mono ?_); rintro e w9 ⟨rfl, h9⟩; replace r9 := Lib.hid (rowB r9.out h9 (Array.getElem?_eq_some_iff.1 r9.out).1); replace r11 := Lib.hid (rowB r11.out h9 (Array.getElem?_eq_some_iff.1 r11.out).1); replace r13 := Lib.hid (rowB r13.out h9 (Array.getElem?_eq_some_iff.1 r13.out).1); replace r15 := Lib.hid (rowB r15.out h9 (Array.getElem?_eq_some_iff.1 r15.out).1); replace r5 := Lib.hid (rowB r5.out h9 (Array.getElem?_eq_some_iff.1 r5.out).1); replace hQ := Lib.hid (hQ.out.trans (Below.mono h9 hQ.out.size)); clear h9)
            | (go_at_call 26; (with_reducible refine (v2.out _ _ (pw.out.mono (hS.out.trans (hQ.out.mono hS.out.size)))).mono ?_); rintro e w9 ⟨rfl, h9⟩; replace r9 := Lib.hid (rowB r9.out h9 (Array.getElem?_eq_some_iff.1 r9.out).1); replace r11 := Lib.hid (rowB r11.out h9 (Array.getElem?_eq_some_iff.1 r11.out).1); replace r13 := Lib.hid (rowB r13.out h9 (Array.getElem?_eq_some_iff.1 r13.out).1); replace r15 := Lib.hid (rowB r15.out h9 (Array.getElem?_eq_some_iff.1 r15.out).1); replace r5 := Lib.hid (rowB r5.out h9 (Array.getElem?_eq_some_iff.1 r5.out).1); replace hQ := Lib.hid (hQ.out.trans (Below.mono h9 hQ.out.size)); clear h9))
          go_ret
          exact ⟨rfl, hS.out.trans (hQ.out.mono hS.out.size)⟩
      · obtain ⟨e4, e5, e6⟩ := Value.slice.inj he
        subst e4 e6
        have gl := Lib.hid (show g < wT.heap.size from hgt.out _ rfl)
        have hne7 : g7 ≠ g := fun e => by rw [← e, r7.out] at hgr6; injection hgr6 with h; injection h with _ h _; exact absurd h (by decide)
        have hne5 : w.heap.size ≠ g := fun e => by rw [← e, r5.out] at hgr6; injection hgr6 with h; injection h with _ h _; exact absurd h (by decide)
        have hne7 := Lib.hid hne7
        have hne5 := Lib.hid hne5
        have hch0 : Churned g (32 * o.n) 42 w6 w6 := ⟨fun _ _ => rfl, rfl, cur, hgr6, fun i hi => ⟨ith o.F i, by
          have h5 : (cur.toList.take (o.n * 32))[i]? = some (.int .u8 (ith o.F i)) := by rw [hct]; exact u8v_get _ _ (by rw [hlF.out]; exact hi)
          rw [List.getElem?_take, if_pos (by omega), Array.getElem?_toList] at h5
          exact h5⟩⟩
        have hch0' := Lib.hid hch0
        have hcn2 : o.n ≤ tcc := hcn
        clear he e5 hct hcs hch0 hcm hcn
        go_wp2
        go_loopw [19] (fun i wr => ∃ k : Nat, k ≤ o.n ∧ i = .int .i64 k ∧ Below w.heap.size w wr ∧ Churned g (32 * o.n) 42 w6 wr) (fun i _ => o.n - (intOf i).toNat)
        case atStart => exact ⟨0, Nat.zero_le _, rfl, hS.out, hch0'.out⟩
        case round =>
          obtain ⟨k, hk, rfl, hbk, hch⟩ := hrel
          have hbk' := Lib.hid hbk; have hch' := Lib.hid hch
          clear hbk hch
          have r7k := Lib.hid ((hch'.out.1 g7 hne7.out).trans r7.out)
          have u1 : wr.cell? ⟨g7, 1, none⟩ = some (.slice (some ⟨g, 0, none⟩) o.n tcc) := cell_of_row _ _ _ _ _ _ r7k.out
          by_cases hlt : k < o.n
          · obtain ⟨_, _, cs, hrow, hx⟩ := hch'.out
            obtain ⟨x, hx⟩ := hx (k * 32 + 31) (by omega)
            have cc : wr.cell? ⟨g, k * 32 + 31, none⟩ = some (.int .u8 x) := by rw [cell_of_row _ _ _ _ _ _ hrow]; exact hx
            have ff := frozen_of_row _ _ (k * 32 + 31) _ _ hrow
            have hk20 := hn20.out
            have hkI : (k : Int) < (o.n : Int) := by omega
            clear hrow hx
            go_wp2
            go_region
            go_wp2
            go_roundw
            case rel => exact ⟨k + 1, by omega, by go_num, (hbk'.out.setCell (p := ⟨g, k * 32 + 31, none⟩) (Nat.le_trans hbB.out hbg) _).drew, churned_drew (churned_set hch'.out (k * 32 + 31) _)⟩
            case measure => simp [intOf]; omega
          · obtain rfl : k = o.n := by omega
            replace r9 := Lib.hid ((hch'.out.1 _ (by have := lr9.out; have := gl.out; omega)).trans r9.out)
            replace r11 := Lib.hid ((hch'.out.1 _ (by have := lr11.out; have := gl.out; omega)).trans r11.out)
            replace r13 := Lib.hid ((hch'.out.1 _ (by have := lr13.out; have := gl.out; omega)).trans r13.out)
            replace r15 := Lib.hid ((hch'.out.1 _ (by have := lr15.out; have := gl.out; omega)).trans r15.out)
            replace k9 := Lib.hid (heldI_grown k9.out (fun j k1 => hch'.out.1 j (by have := gl.out; omega)) (Nat.le_of_eq hch'.out.2.1.symm))
            replace k11 := Lib.hid (heldI_grown k11.out (fun j k1 => hch'.out.1 j (by have := gl.out; omega)) (Nat.le_of_eq hch'.out.2.1.symm))
            replace k13 := Lib.hid (heldI_grown k13.out (fun j k1 => hch'.out.1 j (by have := gl.out; omega)) (Nat.le_of_eq hch'.out.2.1.symm))
            replace k15 := Lib.hid (heldI_grown k15.out (fun j k1 => hch'.out.1 j (by have := gl.out; omega)) (Nat.le_of_eq hch'.out.2.1.symm))
            replace r5 := Lib.hid ((hch'.out.1 _ hne5.out).trans r5.out)
            replace hS := hbk'
            have mk9 := Lib.hid (heldI_nw k9.out)
            have mk11 := Lib.hid (heldI_nw k11.out)
            have mk13 := Lib.hid (heldI_nw k13.out)
            have mk15 := Lib.hid (heldI_nw k15.out)
            have hA := Lib.hid (fun (wz : World) (h : Below wr.heap.size wr wz) => sameO_yes P1 n1.out _ _ wz (mk9.out.mono h) (mk11.out.mono h))
            have hC := Lib.hid (fun (wz : World) (h : Below wr.heap.size wr wz) => sameO_yes P2 n2.out _ _ wz (mk13.out.mono h) (mk15.out.mono h))
            have hQ := Lib.hid (Below.refl wr.heap.size wr)
            go_wp2_with (first
              | (refine wpList_load_row_g rfl 32 _ rfl _ rfl 32 (P1.c (.slice aa P1.n ac)) (0, 0) _ r9.out Tryz.underlying32 rfl info_op ?_)
              | (refine wpList_load_row_g rfl 32 _ rfl _ rfl 32 (P1.c (.slice ca P1.n cc)) (0, 0) _ r11.out Tryz.underlying32 rfl info_op ?_)
              | (refine wpList_load_row_g rfl 32 _ rfl _ rfl 32 (P2.c (.slice da P2.n dc)) (0, 0) _ r13.out Tryz.underlying32 rfl info_op ?_)
              | (refine wpList_load_row_g rfl 32 _ rfl _ rfl 32 (P2.c (.slice ea P2.n ec)) (0, 0) _ r15.out Tryz.underlying32 rfl info_op ?_)
              | (refine wpList_load_row_g rfl 32 _ rfl _ rfl 32 (o.c (.slice pa o.n pc)) (0, 0) _ r5.out Tryz.underlying32 rfl info_op ?_)
              | (go_at_call 18; (with_reducible refine (hA.out _ hQ.out).mono ?_); rintro e w9 ⟨rfl, h9⟩; replace r9 := Lib.hid (rowB r9.out h9 (Array.getElem?_eq_some_iff.1 r9.out).1); replace r11 := Lib.hid (rowB r11.out h9 (Array.getElem?_eq_some_iff.1 r11.out).1); replace r13 := Lib.hid (rowB r13.out h9 (Array.getElem?_eq_some_iff.1 r13.out).1); replace r15 := Lib.hid (rowB r15.out h9 (Array.getElem?_eq_some_iff.1 r15.out).1); replace r5 := Lib.hid (rowB r5.out h9 (Array.getElem?_eq_some_iff.1 r5.out).1); replace hQ := Lib.hid (hQ.out.trans (Below.mono h9 hQ.out.size)); clear h9)
              | (go_at_call 18; (with_reducible refine (hC.out _ hQ.out).mono ?_); rintro e w9 ⟨rfl, h9⟩; replace r9 := Lib.hid (rowB r9.out h9 (Array.getElem?_eq_some_iff.1 r9.out).1); replace r11 := Lib.hid (rowB r11.out h9 (Array.getElem?_eq_some_iff.1 r11.out).1); replace r13 := Lib.hid (rowB r13.out h9 (Array.getElem?_eq_some_iff.1 r13.out).1); replace r15 := Lib.hid (rowB r15.out h9 (Array.getElem?_eq_some_iff.1 r15.out).1); replace r5 := Lib.hid (rowB r5.out h9 (Array.getElem?_eq_some_iff.1 r5.out).1); replace hQ := Lib.hid (hQ.out.trans (Below.mono h9 hQ.out.size)); clear h9)
              | (go_at_call 26; (with_reducible refine (v2.out _ _ (pw.out.mono (hS.out.trans (hQ.out.mono hS.out.size)))).mono ?_); rintro e w9 ⟨rfl, h9⟩; replace r9 := Lib.hid (rowB r9.out h9 (Array.getElem?_eq_some_iff.1 r9.out).1); replace r11 := Lib.hid (rowB r11.out h9 (Array.getElem?_eq_some_iff.1 r11.out).1); replace r13 := Lib.hid (rowB r13.out h9 (Array.getElem?_eq_some_iff.1 r13.out).1); replace r15 := Lib.hid (rowB r15.out h9 (Array.getElem?_eq_some_iff.1 r15.out).1); replace r5 := Lib.hid (rowB r5.out h9 (Array.getElem?_eq_some_iff.1 r5.out).1); replace hQ := Lib.hid (hQ.out.trans (Below.mono h9 hQ.out.size)); clear h9))
            go_ret
            exact ⟨rfl, hS.out.trans (hQ.out.mono hS.out.size)⟩
  · obtain ⟨e4, e5, e6⟩ := Value.slice.inj he
    subst e4 e6
    have gl := Lib.hid (show g < wT.heap.size from hgb.out _ rfl)
    have hne7 : g7 ≠ g := fun e => by rw [← e, r7.out] at hgrb; injection hgrb with h; injection h with _ h _; exact absurd h (by decide)
    have hne5 : w.heap.size ≠ g := fun e => by rw [← e, r5.out] at hgrb; injection hgrb with h; injection h with _ h _; exact absurd h (by decide)
    have hneT := Lib.hid (show some g ≠ (Value.slice ta o.n tcc).ownBlock from fun e => by
      rcases xT6.out.2 with ⟨hz, _⟩ | ⟨g', cap', cur', hz, _, hgr6, _⟩
      · rw [hz] at e; cases e
      · rw [hz] at e
        simp only [Value.ownBlock, Option.some.injEq] at e
        subst e
        rw [hgrb] at hgr6; injection hgr6 with h; injection h with _ h _; exact absurd h (by decide))
    have hne7 := Lib.hid hne7
    have hne5 := Lib.hid hne5
    have hch0 : Churned g N 5 w6 w6 := ⟨fun _ _ => rfl, rfl, cur, hgrb, fun i hi => ⟨ith l i, by
      have h5 : (cur.toList.take (l.length * 1))[i]? = some (.int .u8 (ith l i)) := by rw [hct]; exact u8v_get _ _ (by rw [lN.out]; exact hi)
      rw [List.getElem?_take, if_pos (by rw [lN.out]; omega), Array.getElem?_toList] at h5
      exact h5⟩⟩
    have hch0' := Lib.hid hch0
    have hLoc : N ≤ oc0 := by rw [← lN.out]; exact hcn
    have hN10' := hN10.out
    clear he e5 hct hcs hch0 hcm hcn
    go_wp2
    go_loopw [18] (fun i wr => ∃ k : Nat, k ≤ N ∧ i = .int .i64 k ∧ Below w.heap.size w wr ∧ Churned g N 5 w6 wr) (fun i _ => N - (intOf i).toNat)
    case atStart => exact ⟨0, Nat.zero_le _, rfl, hS.out, hch0'.out⟩
    case round =>
      obtain ⟨k, hk, rfl, hbk, hch⟩ := hrel
      have hbk' := Lib.hid hbk; have hch' := Lib.hid hch
      clear hbk hch
      by_cases hlt : k < N
      · obtain ⟨_, _, cs, hrow, hx⟩ := hch'.out
        obtain ⟨x, hx⟩ := hx k hlt
        have cc : wr.cell? ⟨g, k, none⟩ = some (.int .u8 x) := by rw [cell_of_row _ _ _ _ _ _ hrow]; exact hx
        have ff := frozen_of_row _ _ k _ _ hrow
        clear hrow hx
        go_wp2
        go_roundw
        case rel => exact ⟨k + 1, by omega, by go_num, hbk'.out.setCell (p := ⟨g, k, none⟩) (Nat.le_trans hB4.out hbg) _, churned_set hch'.out k _⟩
        case measure => simp [intOf]; omega
      · obtain rfl : k = N := by omega
        replace r9 := Lib.hid ((hch'.out.1 _ (by have := lr9.out; have := gl.out; omega)).trans r9.out)
        replace r11 := Lib.hid ((hch'.out.1 _ (by have := lr11.out; have := gl.out; omega)).trans r11.out)
        replace r13 := Lib.hid ((hch'.out.1 _ (by have := lr13.out; have := gl.out; omega)).trans r13.out)
        replace r15 := Lib.hid ((hch'.out.1 _ (by have := lr15.out; have := gl.out; omega)).trans r15.out)
        replace k9 := Lib.hid (heldI_grown k9.out (fun j k1 => hch'.out.1 j (by have := gl.out; omega)) (Nat.le_of_eq hch'.out.2.1.symm))
        replace k11 := Lib.hid (heldI_grown k11.out (fun j k1 => hch'.out.1 j (by have := gl.out; omega)) (Nat.le_of_eq hch'.out.2.1.symm))
        replace k13 := Lib.hid (heldI_grown k13.out (fun j k1 => hch'.out.1 j (by have := gl.out; omega)) (Nat.le_of_eq hch'.out.2.1.symm))
        replace k15 := Lib.hid (heldI_grown k15.out (fun j k1 => hch'.out.1 j (by have := gl.out; omega)) (Nat.le_of_eq hch'.out.2.1.symm))
        replace r5 := Lib.hid ((hch'.out.1 _ hne5.out).trans r5.out)
        replace r7 := Lib.hid ((hch'.out.1 _ hne7.out).trans r7.out)
        replace xT6 := Lib.hid (own_churned xT6.out hch' hneT.out)
        replace hS := hbk'
        clear gl hne5 hne7 hneT hch' hch0' hgrb hbg hbk'
        generalize wr = wo at *
        rcases xT6.out.2 with ⟨he, h0⟩ | ⟨g, cap, cur, he, hbg, hgr6, hcn, hcm, hcs, hct⟩
        · obtain ⟨e4, e5, e6⟩ := Value.slice.inj he
          subst e4 e6
          have u1 : wo.cell? ⟨g7, 1, none⟩ = some (.slice none o.n 0) := cell_of_row _ _ _ _ _ _ r7.out
          rw [e5] at u1
          clear he h0 e5
          go_wp2
          go_loopw [19] (fun i wr => i = .int .i64 0 ∧ wo = wr) (fun i _ => 0)
          case atStart => exact ⟨rfl, rfl⟩
          case round =>
            obtain ⟨rfl, hwr⟩ := hrel
            subst hwr
            have mk9 := Lib.hid (heldI_nw k9.out)
            have mk11 := Lib.hid (heldI_nw k11.out)
            have mk13 := Lib.hid (heldI_nw k13.out)
            have mk15 := Lib.hid (heldI_nw k15.out)
            have hA := Lib.hid (fun (wz : World) (h : Below wo.heap.size wo wz) => sameO_yes P1 n1.out _ _ wz (mk9.out.mono h) (mk11.out.mono h))
            have hC := Lib.hid (fun (wz : World) (h : Below wo.heap.size wo wz) => sameO_yes P2 n2.out _ _ wz (mk13.out.mono h) (mk15.out.mono h))
            have hQ := Lib.hid (Below.refl wo.heap.size wo)
            go_wp2_with (first
              | (refine wpList_load_row_g rfl 32 _ rfl _ rfl 32 (P1.c (.slice aa P1.n ac)) (0, 0) _ r9.out Tryz.underlying32 rfl info_op ?_)
              | (refine wpList_load_row_g rfl 32 _ rfl _ rfl 32 (P1.c (.slice ca P1.n cc)) (0, 0) _ r11.out Tryz.underlying32 rfl info_op ?_)
              | (refine wpList_load_row_g rfl 32 _ rfl _ rfl 32 (P2.c (.slice da P2.n dc)) (0, 0) _ r13.out Tryz.underlying32 rfl info_op ?_)
              | (refine wpList_load_row_g rfl 32 _ rfl _ rfl 32 (P2.c (.slice ea P2.n ec)) (0, 0) _ r15.out Tryz.underlying32 rfl info_op ?_)
              | (refine wpList_load_row_g rfl 32 _ rfl _ rfl 32 (o.c (.slice pa o.n pc)) (0, 0) _ r5.out Tryz.underlying32 rfl info_op ?_)
              | (go_at_call 18; (with_reducible refine (hA.out _ hQ.out).mono ?_); rintro e w9 ⟨rfl, h9⟩; replace r9 := Lib.hid (rowB r9.out h9 (Array.getElem?_eq_some_iff.1 r9.out).1); replace r11 := Lib.hid (rowB r11.out h9 (Array.getElem?_eq_some_iff.1 r11.out).1); replace r13 := Lib.hid (rowB r13.out h9 (Array.getElem?_eq_some_iff.1 r13.out).1); replace r15 := Lib.hid (rowB r15.out h9 (Array.getElem?_eq_some_iff.1 r15.out).1); replace r5 := Lib.hid (rowB r5.out h9 (Array.getElem?_eq_some_iff.1 r5.out).1); replace hQ := Lib.hid (hQ.out.trans (Below.mono h9 hQ.out.size)); clear h9)
              | (go_at_call 18; (with_reducible refine (hC.out _ hQ.out).mono ?_); rintro e w9 ⟨rfl, h9⟩; replace r9 := Lib.hid (rowB r9.out h9 (Array.getElem?_eq_some_iff.1 r9.out).1); replace r11 := Lib.hid (rowB r11.out h9 (Array.getElem?_eq_some_iff.1 r11.out).1); replace r13 := Lib.hid (rowB r13.out h9 (Array.getElem?_eq_some_iff.1 r13.out).1); replace r15 := Lib.hid (rowB r15.out h9 (Array.getElem?_eq_some_iff.1 r15.out).1); replace r5 := Lib.hid (rowB r5.out h9 (Array.getElem?_eq_some_iff.1 r5.out).1); replace hQ := Lib.hid (hQ.out.trans (Below.mono h9 hQ.out.size)); clear h9)
              | (go_at_call 26; (with_reducible refine (v2.out _ _ (pw.out.mono (hS.out.trans (hQ.out.mono hS.out.size)))).mono ?_); rintro e w9 ⟨rfl, h9⟩; replace r9 := Lib.hid (rowB r9.out h9 (Array.getElem?_eq_some_iff.1 r9.out).1); replace r11 := Lib.hid (rowB r11.out h9 (Array.getElem?_eq_some_iff.1 r11.out).1); replace r13 := Lib.hid (rowB r13.out h9 (Array.getElem?_eq_some_iff.1 r13.out).1); replace r15 := Lib.hid (rowB r15.out h9 (Array.getElem?_eq_some_iff.1 r15.out).1); replace r5 := Lib.hid (rowB r5.out h9 (Array.getElem?_eq_some_iff.1 r5.out).1); replace hQ := Lib.hid (hQ.out.trans (Below.mono h9 hQ.out.size)); clear h9))
            go_ret
            exact ⟨rfl, hS.out.trans (hQ.out.mono hS.out.size)⟩
        · obtain ⟨e4, e5, e6⟩ := Value.slice.inj he
          subst e4 e6
          have gl := Lib.hid (show g < wT.heap.size from hgt.out _ rfl)
          have hne7 : g7 ≠ g := fun e => by rw [← e, r7.out] at hgr6; injection hgr6 with h; injection h with _ h _; exact absurd h (by decide)
          have hne5 : w.heap.size ≠ g := fun e => by rw [← e, r5.out] at hgr6; injection hgr6 with h; injection h with _ h _; exact absurd h (by decide)
          have hne7 := Lib.hid hne7
          have hne5 := Lib.hid hne5
          have hch0 : Churned g (32 * o.n) 42 wo wo := ⟨fun _ _ => rfl, rfl, cur, hgr6, fun i hi => ⟨ith o.F i, by
            have h5 : (cur.toList.take (o.n * 32))[i]? = some (.int .u8 (ith o.F i)) := by rw [hct]; exact u8v_get _ _ (by rw [hlF.out]; exact hi)
            rw [List.getElem?_take, if_pos (by omega), Array.getElem?_toList] at h5
            exact h5⟩⟩
          have hch0' := Lib.hid hch0
          have hcn2 : o.n ≤ tcc := hcn
          clear he e5 hct hcs hch0 hcm hcn
          go_wp2
          go_loopw [19] (fun i wr => ∃ k : Nat, k ≤ o.n ∧ i = .int .i64 k ∧ Below w.heap.size w wr ∧ Churned g (32 * o.n) 42 wo wr) (fun i _ => o.n - (intOf i).toNat)
          case atStart => exact ⟨0, Nat.zero_le _, rfl, hS.out, hch0'.out⟩
          case round =>
            obtain ⟨k, hk, rfl, hbk, hch⟩ := hrel
            have hbk' := Lib.hid hbk; have hch' := Lib.hid hch
            clear hbk hch
            have r7k := Lib.hid ((hch'.out.1 g7 hne7.out).trans r7.out)
            have u1 : wr.cell? ⟨g7, 1, none⟩ = some (.slice (some ⟨g, 0, none⟩) o.n tcc) := cell_of_row _ _ _ _ _ _ r7k.out
            by_cases hlt : k < o.n
            · obtain ⟨_, _, cs, hrow, hx⟩ := hch'.out
              obtain ⟨x, hx⟩ := hx (k * 32 + 31) (by omega)
              have cc : wr.cell? ⟨g, k * 32 + 31, none⟩ = some (.int .u8 x) := by rw [cell_of_row _ _ _ _ _ _ hrow]; exact hx
              have ff := frozen_of_row _ _ (k * 32 + 31) _ _ hrow
              have hk20 := hn20.out
              have hkI : (k : Int) < (o.n : Int) := by omega
              clear hrow hx
              go_wp2
              go_region
              go_wp2
              go_roundw
              case rel => exact ⟨k + 1, by omega, by go_num, (hbk'.out.setCell (p := ⟨g, k * 32 + 31, none⟩) (Nat.le_trans hbB.out hbg) _).drew, churned_drew (churned_set hch'.out (k * 32 + 31) _)⟩
              case measure => simp [intOf]; omega
            · obtain rfl : k = o.n := by omega
              replace r9 := Lib.hid ((hch'.out.1 _ (by have := lr9.out; have := gl.out; omega)).trans r9.out)
              replace r11 := Lib.hid ((hch'.out.1 _ (by have := lr11.out; have := gl.out; omega)).trans r11.out)
              replace r13 := Lib.hid ((hch'.out.1 _ (by have := lr13.out; have := gl.out; omega)).trans r13.out)
              replace r15 := Lib.hid ((hch'.out.1 _ (by have := lr15.out; have := gl.out; omega)).trans r15.out)
              replace k9 := Lib.hid (heldI_grown k9.out (fun j k1 => hch'.out.1 j (by have := gl.out; omega)) (Nat.le_of_eq hch'.out.2.1.symm))
              replace k11 := Lib.hid (heldI_grown k11.out (fun j k1 => hch'.out.1 j (by have := gl.out; omega)) (Nat.le_of_eq hch'.out.2.1.symm))
              replace k13 := Lib.hid (heldI_grown k13.out (fun j k1 => hch'.out.1 j (by have := gl.out; omega)) (Nat.le_of_eq hch'.out.2.1.symm))
              replace k15 := Lib.hid (heldI_grown k15.out (fun j k1 => hch'.out.1 j (by have := gl.out; omega)) (Nat.le_of_eq hch'.out.2.1.symm))
              replace r5 := Lib.hid ((hch'.out.1 _ hne5.out).trans r5.out)
              replace hS := hbk'
              have mk9 := Lib.hid (heldI_nw k9.out)
              have mk11 := Lib.hid (heldI_nw k11.out)
              have mk13 := Lib.hid (heldI_nw k13.out)
              have mk15 := Lib.hid (heldI_nw k15.out)
              have hA := Lib.hid (fun (wz : World) (h : Below wr.heap.size wr wz) => sameO_yes P1 n1.out _ _ wz (mk9.out.mono h) (mk11.out.mono h))
              have hC := Lib.hid (fun (wz : World) (h : Below wr.heap.size wr wz) => sameO_yes P2 n2.out _ _ wz (mk13.out.mono h) (mk15.out.mono h))
              have hQ := Lib.hid (Below.refl wr.heap.size wr)
              go_wp2_with (first
                | (refine wpList_load_row_g rfl 32 _ rfl _ rfl 32 (P1.c (.slice aa P1.n ac)) (0, 0) _ r9.out Tryz.underlying32 rfl info_op ?_)
                | (refine wpList_load_row_g rfl 32 _ rfl _ rfl 32 (P1.c (.slice ca P1.n cc)) (0, 0) _ r11.out Tryz.underlying32 rfl info_op ?_)
                | (refine wpList_load_row_g rfl 32 _ rfl _ rfl 32 (P2.c (.slice da P2.n dc)) (0, 0) _ r13.out Tryz.underlying32 rfl info_op ?_)
                | (refine wpList_load_row_g rfl 32 _ rfl _ rfl 32 (P2.c (.slice ea P2.n ec)) (0, 0) _ r15.out Tryz.underlying32 rfl info_op ?_)
                | (refine wpList_load_row_g rfl 32 _ rfl _ rfl 32 (o.c (.slice pa o.n pc)) (0, 0) _ r5.out Tryz.underlying32 rfl info_op ?_)
                | (go_at_call 18; (with_reducible refine (hA.out _ hQ.out).mono ?_); rintro e w9 ⟨rfl, h9⟩; replace r9 := Lib.hid (rowB r9.out h9 (Array.getElem?_eq_some_iff.1 r9.out).1); replace r11 := Lib.hid (rowB r11.out h9 (Array.getElem?_eq_some_iff.1 r11.out).1); replace r13 := Lib.hid (rowB r13.out h9 (Array.getElem?_eq_some_iff.1 r13.out).1); replace r15 := Lib.hid (rowB r15.out h9 (Array.getElem?_eq_some_iff.1 r15.out).1); replace r5 := Lib.hid (rowB r5.out h9 (Array.getElem?_eq_some_iff.1 r5.out).1); replace hQ := Lib.hid (hQ.out.trans (Below.mono h9 hQ.out.size)); clear h9)
                | (go_at_call 18; (with_reducible refine (hC.out _ hQ.out).mono ?_); rintro e w9 ⟨rfl, h9⟩; replace r9 := Lib.hid (rowB r9.out h9 (Array.getElem?_eq_some_iff.1 r9.out).1); replace r11 := Lib.hid (rowB r11.out h9 (Array.getElem?_eq_some_iff.1 r11.out).1); replace r13 := Lib.hid (rowB r13.out h9 (Array.getElem?_eq_some_iff.1 r13.out).1); replace r15 := Lib.hid (rowB r15.out h9 (Array.getElem?_eq_some_iff.1 r15.out).1); replace r5 := Lib.hid (rowB r5.out h9 (Array.getElem?_eq_some_iff.1 r5.out).1); replace hQ := Lib.hid (hQ.out.trans (Below.mono h9 hQ.out.size)); clear h9)
                | (go_at_call 26; (with_reducible refine (v2.out _ _ (pw.out.mono (hS.out.trans (hQ.out.mono hS.out.size)))).mono ?_); rintro e w9 ⟨rfl, h9⟩; replace r9 := Lib.hid (rowB r9.out h9 (Array.getElem?_eq_some_iff.1 r9.out).1); replace r11 := Lib.hid (rowB r11.out h9 (Array.getElem?_eq_some_iff.1 r11.out).1); replace r13 := Lib.hid (rowB r13.out h9 (Array.getElem?_eq_some_iff.1 r13.out).1); replace r15 := Lib.hid (rowB r15.out h9 (Array.getElem?_eq_some_iff.1 r15.out).1); replace r5 := Lib.hid (rowB r5.out h9 (Array.getElem?_eq_some_iff.1 r5.out).1); replace hQ := Lib.hid (hQ.out.trans (Below.mono h9 hQ.out.size)); clear h9))
              go_ret
              exact ⟨rfl, hS.out.trans (hQ.out.mono hS.out.size)⟩
end Go.Proofs.YtoknefeciopdpaaGreatDoor.wir.val

/- Texts that the row stands on, part 5. -/
import Derived.Test.YtdlblhoaddfanaaGreatDoorRNamesOq04
import Derived.Laws.BytesString
namespace Go.Proofs.YtdlblhoaddfanaaGreatDoor.wir.val
open Go.RowKit Go.YtdlblhoaddfanaaGreatDoor
set_option linter.unusedVariables false
theorem ownI_any (w : World) (B : Nat) : OwnI B 24 w (.slice none 0 0) 0 [] := OwnI.nil w B _
set_option maxHeartbeats 4000000 in
set_option maxRecDepth 100000 in
theorem copied_any (o : Od) (hn : o.n ≤ 20) (hk : o.key.size ≤ 1000000) (hv : o.v.s.size ≤ 1000000) (pv : Value) (w : World) (hp : RdI w pv o.n o.F) :
    Calls Tryz.prog 74 #[.agg (o.c pv)] w fun e w' => ∃ qv, e = .returned (.agg (o.c qv)) ∧ OwnI w.heap.size 24 w' qv o.n o.F ∧ Below w.heap.size w w' := by
  obtain ⟨W, hW⟩ : ∃ W, W = (w.alloc (.cells (o.c pv) 35)).alloc (.cells (zO.c (.slice none 0 0)) 35) := ⟨_, rfl⟩
  have hr0 : W.heap[w.heap.size]? = some (.cells (o.c pv) 35 (0, 0)) := by rw [hW]; exact rowB (heap_alloc_new w _) (below_a _ _) (by simp)
  have hr1 : W.heap[w.heap.size + 1]? = some (.cells (zO.c (.slice none 0 0)) 35 (0, 0)) := by rw [hW]; exact hn2 w _ _
  have hb0 : Below w.heap.size w W := by rw [hW]; exact ((Below.refl w.heap.size w).alloc (Nat.le_refl _) _).alloc (by simp) _
  obtain ⟨pa, pc, rfl⟩ := hp.slice
  have hb1 := Lib.hid hb0
  have hrow := Lib.hid hr0
  have hres := Lib.hid hr1
  have hlt := Lib.hid (Array.getElem?_eq_some_iff.1 hr0).1
  have hlt1 := Lib.hid (Array.getElem?_eq_some_iff.1 hr1).1
  have hp1 := Lib.hid (hp.mono hb0)
  have hc1 : W.cell? ⟨w.heap.size, 1, none⟩ = some (.slice pa o.n pc) := by rw [cell_of_row _ _ _ _ _ _ hr0]; rfl
  have hcl1 := Lib.hid (fun wz => clone_any o.key hk wz)
  have hcl2 := Lib.hid (fun wz => clone_any o.v.s hv wz)
  clear hr0 hr1 hb0 hp
  go_enter Tryz.func74, Tryz.ntmps74
  go_upto_region 1 with fail
  change Code.wp _ _ _ _ ((w.alloc (.cells (o.c (.slice pa o.n pc)) 35)).alloc (.cells (zO.c (.slice none 0 0)) 35))
  rw [← hW]
  clear hW
  go_wp2_with (refine appendIs rfl _ _ 26 rfl W.heap.size 24 Tryz.underlying26 (by kernel_rfl) _ rfl 0 [] (ownI_any W _) _ rfl o.n o.F hp1.out (by omega) (Nat.le_refl _) ?_)
  intro v2 w2 h1 h2
  have hB2 := Lib.hid ((ownI_any W W.heap.size).below h2 (Nat.le_refl _))
  have hq0 := Lib.hid (show OwnI W.heap.size 24 w2 v2 o.n o.F by simpa using h1)
  obtain ⟨qa, qc, rfl⟩ := hq0.out.rd.slice
  have hr2 := Lib.hid (rowB hrow.out hB2.out hlt.out)
  have hs2 := Lib.hid (rowB hres.out hB2.out hlt1.out)
  have f1 := frozen_of_row w2 w.heap.size 1 _ _ hr2.out
  have k1 : w2.cell? ⟨w.heap.size, 1, none⟩ = some (.slice pa o.n pc) := by rw [cell_of_row _ _ _ _ _ _ hr2.out]; rfl
  have hset := Lib.hid (show w2.setCell ⟨w.heap.size, 1, none⟩ (.slice qa o.n qc) = w2.setRow w.heap.size (o.c (.slice qa o.n qc)) from setCell_eq hr2.out 1 (.slice qa o.n qc))
  clear h1 h2
  refine Stop.go ?_
  go_upto_region 2 with fail
  rw [hset.out]
  have hr3 := Lib.hid (setRow_heap w2 w.heap.size _ (o.c (.slice qa o.n qc)) _ _ hr2.out)
  have hs3 := Lib.hid ((setRow_other w2 w.heap.size (w.heap.size + 1) (o.c (.slice qa o.n qc)) (by omega)).trans hs2.out)
  have hB3 := Lib.hid (show Below w.heap.size w (w2.setRow w.heap.size (o.c (.slice qa o.n qc))) from below_setRow' (hb1.out.trans (hB2.out.mono hb1.out.size)) (Nat.le_refl _) _)
  have hq := Lib.hid (ownI_setRow hq0.out hlt.out (o.c (.slice qa o.n qc)))
  clear hset hq0 f1 k1 hr2 hs2 hB2 hc1 hp1 hrow hres
  generalize w2.setRow w.heap.size (o.c (.slice qa o.n qc)) = w3 at *
  have c4 : w3.cell? ⟨w.heap.size, 4, none⟩ = some (.string o.key) := by rw [cell_of_row _ _ _ _ _ _ hr3.out]; rfl
  go_upto_region 3 with (go_at_call 86; (with_reducible refine (hcl1.out _).mono ?_); rintro e w4 ⟨rfl, q2⟩; replace hr3 := Lib.hid (rowB hr3.out q2 (Array.getElem?_eq_some_iff.1 hr3.out).1); replace hs3 := Lib.hid (rowB hs3.out q2 (Array.getElem?_eq_some_iff.1 hs3.out).1); replace hq := Lib.hid (hq.out.kept q2); replace hB3 := Lib.hid (hB3.out.trans (Below.mono q2 hB3.out.size)); have hsame := Lib.hid (show w4.setCell ⟨w.heap.size, 4, none⟩ (.string o.key) = w4 from (setCell_eq hr3.out 4 (.string o.key)).trans (setRow_self w4 w.heap.size (o.c (.slice qa o.n qc)) _ _ hr3.out)); have f1 := frozen_of_row w4 w.heap.size 4 _ _ hr3.out; have k1 := (cell_of_row w4 w.heap.size 4 _ _ _ hr3.out); clear q2)
  rw [hsame.out]
  clear c4 hsame f1 k1
  have c8 : w4.cell? ⟨w.heap.size, 8, none⟩ = some (.string o.v.s) := by rw [cell_of_row _ _ _ _ _ _ hr3.out]; rfl
  go_upto_region 4 with (go_at_call 86; (with_reducible refine (hcl2.out _).mono ?_); rintro e w4 ⟨rfl, q2⟩; replace hr3 := Lib.hid (rowB hr3.out q2 (Array.getElem?_eq_some_iff.1 hr3.out).1); replace hs3 := Lib.hid (rowB hs3.out q2 (Array.getElem?_eq_some_iff.1 hs3.out).1); replace hq := Lib.hid (hq.out.kept q2); replace hB3 := Lib.hid (hB3.out.trans (Below.mono q2 hB3.out.size)); have hsame := Lib.hid (show w4.setCell ⟨w.heap.size, 8, none⟩ (.string o.v.s) = w4 from (setCell_eq hr3.out 8 (.string o.v.s)).trans (setRow_self w4 w.heap.size (o.c (.slice qa o.n qc)) _ _ hr3.out)); have f1 := frozen_of_row w4 w.heap.size 8 _ _ hr3.out; have k1 := (cell_of_row w4 w.heap.size 8 _ _ _ hr3.out); clear q2)
  rw [hsame.out]
  clear c8 hsame f1 k1
  go_wp2_with (first
    | (refine wpList_load_row_g rfl 35 _ rfl w.heap.size rfl 35 (o.c (.slice qa o.n qc)) (0, 0) _ hr3.out Tryz.underlying35 rfl info_op ?_)
    | (refine wpList_store_row rfl 35 _ _ rfl (w.heap.size + 1) (o.c (.slice qa o.n qc)) rfl rfl 35 _ hs3.out info_op rfl (op_one _ _ _ _) ?_))
  exact bodyPost_ret (results_cell_row rfl _ _ (w.heap.size + 1) 35 _ _ _ rfl (setRow_heap _ _ _ _ _ _ hs3.out) Tryz.underlying35 rfl info_op) rfl ⟨_, rfl, (ownI_setRow hq.out hlt1.out _).mono hb1.out.size, below_setRow' hB3.out (by omega) _⟩
/-- What Verify answers. -/
def verO (o : Od) : Int := if chkO o = 0 then (if rightB o.au (msgB o) o.s o.e then 0 else 22) else chkO o
theorem chk_in {o : Od} (h : chkO o = 0) : grp.inG o.au = true := by
  unfold chkO at h
  by_cases h1 : 4 < o.n
  · rw [if_pos h1] at h; omega
  · rw [if_neg h1] at h
    by_cases h2 : riseF o.F o.n = true
    · rw [if_pos h2] at h
      by_cases h3 : okO o = true
      · unfold okO at h3
        simp only [Bool.and_eq_true] at h3
        exact h3.1
      · rw [if_neg h3] at h; omega
    · rw [if_neg h2] at h; omega
set_option maxHeartbeats 4000000 in
set_option maxRecDepth 100000 in
theorem opVerify_any (o : Od) (fo : o.Fit) (pv : Value) (w : World) (hp : RdI w pv o.n o.F) (hG : GlobW w) :
    Calls Tryz.prog 19 #[.agg (o.c pv)] w fun e w' => e = .returned (.int .i64 (verO o)) ∧ Below w.heap.size w w' := by
  obtain ⟨W, hW⟩ : ∃ W, W = w.alloc (.cells (o.c pv) 35) := ⟨_, rfl⟩
  have hr0 := heap_alloc_new w (.cells (o.c pv) 35)
  have hb0 := (Below.refl w.heap.size w).alloc (Nat.le_refl _) (.cells (o.c pv) 35)
  rw [← hW] at hr0 hb0
  have hlF := hp.len
  obtain ⟨pa, pc, rfl⟩ := hp.slice
  have hb1 := Lib.hid hb0
  have hlt := (Array.getElem?_eq_some_iff.1 hr0).1
  have hrows := Lib.hid (fun (wz : World) (h : Below W.heap.size W wz) => rowB hr0 h hlt)
  have hS := Lib.hid (fun (wz : World) (h : Below W.heap.size W wz) => cellsO (rowB hr0 h hlt))
  have hK := Lib.hid (fun (wz : World) (hb : Below W.heap.size W wz) => opCheck_any o fo (.slice pa o.n pc) wz ((hp.mono hb0).mono hb))
  by_cases h0 : chkO o = 0
  · have e := Lib.hid (show verO o = if rightB o.au (msgB o) o.s o.e then 0 else 22 by unfold verO; rw [if_pos h0])
    rw [h0] at hK
    have z := chk_zero h0
    have hM := Lib.hid (fun (wz : World) (hb : Below W.heap.size W wz) => message_any o fo z.1 z.2.1 z.2.2 (.slice pa o.n pc) wz ((hp.mono hb0).mono hb))
    have hV := Lib.hid (fun (wz : World) (v : Value) (hb : Below W.heap.size W wz) (hv : RdB wz v (msgB o)) => verify_any o.au (chk_in h0) o.s o.e fo.s fo.e v (msgB o) wz hv (msgB_bytes o fo z.1 z.2.2) (Nat.le_trans (msgB_short o fo z.1 hlF z.2.2) (by decide)) ((hG.mono hb0).mono hb))
    rw [e.out]
    generalize (if rightB o.au (msgB o) o.s o.e then (0 : Int) else 22) = R at *
    clear e hr0 hb0 hp fo h0 z hG hlF
    go_enter Tryz.func19, Tryz.ntmps19
    go_upto_region 1 with fail
    rw [← hW]
    clear hW
    have hB := Lib.hid (Below.refl W.heap.size W)
    go_upto_region 4 with (first | (refine wpList_load_row_g rfl 35 _ rfl w.heap.size rfl 35 (o.c (.slice pa o.n pc)) (0, 0) _ (hrows.out _ hB.out) Tryz.underlying35 rfl info_op ?_) | (go_at_call 42; (with_reducible refine (hK.out _ hB.out).mono ?_); rintro e w3 ⟨rfl, h3⟩; replace hB := Lib.hid (hB.out.trans (h3.mono hB.out.size)); clear h3))
    replace hB := Lib.hid (show Below W.heap.size W w3.drew from hB.out.drew)
    have hcc := Lib.hid (show ∀ (wz : World) (h : Below W.heap.size W wz), (fun wz => wz.cell? ⟨w.heap.size, 0, none⟩ = some (.int .u32 (o.au : Int)) ∧ wz.cell? ⟨w.heap.size, 1, none⟩ = some (.slice pa o.n pc) ∧ wz.cell? ⟨w.heap.size, 2, none⟩ = some (.int .u64 (o.st : Int)) ∧ wz.cell? ⟨w.heap.size, 3, none⟩ = some (.int .u8 o.k) ∧ wz.cell? ⟨w.heap.size, 4, none⟩ = some (.string o.key) ∧ wz.cell? ⟨w.heap.size, 5, none⟩ = some (.int .u8 o.v.k) ∧ wz.cell? ⟨w.heap.size, 6, none⟩ = some (.int .i64 o.v.n) ∧ wz.cell? ⟨w.heap.size, 7, none⟩ = some (.int .u64 (o.v.b : Int)) ∧ wz.cell? ⟨w.heap.size, 8, none⟩ = some (.string o.v.s) ∧ wz.cell? ⟨w.heap.size, 9, none⟩ = some (.int .u32 (o.e : Int)) ∧ wz.cell? ⟨w.heap.size, 10, none⟩ = some (.int .u32 (o.s : Int))) wz from fun wz h => cells11 (hrows.out wz h))
    obtain ⟨c0, c1, c2, c3, c4, c5, c6, c7, c8, c9, c10⟩ := hcc.out w3.drew hB.out
    simp only [World.cell?_drew] at c0 c1 c2 c3 c4 c5 c6 c7 c8 c9 c10
    go_region_held3 (fun wz => wz.cell? ⟨w.heap.size, 0, none⟩ = some (.int .u32 (o.au : Int)) ∧ wz.cell? ⟨w.heap.size, 1, none⟩ = some (.slice pa o.n pc) ∧ wz.cell? ⟨w.heap.size, 2, none⟩ = some (.int .u64 (o.st : Int)) ∧ wz.cell? ⟨w.heap.size, 3, none⟩ = some (.int .u8 o.k) ∧ wz.cell? ⟨w.heap.size, 4, none⟩ = some (.string o.key) ∧ wz.cell? ⟨w.heap.size, 5, none⟩ = some (.int .u8 o.v.k) ∧ wz.cell? ⟨w.heap.size, 6, none⟩ = some (.int .i64 o.v.n) ∧ wz.cell? ⟨w.heap.size, 7, none⟩ = some (.int .u64 (o.v.b : Int)) ∧ wz.cell? ⟨w.heap.size, 8, none⟩ = some (.string o.v.s) ∧ wz.cell? ⟨w.heap.size, 9, none⟩ = some (.int .u32 (o.e : Int)) ∧ wz.cell? ⟨w.heap.size, 10, none⟩ = some (.int .u32 (o.s : Int))) (first | (exact hcc.out _ hB.out) | go_keep)
      (first
        | (go_at_call 61; (with_reducible refine (hM.out _ hB.out).mono ?_); rintro e w4 ⟨sv, rfl, q1, q2⟩; replace hB := Lib.hid (hB.out.trans (q2.mono hB.out.size)); have hO := Lib.hid q1.rd; obtain ⟨ma, mc, hz⟩ := hO.out.slice; subst hz; clear q1 q2)
        | (go_at_call 60; (with_reducible refine (hV.out _ _ hB.out hO.out).mono ?_); rintro e w5 ⟨rfl, q2⟩; replace hB := Lib.hid (hB.out.trans (q2.mono hB.out.size)); clear q2))
    all_goals
      clear c0 c1 c2 c3 c4 c5 c6 c7 c8 c9 c10
      go_wp2
      go_ret
      exact ⟨rfl, hb1.out.trans (hB.out.mono hb1.out.size)⟩
  · have e := Lib.hid (show verO o = chkO o by unfold verO; rw [if_neg h0])
    rw [e.out]
    generalize chkO o = E at *
    have hE : (E != 0) = true := by simpa using h0
    clear e hr0 hb0 hp fo h0 hG hlF
    go_enter Tryz.func19, Tryz.ntmps19
    go_upto_region 1 with fail
    rw [← hW]
    clear hW
    have hB := Lib.hid (Below.refl W.heap.size W)
    go_wp2_with (first | (refine wpList_load_row_g rfl 35 _ rfl w.heap.size rfl 35 (o.c (.slice pa o.n pc)) (0, 0) _ (hrows.out _ hB.out) Tryz.underlying35 rfl info_op ?_) | (go_at_call 42; (with_reducible refine (hK.out _ hB.out).mono ?_); rintro e w3 ⟨rfl, h3⟩; replace hB := Lib.hid (hB.out.trans (h3.mono hB.out.size)); clear h3))
    go_ret
    exact ⟨rfl, hb1.out.trans (hB.out.mono hb1.out.size)⟩
end Go.Proofs.YtdlblhoaddfanaaGreatDoor.wir.val
namespace Go.Proofs.YtdlblhoaddfanaaGreatDoor.wir.val
open Go.RowKit Go.YtdlblhoaddfanaaGreatDoor
set_option linter.unusedVariables false
def Od.byA (o : Od) (y : Nat) : Od := { o with au := y }
def Od.sigd (o : Od) (y e s : Nat) : Od := { o with au := y, e := e, s := s }
theorem set_au {w : World} {g : Nat} {o : Od} {pv : Value} (h : w.heap[g]? = some (.cells (o.c pv) 35 (0, 0))) (y : Nat) :
    w.setCell ⟨g, 0, none⟩ (.int .u32 (y : Int)) = w.setRow g ((o.byA y).c pv) := setCell_eq h 0 _
theorem set_es {w : World} {g : Nat} {o : Od} {pv : Value} (y e s : Nat) (h : w.heap[g]? = some (.cells ((o.byA y).c pv) 35 (0, 0))) :
    (w.setCell ⟨g, 9, none⟩ (.int .u32 (e : Int))).setCell ⟨g, 10, none⟩ (.int .u32 (s : Int)) = w.setRow g ((o.sigd y e s).c pv) := set_sig h e s
theorem fit_by {o : Od} (h : o.Fit) (y : Nat) (hy : y < 4294967296) : (o.byA y).Fit := ⟨hy, h.F, h.n, h.st, h.k, h.key, h.v, h.e, h.s⟩
set_option maxHeartbeats 4000000 in
set_option maxRecDepth 100000 in
theorem opSign_arg (a : Nat) (h : ¬ (1 ≤ a ∧ a < 500000003)) (o : Od) (pv : Value) (w : World) (hp : RdI w pv o.n o.F) :
    Calls Tryz.prog 41 #[.int .u32 (a : Int), .agg (o.c pv)] w fun e w' => e = .returned (.tuple #[.agg (zO.c (.slice none 0 0)), .int .i64 2]) ∧ Below w.heap.size w w' := by
  obtain ⟨W, hW⟩ : ∃ W, W = (w.alloc (.cells (o.c pv) 35)).alloc (.cells (zO.c (.slice none 0 0)) 35) := ⟨_, rfl⟩
  have hr0 : W.heap[w.heap.size]? = some (.cells (o.c pv) 35 (0, 0)) := by rw [hW]; exact rowB (heap_alloc_new w _) (below_a _ _) (by simp)
  have hr1 : W.heap[w.heap.size + 1]? = some (.cells (zO.c (.slice none 0 0)) 35 (0, 0)) := by rw [hW]; exact hn2 w _ _
  have hb0 : Below w.heap.size w W := by rw [hW]; exact ((Below.refl w.heap.size w).alloc (Nat.le_refl _) _).alloc (by simp) _
  obtain ⟨pa, pc, rfl⟩ := hp.slice
  have hb1 := Lib.hid hb0
  have hrow := Lib.hid hr0
  have hres := Lib.hid hr1
  have hlt := Lib.hid (Array.getElem?_eq_some_iff.1 hr0).1
  have hlt1 := Lib.hid (Array.getElem?_eq_some_iff.1 hr1).1
  have hp1 := Lib.hid (hp.mono hb0)
  have hP := Lib.hid (fun wz => public_bad a h wz)
  clear hr0 hr1 hb0 hp h
  go_enter Tryz.func41, Tryz.ntmps41
  go_upto_region 1 with fail
  change Code.wp _ _ _ _ ((w.alloc (.cells (o.c (.slice pa o.n pc)) 35)).alloc (.cells (zO.c (.slice none 0 0)) 35))
  rw [← hW]
  clear hW
  go_wp2_with (first
    | (go_at_call 72; (with_reducible refine (hP.out _).mono ?_); rintro e w3 ⟨rfl, rfl⟩)
    | (refine storeOver _ (w.heap.size + 1) _ rfl 35 _ _ rfl (zO.c (.slice none 0 0)) 35 hres.out rfl rfl info_op rfl (op_one _ _ _ _) ?_; intro w5 hr5 hb5; have hr5' := Lib.hid hr5; have hb5' := Lib.hid hb5; clear hr5 hb5))
  exact bodyPost_ret (results_row_tmp rfl _ _ (w.heap.size + 1) 35 _ _ _ rfl hr5'.out Tryz.underlying35 rfl info_op) rfl ⟨rfl, hb1.out.trans (hb5'.out.mono (by omega))⟩
set_option maxHeartbeats 8000000 in
set_option maxRecDepth 100000 in
theorem opSign_bad (a : Nat) (h : 1 ≤ a ∧ a < 500000003) (o : Od) (fo : o.Fit) (pv : Value) (w : World) (hp : RdI w pv o.n o.F) (h0 : chkO (o.byA (grp.pw 4 a)).bare ≠ 0) :
    Calls Tryz.prog 41 #[.int .u32 (a : Int), .agg (o.c pv)] w fun e w' => e = .returned (.tuple #[.agg (zO.c (.slice none 0 0)), .int .i64 (chkO (o.byA (grp.pw 4 a)).bare)]) ∧ Below w.heap.size w w' := by
  obtain ⟨W, hW⟩ : ∃ W, W = (w.alloc (.cells (o.c pv) 35)).alloc (.cells (zO.c (.slice none 0 0)) 35) := ⟨_, rfl⟩
  have hr0 : W.heap[w.heap.size]? = some (.cells (o.c pv) 35 (0, 0)) := by rw [hW]; exact rowB (heap_alloc_new w _) (below_a _ _) (by simp)
  have hr1 : W.heap[w.heap.size + 1]? = some (.cells (zO.c (.slice none 0 0)) 35 (0, 0)) := by rw [hW]; exact hn2 w _ _
  have hb0 : Below w.heap.size w W := by rw [hW]; exact ((Below.refl w.heap.size w).alloc (Nat.le_refl _) _).alloc (by simp) _
  obtain ⟨pa, pc, rfl⟩ := hp.slice
  have hb1 := Lib.hid hb0
  have hrow := Lib.hid hr0
  have hres := Lib.hid hr1
  have hlt := Lib.hid (Array.getElem?_eq_some_iff.1 hr0).1
  have hlt1 := Lib.hid (Array.getElem?_eq_some_iff.1 hr1).1
  have hp1 := Lib.hid (hp.mono hb0)
  have hP := Lib.hid (fun wz => public_ok a h wz)
  have hpw := Lib.hid hp
  have hlF := Lib.hid hp.len
  generalize hy : grp.pw 4 a = y at *
  have hyu : y < 4294967296 := by rw [← hy]; exact pw_u32 4 a
  have hf0 := frozen_of_row W w.heap.size 0 _ _ hr0
  have hc0 : W.cell? ⟨w.heap.size, 0, none⟩ = some (.int .u32 (o.au : Int)) := by rw [cell_of_row _ _ _ _ _ _ hr0]; rfl
  have hM := Lib.hid (fun (wz : World) (hb : Below w.heap.size w wz) => (opMessage_any (o.byA y) (fit_by fo y hyu) (.slice pa o.n pc) wz (hpw.out.mono hb)).mono (fun e w' hq => show e = .returned (.tuple #[.slice none 0 0, .int .i64 (chkO (o.byA y).bare)]) ∧ Below wz.heap.size wz w' from ⟨by have h1 := hq.1; rw [if_neg h0] at h1; exact h1, hq.2⟩))
  generalize chkO (o.byA y).bare = CE at *
  have hE : (CE != 0) = true := by simpa using h0
  clear hr0 hr1 hb0 hp fo h hy h0
  go_enter Tryz.func41, Tryz.ntmps41
  go_upto_region 1 with fail
  change Code.wp _ _ _ _ ((w.alloc (.cells (o.c (.slice pa o.n pc)) 35)).alloc (.cells (zO.c (.slice none 0 0)) 35))
  rw [← hW]
  clear hW
  go_upto_region 4 with (go_at_call 72; (with_reducible refine (hP.out _).mono ?_); rintro e w3 ⟨rfl, q2⟩; have hB := Lib.hid (hb1.out.trans (Below.mono q2 hb1.out.size)); have hr := Lib.hid (rowB hrow.out q2 hlt.out); have hs := Lib.hid (rowB hres.out q2 hlt1.out); clear q2 hc0 hf0)
  have f0 := frozen_of_row w3 w.heap.size 0 _ _ hr.out
  have d0 : w3.cell? ⟨w.heap.size, 0, none⟩ = some (.int .u32 (o.au : Int)) := by rw [cell_of_row _ _ _ _ _ _ hr.out]; rfl
  have hset := Lib.hid (set_au hr.out y)
  go_upto_region 5 with fail
  rw [hset.out]
  clear hset f0 d0
  replace hs := Lib.hid ((setRow_other w3 w.heap.size (w.heap.size + 1) ((o.byA y).c (.slice pa o.n pc)) (by omega)).trans hs.out)
  replace hr := Lib.hid (setRow_heap w3 w.heap.size _ ((o.byA y).c (.slice pa o.n pc)) _ _ hr.out)
  replace hB := Lib.hid (show Below w.heap.size w (w3.setRow w.heap.size ((o.byA y).c (.slice pa o.n pc))) from below_setRow' hB.out (Nat.le_refl _) _)
  generalize w3.setRow w.heap.size ((o.byA y).c (.slice pa o.n pc)) = w4 at *
  go_wp2_with (first
    | (refine wpList_load_row_g rfl 35 _ rfl w.heap.size rfl 35 ((o.byA y).c (.slice pa o.n pc)) (0, 0) _ hr.out Tryz.underlying35 rfl info_op ?_)
    | (go_at_call 40; (with_reducible refine (hM.out _ hB.out).mono ?_); rintro e w5 ⟨rfl, q2⟩; replace hr := Lib.hid (rowB hr.out q2 (Array.getElem?_eq_some_iff.1 hr.out).1); replace hs := Lib.hid (rowB hs.out q2 (Array.getElem?_eq_some_iff.1 hs.out).1); replace hB := Lib.hid (hB.out.trans (Below.mono q2 hB.out.size)); clear q2)
    | (refine storeOver _ (w.heap.size + 1) _ rfl 35 _ _ rfl (zO.c (.slice none 0 0)) 35 hs.out rfl rfl info_op rfl (op_one _ _ _ _) ?_; intro w6 hr5 hb5; have hr5' := Lib.hid hr5; have hb5' := Lib.hid hb5; clear hr5 hb5))
  exact bodyPost_ret (results_row_tmp rfl _ _ (w.heap.size + 1) 35 _ _ _ rfl hr5'.out Tryz.underlying35 rfl info_op) rfl ⟨rfl, hB.out.trans (hb5'.out.mono (by omega))⟩
set_option maxHeartbeats 8000000 in
set_option maxRecDepth 100000 in
theorem opSign_ok (a : Nat) (h : 1 ≤ a ∧ a < 500000003) (o : Od) (fo : o.Fit) (pv : Value) (w : World) (hp : RdI w pv o.n o.F) (hG : GlobW w) (h0 : chkO (o.byA (grp.pw 4 a)).bare = 0) :
    Calls Tryz.prog 41 #[.int .u32 (a : Int), .agg (o.c pv)] w fun e w' => ∃ qv, e = .returned (.tuple #[.agg ((o.sigd (grp.pw 4 a) (eN a (msgB (o.byA (grp.pw 4 a)))) (sN a (msgB (o.byA (grp.pw 4 a))))).c qv), .int .i64 0]) ∧ RdI w' qv o.n o.F ∧ Below w.heap.size w w' := by
  obtain ⟨W, hW⟩ : ∃ W, W = (w.alloc (.cells (o.c pv) 35)).alloc (.cells (zO.c (.slice none 0 0)) 35) := ⟨_, rfl⟩
  have hr0 : W.heap[w.heap.size]? = some (.cells (o.c pv) 35 (0, 0)) := by rw [hW]; exact rowB (heap_alloc_new w _) (below_a _ _) (by simp)
  have hr1 : W.heap[w.heap.size + 1]? = some (.cells (zO.c (.slice none 0 0)) 35 (0, 0)) := by rw [hW]; exact hn2 w _ _
  have hb0 : Below w.heap.size w W := by rw [hW]; exact ((Below.refl w.heap.size w).alloc (Nat.le_refl _) _).alloc (by simp) _
  obtain ⟨pa, pc, rfl⟩ := hp.slice
  have hb1 := Lib.hid hb0
  have hrow := Lib.hid hr0
  have hres := Lib.hid hr1
  have hlt := Lib.hid (Array.getElem?_eq_some_iff.1 hr0).1
  have hlt1 := Lib.hid (Array.getElem?_eq_some_iff.1 hr1).1
  have hp1 := Lib.hid (hp.mono hb0)
  have hP := Lib.hid (fun wz => public_ok a h wz)
  have hpw := Lib.hid hp
  have hlF := Lib.hid hp.len
  generalize hy : grp.pw 4 a = y at *
  have hyu : y < 4294967296 := by rw [← hy]; exact pw_u32 4 a
  have hf0 := frozen_of_row W w.heap.size 0 _ _ hr0
  have hc0 : W.cell? ⟨w.heap.size, 0, none⟩ = some (.int .u32 (o.au : Int)) := by rw [cell_of_row _ _ _ _ _ _ hr0]; rfl
  have hM := Lib.hid (fun (wz : World) (hb : Below w.heap.size w wz) => (opMessage_any (o.byA y) (fit_by fo y hyu) (.slice pa o.n pc) wz (hpw.out.mono hb)).mono (fun e w' hq => show ∃ sv, e = .returned (.tuple #[sv, .int .i64 0]) ∧ RdB w' sv (msgB (o.byA y)) ∧ Below wz.heap.size wz w' from by have h1 := hq.1; rw [if_pos h0] at h1; obtain ⟨sv, h2, h3⟩ := h1; exact ⟨sv, h2, h3.rd, hq.2⟩))
  have hSg := Lib.hid (fun (wz : World) (v : Value) (hb : Below w.heap.size w wz) (hv : RdB wz v (msgB (o.byA y))) => sign_ok a h v (msgB (o.byA y)) wz hv (msgB_bytes (o.byA y) (fit_by fo y hyu) (chk_zero h0).1 (chk_zero h0).2.2) (Nat.le_trans (msgB_short (o.byA y) (fit_by fo y hyu) (chk_zero h0).1 hlF.out (chk_zero h0).2.2) (by decide)) (hG.mono hb))
  have hn20 : o.n ≤ 20 := Nat.le_trans (chk_zero h0).1 (by decide)
  have hCp := Lib.hid (fun (e s : Nat) (wz : World) (hb : Below w.heap.size w wz) => copied_any (o.sigd y e s) hn20 fo.key fo.v.s (.slice pa o.n pc) wz (hpw.out.mono hb))
  have hml := Lib.hid (show ∃ N, (msgB (o.byA y)).length = N from ⟨_, rfl⟩)
  generalize eN a (msgB (o.byA y)) = E at *
  generalize sN a (msgB (o.byA y)) = S at *
  generalize msgB (o.byA y) = MB at *
  clear hr0 hr1 hb0 hp fo hG h hy h0 hn20 hlF
  go_enter Tryz.func41, Tryz.ntmps41
  go_upto_region 1 with fail
  change Code.wp _ _ _ _ ((w.alloc (.cells (o.c (.slice pa o.n pc)) 35)).alloc (.cells (zO.c (.slice none 0 0)) 35))
  rw [← hW]
  clear hW
  go_upto_region 4 with (go_at_call 72; (with_reducible refine (hP.out _).mono ?_); rintro e w3 ⟨rfl, q2⟩; have hB := Lib.hid (hb1.out.trans (Below.mono q2 hb1.out.size)); have hr := Lib.hid (rowB hrow.out q2 hlt.out); have hs := Lib.hid (rowB hres.out q2 hlt1.out); clear q2 hc0 hf0)
  have f0 := frozen_of_row w3 w.heap.size 0 _ _ hr.out
  have d0 : w3.cell? ⟨w.heap.size, 0, none⟩ = some (.int .u32 (o.au : Int)) := by rw [cell_of_row _ _ _ _ _ _ hr.out]; rfl
  have hset := Lib.hid (set_au hr.out y)
  go_upto_region 5 with fail
  rw [hset.out]
  clear hset f0 d0
  replace hs := Lib.hid ((setRow_other w3 w.heap.size (w.heap.size + 1) ((o.byA y).c (.slice pa o.n pc)) (by omega)).trans hs.out)
  replace hr := Lib.hid (setRow_heap w3 w.heap.size _ ((o.byA y).c (.slice pa o.n pc)) _ _ hr.out)
  replace hB := Lib.hid (show Below w.heap.size w (w3.setRow w.heap.size ((o.byA y).c (.slice pa o.n pc))) from below_setRow' hB.out (Nat.le_refl _) _)
  generalize w3.setRow w.heap.size ((o.byA y).c (.slice pa o.n pc)) = w4 at *
  go_upto_region 8 with (first
    | (refine wpList_load_row_g rfl 35 _ rfl w.heap.size rfl 35 ((o.byA y).c (.slice pa o.n pc)) (0, 0) _ hr.out Tryz.underlying35 rfl info_op ?_)
    | (go_at_call 40; (with_reducible refine (hM.out _ hB.out).mono ?_); rintro e w5 ⟨sv, rfl, q1, q2⟩; replace hr := Lib.hid (rowB hr.out q2 (Array.getElem?_eq_some_iff.1 hr.out).1); replace hs := Lib.hid (rowB hs.out q2 (Array.getElem?_eq_some_iff.1 hs.out).1); replace hB := Lib.hid (hB.out.trans (Below.mono q2 hB.out.size)); have hO := Lib.hid q1; obtain ⟨ma, mc, hz⟩ := hO.out.slice; subst hz; clear q1 q2))
  go_wp2_with (go_at_call 73; (with_reducible refine (hSg.out _ _ hB.out hO.out).mono ?_); rintro e w6 ⟨rfl, q2⟩; replace hr := Lib.hid (rowB hr.out q2 (Array.getElem?_eq_some_iff.1 hr.out).1); replace hs := Lib.hid (rowB hs.out q2 (Array.getElem?_eq_some_iff.1 hs.out).1); replace hB := Lib.hid (hB.out.trans (Below.mono q2 hB.out.size)); have g9 := frozen_of_row w6 w.heap.size 9 _ _ hr.out; have g10 := frozen_of_row w6 w.heap.size 10 _ _ hr.out; have hx := (cellsO hr.out); have x9 := hx.2.2.2.2.2.1; have x10 := hx.2.2.2.2.2.2; have hset := Lib.hid (set_es (o := o) y E S hr.out); clear q2 hx; refine Stop.go'' _ ?_)
  refine StopP.go ?_
  go_upto_region 9 with fail
  rw [hset.out]
  clear hset g9 g10 x9 x10
  replace hs := Lib.hid ((setRow_other w6 w.heap.size (w.heap.size + 1) ((o.sigd y E S).c (.slice pa o.n pc)) (by omega)).trans hs.out)
  replace hr := Lib.hid (setRow_heap w6 w.heap.size _ ((o.sigd y E S).c (.slice pa o.n pc)) _ _ hr.out)
  replace hB := Lib.hid (show Below w.heap.size w (w6.setRow w.heap.size ((o.sigd y E S).c (.slice pa o.n pc))) from below_setRow' hB.out (Nat.le_refl _) _)
  generalize w6.setRow w.heap.size ((o.sigd y E S).c (.slice pa o.n pc)) = w7 at *
  have hl7 := Lib.hid (Array.getElem?_eq_some_iff.1 hs.out).1
  go_wp2_with (first
    | (refine wpList_load_row_g rfl 35 _ rfl w.heap.size rfl 35 ((o.sigd y E S).c (.slice pa o.n pc)) (0, 0) _ hr.out Tryz.underlying35 rfl info_op ?_)
    | (go_at_call 74; (with_reducible refine (hCp.out E S _ hB.out).mono ?_); rintro e w8 ⟨qv, rfl, q1, q2⟩; replace hr := Lib.hid (rowB hr.out q2 (Array.getElem?_eq_some_iff.1 hr.out).1); replace hs := Lib.hid (rowB hs.out q2 (Array.getElem?_eq_some_iff.1 hs.out).1); replace hB := Lib.hid (hB.out.trans (Below.mono q2 hB.out.size)); have hq := Lib.hid q1; obtain ⟨qa, qc, hz⟩ := hq.out.rd.slice; subst hz; clear q1 q2)
    | (refine wpList_store_row rfl 35 _ _ rfl (w.heap.size + 1) ((o.sigd y E S).c (.slice qa o.n qc)) rfl rfl 35 _ hs.out info_op rfl (op_one (o.sigd y E S) _ _ _) ?_))
  exact bodyPost_ret (results_row_tmp rfl _ _ (w.heap.size + 1) 35 _ _ _ rfl (setRow_heap _ _ _ _ _ _ hs.out) Tryz.underlying35 rfl info_op) rfl ⟨_, rfl, (ownI_setRow hq.out hl7.out _).rd, below_setRow' hB.out (by omega) _⟩
end Go.Proofs.YtdlblhoaddfanaaGreatDoor.wir.val
namespace Go.Proofs.YtdlblhoaddfanaaGreatDoor.wir.val
open Go.RowKit Go.YtdlblhoaddfanaaGreatDoor
set_option linter.unusedVariables false
/-- The operation of the examples. -/
def gO : Od := ⟨4, 0, [], 7, 2, ⟨#[97]⟩, ⟨0, 0, 0, ⟨#[]⟩⟩, 5, 6⟩
theorem gO_fit : gO.Fit := ⟨by decide, bytes_nil, by decide, by decide, by decide, by decide, ⟨by decide, by decide, by decide, by decide⟩, by decide, by decide⟩
theorem gO_rd (w : World) : RdI w (.slice none 0 0) gO.n gO.F := .inl ⟨none, 0, rfl, fun _ => rfl, rfl, rfl⟩
theorem gO_act : actB gO.k gO.key gO.v = true := by decide +kernel
theorem gO_ok2 : (decide ((gO.st : Int) ≤ 1000000000000) && actB gO.k gO.key gO.v) = true := by decide +kernel
theorem okO_of (o : Od) (h1 : grp.inG o.au = true) (h2 : (decide ((o.st : Int) ≤ 1000000000000) && actB o.k o.key o.v) = true) (h3 : sigB (o.e : Int) (o.s : Int) = true) : okO o = true := by
  unfold okO
  rw [h1, h3, Bool.and_true, h2]; rfl
theorem gO_sig : sigB 5 6 = true := by decide +kernel
theorem gO_sig0 : sigB 0 0 = true := by decide +kernel
theorem gO_chk : chkO gO = 0 := chk_ok (by decide) rfl (okO_of gO grp.in4 gO_ok2 gO_sig)
theorem gO_bare : chkO gO.bare = 0 := chk_ok (by decide) rfl (okO_of gO.bare grp.in4 gO_ok2 gO_sig0)
theorem gO_msg : msgB gO = [111, 4, 0, 7, 2, 1, 97] := by decide +kernel
theorem gO_enc : encO gO = [111, 4, 0, 7, 2, 1, 97, 5, 6] := by decide +kernel
theorem gW_chk : chkO (gO.byA 5) = 8 := chk_bad (by decide) rfl (by unfold okO; rw [show grp.inG (gO.byA 5).au = false from grp.in5]; exact Bool.false_and _)
theorem gS_bare : chkO (gO.byA 16).bare = 0 := chk_ok (by decide) rfl (okO_of (gO.byA 16).bare in16 gO_ok2 gO_sig0)
theorem sigB_nat (e s : Nat) (he : e < 500000003) (hs : s < 500000003) : sigB (e : Int) (s : Int) = true := by
  show (decide ((e : Int) < 500000003) && decide ((s : Int) < 500000003)) = true
  rw [← nat_int_lt, ← nat_int_lt, decide_eq_true he, decide_eq_true hs]; rfl
theorem gS_chk (e s : Nat) (he : e < 500000003) (hs : s < 500000003) : chkO (gO.sigd 16 e s) = 0 := chk_ok (show ¬ 4 < 0 by decide) rfl (okO_of (gO.sigd 16 e s) in16 gO_ok2 (sigB_nat e s he hs))
theorem ver_sigd (o : Od) (y e s : Nat) : verO (o.sigd y e s) = if chkO (o.sigd y e s) = 0 then (if rightB y (msgB (o.byA y)) s e then 0 else 22) else chkO (o.sigd y e s) := rfl
theorem ver_zero (o : Od) (y e s : Nat) (h1 : chkO (o.sigd y e s) = 0) (h2 : rightB y (msgB (o.byA y)) s e = true) : verO (o.sigd y e s) = 0 := by
  rw [ver_sigd, if_pos h1, h2]; exact if_pos rfl
theorem gS_right (m : List Int) : rightB 16 m (sN 2 m) (eN 2 m) = true := by
  have h := signed_right 2 m
  rw [pw42] at h
  exact h
theorem opSign_ok' (a y : Nat) (hy : grp.pw 4 a = y) (h : 1 ≤ a ∧ a < 500000003) (o : Od) (fo : o.Fit) (pv : Value) (w : World) (hp : RdI w pv o.n o.F) (hG : GlobW w) (h0 : chkO (o.byA y).bare = 0) :
    Calls Tryz.prog 41 #[.int .u32 (a : Int), .agg (o.c pv)] w fun e w' => ∃ qv, e = .returned (.tuple #[.agg ((o.sigd y (eN a (msgB (o.byA y))) (sN a (msgB (o.byA y)))).c qv), .int .i64 0]) ∧ RdI w' qv o.n o.F ∧ Below w.heap.size w w' := by
  subst hy
  exact opSign_ok a h o fo pv w hp hG h0
/-- What the example's signature is. -/
structure SigG where
  E : Nat
  S : Nat
  sign : ∀ w, GlobW w → Calls Tryz.prog 41 #[.int .u32 2, .agg (gO.c (.slice none 0 0))] w fun e w' => ∃ qv, e = .returned (.tuple #[.agg ((gO.sigd 16 E S).c qv), .int .i64 0]) ∧ RdI w' qv gO.n gO.F ∧ Below w.heap.size w w'
  ver : ∀ w v, GlobW w → RdI w v gO.n gO.F → Calls Tryz.prog 19 #[.agg ((gO.sigd 16 E S).c v)] w fun e w' => e = .returned (.int .i64 0) ∧ Below w.heap.size w w'
theorem fit_sigd {o : Od} (h : o.Fit) (y e s : Nat) (hy : y < 4294967296) (he : e < 500000003) (hs : s < 500000003) : (o.sigd y e s).Fit := ⟨hy, h.F, h.n, h.st, h.k, h.key, h.v, Nat.lt_trans he (by decide), Nat.lt_trans hs (by decide)⟩
theorem ver_of (e s : Nat) (he : e < 500000003) (hs : s < 500000003) (h2 : rightB 16 (msgB (gO.byA 16)) s e = true) (w : World) (v : Value) (hg : GlobW w) (hv : RdI w v gO.n gO.F) : Calls Tryz.prog 19 #[.agg ((gO.sigd 16 e s).c v)] w fun e w' => e = .returned (.int .i64 0) ∧ Below w.heap.size w w' := by
  have h := opVerify_any (gO.sigd 16 e s) (fit_sigd gO_fit 16 e s (by decide) he hs) v w hv hg
  rw [ver_zero gO 16 e s (gS_chk e s he hs) h2] at h
  exact h
theorem mkSig (e s : Nat) (hE : eN 2 (msgB (gO.byA 16)) = e) (hS : sN 2 (msgB (gO.byA 16)) = s) : Nonempty SigG := ⟨{
  E := e
  S := s
  sign := fun w hg => by
    have h := opSign_ok' 2 16 pw42 ⟨by decide, by decide⟩ gO gO_fit (.slice none 0 0) w (gO_rd w) hg gS_bare
    rw [hE, hS] at h
    exact h
  ver := fun w v hg hv => ver_of e s (by rw [← hE]; exact eN_lt _ _) (by rw [← hS]; exact sN_lt _ _) (by have h := gS_right (msgB (gO.byA 16)); rw [hE, hS] at h; exact h) w v hg hv }⟩
theorem sigG : Nonempty SigG := mkSig _ _ rfl rfl
theorem msg_ok (o : Od) (fo : o.Fit) (pv : Value) (w : World) (hp : RdI w pv o.n o.F) (h0 : chkO o.bare = 0) (M : List Int) (hM : msgB o = M) :
    Calls Tryz.prog 40 #[.agg (o.c pv)] w fun e w' => ∃ sv, e = .returned (.tuple #[sv, .int .i64 0]) ∧ RdB w' sv M ∧ Below w.heap.size w w' :=
  (opMessage_any o fo pv w hp).mono (fun e w' hq => by
    have h1 := hq.1
    rw [if_pos h0] at h1
    obtain ⟨sv, h2, h3⟩ := h1
    rw [hM] at h3
    exact ⟨sv, h2, h3.rd, hq.2⟩)
theorem enc_okO (o : Od) (fo : o.Fit) (pv : Value) (w : World) (hp : RdI w pv o.n o.F) (h0 : chkO o = 0) (E : List Int) (hE : encO o = E) :
    Calls Tryz.prog 36 #[.agg (o.c pv)] w fun e w' => ∃ sv, e = .returned (.tuple #[sv, .int .i64 0]) ∧ RdB w' sv E ∧ Below w.heap.size w w' :=
  (opEncode_ok o fo pv w hp h0).mono (fun e w' ⟨sv, h2, h3, h4⟩ => by
    rw [hE] at h3
    exact ⟨sv, h2, h3.rd, h4⟩)
theorem given_any (w : World) : Calls Tryz.prog 43 #[] w fun e w' => e = .returned (.agg (gO.c (.slice none 0 0))) ∧ Below w.heap.size w w' := by
  go_enter Tryz.func43, Tryz.ntmps43
  go_wp2
  exact bodyPost_ret (results_cell_row rfl _ _ w.heap.size 35 _ _ _ rfl (heap_alloc_new w _) Tryz.underlying35 rfl info_op) rfl ⟨rfl, (Below.refl _ _).alloc (Nat.le_refl _) _⟩
set_option maxHeartbeats 8000000 in
set_option maxRecDepth 100000 in
theorem alive6 (w : World) (hG0 : GlobW w) : Calls Tryz.prog 44 #[] w fun e w' => e = .returned (.bool true) ∧ Below w.heap.size w w' := by
  have hG := Lib.hid hG0
  have hS := Lib.hid (Below.refl w.heap.size w)
  have hM := Lib.hid (fun wz => msg_ok gO gO_fit (.slice none 0 0) wz (gO_rd wz) gO_bare _ gO_msg)
  have hE := Lib.hid (fun wz => enc_okO gO gO_fit (.slice none 0 0) wz (gO_rd wz) gO_chk _ gO_enc)
  have hW := Lib.hid (fun wz => opCheck_any (gO.byA 5) (fit_by gO_fit 5 (by decide)) (.slice none 0 0) wz (gO_rd wz))
  rw [gW_chk] at hW
  obtain ⟨⟨E, S, hSg0, hV0⟩⟩ := sigG
  have hSg := Lib.hid hSg0
  have hV := Lib.hid hV0
  clear hG0 hSg0 hV0
  go_enter Tryz.func44, Tryz.ntmps44
  go_upto_region 2 with (first | (go_at_call 43; (with_reducible refine (given_any _).mono ?_); rintro e w4 ⟨rfl, q2⟩; (try replace r5 := Lib.hid (rowB r5.out q2 (Array.getElem?_eq_some_iff.1 r5.out).1)); (try replace r6 := Lib.hid (rowB r6.out q2 (Array.getElem?_eq_some_iff.1 r6.out).1)); (try replace hq := Lib.hid (hq.out.mono q2)); (try replace hG := Lib.hid (hG.out.mono q2)); (try replace x1 := Lib.hid (x1.out.mono q2)); (try replace x3 := Lib.hid (x3.out.mono q2)); replace hS := Lib.hid (hS.out.trans (Below.mono q2 hS.out.size)); clear q2) | (go_at_call 40; (with_reducible refine (hM.out _).mono ?_); rintro e w4 ⟨sv, rfl, q1, q2⟩; (try replace r5 := Lib.hid (rowB r5.out q2 (Array.getElem?_eq_some_iff.1 r5.out).1)); (try replace r6 := Lib.hid (rowB r6.out q2 (Array.getElem?_eq_some_iff.1 r6.out).1)); (try replace hq := Lib.hid (hq.out.mono q2)); (try replace hG := Lib.hid (hG.out.mono q2)); (try replace x1 := Lib.hid (x1.out.mono q2)); (try replace x3 := Lib.hid (x3.out.mono q2)); replace hS := Lib.hid (hS.out.trans (Below.mono q2 hS.out.size)); have x1 := Lib.hid q1; obtain ⟨sx1, tx1, hz4⟩ := x1.out.slice; subst hz4; clear q1 q2))
  go_upto_region 3 with (first | (go_at_call 43; (with_reducible refine (given_any _).mono ?_); rintro e w4 ⟨rfl, q2⟩; (try replace r5 := Lib.hid (rowB r5.out q2 (Array.getElem?_eq_some_iff.1 r5.out).1)); (try replace r6 := Lib.hid (rowB r6.out q2 (Array.getElem?_eq_some_iff.1 r6.out).1)); (try replace hq := Lib.hid (hq.out.mono q2)); (try replace hG := Lib.hid (hG.out.mono q2)); (try replace x1 := Lib.hid (x1.out.mono q2)); (try replace x3 := Lib.hid (x3.out.mono q2)); replace hS := Lib.hid (hS.out.trans (Below.mono q2 hS.out.size)); clear q2) | (go_at_call 36; (with_reducible refine (hE.out _).mono ?_); rintro e w4 ⟨sv, rfl, q1, q2⟩; (try replace r5 := Lib.hid (rowB r5.out q2 (Array.getElem?_eq_some_iff.1 r5.out).1)); (try replace r6 := Lib.hid (rowB r6.out q2 (Array.getElem?_eq_some_iff.1 r6.out).1)); (try replace hq := Lib.hid (hq.out.mono q2)); (try replace hG := Lib.hid (hG.out.mono q2)); (try replace x1 := Lib.hid (x1.out.mono q2)); (try replace x3 := Lib.hid (x3.out.mono q2)); replace hS := Lib.hid (hS.out.trans (Below.mono q2 hS.out.size)); have x3 := Lib.hid q1; obtain ⟨sx3, tx3, hz4⟩ := x3.out.slice; subst hz4; clear q1 q2))
  go_upto_region 4 with (go_at_call 43; (with_reducible refine (given_any _).mono ?_); rintro e w4 ⟨rfl, q2⟩; (try replace r5 := Lib.hid (rowB r5.out q2 (Array.getElem?_eq_some_iff.1 r5.out).1)); (try replace r6 := Lib.hid (rowB r6.out q2 (Array.getElem?_eq_some_iff.1 r6.out).1)); (try replace hq := Lib.hid (hq.out.mono q2)); (try replace hG := Lib.hid (hG.out.mono q2)); (try replace x1 := Lib.hid (x1.out.mono q2)); (try replace x3 := Lib.hid (x3.out.mono q2)); replace hS := Lib.hid (hS.out.trans (Below.mono q2 hS.out.size)); clear q2)
  go_upto_region 5 with fail
  change Code.wp _ _ _ _ (w4.alloc (.cells ((gO.byA 5).c (.slice none 0 0)) 35))
  have q2 := below_a w4 (.cells ((gO.byA 5).c (.slice none 0 0)) 35)
  have r5 := Lib.hid (heap_alloc_new w4 (.cells ((gO.byA 5).c (.slice none 0 0)) 35))
  replace hG := Lib.hid (hG.out.mono q2); replace x1 := Lib.hid (x1.out.mono q2); replace x3 := Lib.hid (x3.out.mono q2); replace hS := Lib.hid (hS.out.trans (Below.mono q2 hS.out.size))
  clear q2
  generalize w4.alloc (.cells ((gO.byA 5).c (.slice none 0 0)) 35) = w5 at *
  generalize w4.heap.size = g5 at *
  go_upto_region 6 with (first | (go_at_call 43; (with_reducible refine (given_any _).mono ?_); rintro e w4 ⟨rfl, q2⟩; (try replace r5 := Lib.hid (rowB r5.out q2 (Array.getElem?_eq_some_iff.1 r5.out).1)); (try replace r6 := Lib.hid (rowB r6.out q2 (Array.getElem?_eq_some_iff.1 r6.out).1)); (try replace hq := Lib.hid (hq.out.mono q2)); (try replace hG := Lib.hid (hG.out.mono q2)); (try replace x1 := Lib.hid (x1.out.mono q2)); (try replace x3 := Lib.hid (x3.out.mono q2)); replace hS := Lib.hid (hS.out.trans (Below.mono q2 hS.out.size)); clear q2) | (go_at_call 41; (with_reducible refine (hSg.out _ hG.out).mono ?_); rintro e w4 ⟨qv, rfl, q1, q2⟩; (try replace r5 := Lib.hid (rowB r5.out q2 (Array.getElem?_eq_some_iff.1 r5.out).1)); (try replace r6 := Lib.hid (rowB r6.out q2 (Array.getElem?_eq_some_iff.1 r6.out).1)); (try replace hq := Lib.hid (hq.out.mono q2)); (try replace hG := Lib.hid (hG.out.mono q2)); (try replace x1 := Lib.hid (x1.out.mono q2)); (try replace x3 := Lib.hid (x3.out.mono q2)); replace hS := Lib.hid (hS.out.trans (Below.mono q2 hS.out.size)); have hq := Lib.hid q1; obtain ⟨qa, qc, hz4⟩ := hq.out.slice; subst hz4; clear q1 q2))
  have q2 := below_a w4 (.cells ((gO.sigd 16 E S).c (.slice qa gO.n qc)) 35)
  have r6 := Lib.hid (heap_alloc_new w4 (.cells ((gO.sigd 16 E S).c (.slice qa gO.n qc)) 35))
  replace r5 := Lib.hid (rowB r5.out q2 (Array.getElem?_eq_some_iff.1 r5.out).1); replace hq := Lib.hid (hq.out.mono q2); replace hG := Lib.hid (hG.out.mono q2); replace x1 := Lib.hid (x1.out.mono q2); replace x3 := Lib.hid (x3.out.mono q2); replace hS := Lib.hid (hS.out.trans (Below.mono q2 hS.out.size))
  clear q2
  change Code.wp _ _ _ _ (w4.alloc (.cells ((gO.sigd 16 E S).c (.slice qa gO.n qc)) 35))
  generalize w4.alloc (.cells ((gO.sigd 16 E S).c (.slice qa gO.n qc)) 35) = w6 at *
  generalize w4.heap.size = g6 at *
  replace x1 := Lib.hid (show RdB w6 (.slice sx1 7 tx1) [111, 4, 0, 7, 2, 1, 97] from x1.out)
  replace x3 := Lib.hid (show RdB w6 (.slice sx3 9 tx3) [111, 4, 0, 7, 2, 1, 97, 5, 6] from x3.out)
  go_wp2_with (first | (go_at_call 78; (with_reducible refine (same_true _ _ [111, 4, 0, 7, 2, 1, 97] _ (by decide) (x1.out.mono (below_a _ (.cells #[.int .u8 111, .int .u8 4, .int .u8 0, .int .u8 7, .int .u8 2, .int .u8 1, .int .u8 97] 5))) (rdB_row (cs := [111, 4, 0, 7, 2, 1, 97]) (heap_alloc_new _ (.cells #[.int .u8 111, .int .u8 4, .int .u8 0, .int .u8 7, .int .u8 2, .int .u8 1, .int .u8 97] 5)) 7 rfl (by decide))).mono ?_); rintro e w7 ⟨rfl, q3⟩; have q2 := (below_a _ (.cells #[.int .u8 111, .int .u8 4, .int .u8 0, .int .u8 7, .int .u8 2, .int .u8 1, .int .u8 97] 5)).trans (Below.mono q3 (by simp)); replace r5 := Lib.hid (rowB r5.out q2 (Array.getElem?_eq_some_iff.1 r5.out).1); replace r6 := Lib.hid (rowB r6.out q2 (Array.getElem?_eq_some_iff.1 r6.out).1); replace hq := Lib.hid (hq.out.mono q2); replace hG := Lib.hid (hG.out.mono q2); replace x1 := Lib.hid (x1.out.mono q2); replace x3 := Lib.hid (x3.out.mono q2); replace hS := Lib.hid (hS.out.trans (Below.mono q2 hS.out.size)); clear q2 q3) | (go_at_call 78; (with_reducible refine (same_true _ _ [111, 4, 0, 7, 2, 1, 97, 5, 6] _ (by decide) (x3.out.mono (below_a _ (.cells #[.int .u8 111, .int .u8 4, .int .u8 0, .int .u8 7, .int .u8 2, .int .u8 1, .int .u8 97, .int .u8 5, .int .u8 6] 5))) (rdB_row (cs := [111, 4, 0, 7, 2, 1, 97, 5, 6]) (heap_alloc_new _ (.cells #[.int .u8 111, .int .u8 4, .int .u8 0, .int .u8 7, .int .u8 2, .int .u8 1, .int .u8 97, .int .u8 5, .int .u8 6] 5)) 9 rfl (by decide))).mono ?_); rintro e w7 ⟨rfl, q3⟩; have q2 := (below_a _ (.cells #[.int .u8 111, .int .u8 4, .int .u8 0, .int .u8 7, .int .u8 2, .int .u8 1, .int .u8 97, .int .u8 5, .int .u8 6] 5)).trans (Below.mono q3 (by simp)); replace r5 := Lib.hid (rowB r5.out q2 (Array.getElem?_eq_some_iff.1 r5.out).1); replace r6 := Lib.hid (rowB r6.out q2 (Array.getElem?_eq_some_iff.1 r6.out).1); replace hq := Lib.hid (hq.out.mono q2); replace hG := Lib.hid (hG.out.mono q2); replace x1 := Lib.hid (x1.out.mono q2); replace x3 := Lib.hid (x3.out.mono q2); replace hS := Lib.hid (hS.out.trans (Below.mono q2 hS.out.size)); clear q2 q3) | (refine wpList_load_row_g rfl 35 _ rfl g5 rfl 35 ((gO.byA 5).c (.slice none 0 0)) (0, 0) _ r5.out Tryz.underlying35 rfl info_op ?_) | (go_at_call 42; (with_reducible refine (hW.out _).mono ?_); rintro e w7 ⟨rfl, q2⟩; replace r5 := Lib.hid (rowB r5.out q2 (Array.getElem?_eq_some_iff.1 r5.out).1); replace r6 := Lib.hid (rowB r6.out q2 (Array.getElem?_eq_some_iff.1 r6.out).1); replace hq := Lib.hid (hq.out.mono q2); replace hG := Lib.hid (hG.out.mono q2); replace x1 := Lib.hid (x1.out.mono q2); replace x3 := Lib.hid (x3.out.mono q2); replace hS := Lib.hid (hS.out.trans (Below.mono q2 hS.out.size)); clear q2; have a6 := (cellsO r6.out).1) | (refine wpList_load_row_g rfl 35 _ rfl g6 rfl 35 ((gO.sigd 16 E S).c (.slice qa gO.n qc)) (0, 0) _ r6.out Tryz.underlying35 rfl info_op ?_) | (go_at_call 19; (with_reducible refine (hV.out _ _ hG.out hq.out).mono ?_); rintro e w8 ⟨rfl, q2⟩; replace r5 := Lib.hid (rowB r5.out q2 (Array.getElem?_eq_some_iff.1 r5.out).1); replace r6 := Lib.hid (rowB r6.out q2 (Array.getElem?_eq_some_iff.1 r6.out).1); replace hq := Lib.hid (hq.out.mono q2); replace hG := Lib.hid (hG.out.mono q2); replace x1 := Lib.hid (x1.out.mono q2); replace x3 := Lib.hid (x3.out.mono q2); replace hS := Lib.hid (hS.out.trans (Below.mono q2 hS.out.size)); clear q2))
  go_ret
  exact ⟨rfl, hS.out⟩
end Go.Proofs.YtdlblhoaddfanaaGreatDoor.wir.val
namespace Go.Proofs.YtdlblhoaddfanaaGreatDoor.wir.val
open Go.RowKit Go.YtdlblhoaddfanaaGreatDoor
set_option linter.unusedVariables false
end Go.Proofs.YtdlblhoaddfanaaGreatDoor.wir.val
namespace Go.Proofs.YtdlblhoaddfanaaGreatDoor.wir.val
open Go.RowKit Go.YtdlblhoaddfanaaGreatDoor
set_option linter.unusedVariables false
end Go.Proofs.YtdlblhoaddfanaaGreatDoor.wir.val
namespace Go.Proofs.YtdlblhoaddfanaaGreatDoor.wir.val.top
open Go.RowKit Go.YtdlblhoaddfanaaGreatDoor
set_option linter.unusedVariables false
def wO (k : Int) (key : ByteArray) (v : Va) : Od := ⟨4, 0, [], 7, k, key, v, 5, 6⟩
def zC : Array Value := #[.int .u32 0, .slice none 0 0, .int .u64 0, .int .u8 0, .string ⟨#[]⟩, .int .u8 0, .int .i64 0, .int .u64 0, .string ⟨#[]⟩, .int .u32 0, .int .u32 0]
theorem there_rowO {w : World} {g : Nat} {cs : Array Value} {T : TypeId} (hg : w.heap[g]? = some (.cells cs T (0, 0))) (o n : Nat) (h : o + n ≤ cs.size) : w.there g o n := fun j hj => by
  refine ⟨?_, by simp [World.frozen?, hg]⟩
  rw [cell_of_row _ _ _ _ _ _ hg, Array.getElem?_eq_getElem (by omega)]
  rfl
theorem range_rowO {w : World} {g : Nat} {cs : Array Value} {T : TypeId} {r : Nat × Nat} (hg : w.heap[g]? = some (.cells cs T r)) (o : Nat) (xs : List Value) (hx : (cs.toList.drop o).take xs.length = xs) : w.rangeAt g o xs := fun j v hv => by
  have hj : j < xs.length := (List.getElem?_eq_some_iff.1 hv).1
  rw [← hx, List.getElem?_take, if_pos (by simpa [hx] using hj), List.getElem?_drop] at hv
  show w.cell? ⟨g, o + j, none⟩ = some v
  rw [cell_of_row _ _ _ _ _ _ hg]
  simpa using hv
theorem range_join {w : World} {b o m : Nat} {xs ys : List Value} (hm : o + xs.length = m) (h1 : w.rangeAt b o xs) (h2 : w.rangeAt b m ys) : w.rangeAt b o (xs ++ ys) := fun j v hv => by
  by_cases hj : j < xs.length
  · rw [List.getElem?_append_left hj] at hv
    exact h1 j v hv
  · rw [List.getElem?_append_right (by omega)] at hv
    have := h2 (j - xs.length) v hv
    rw [show m + (j - xs.length) = o + j by omega] at this
    exact this
theorem below_cellsO {B : Nat} {a : World} (b : Nat) (hb : B ≤ b) : ∀ (vs : List Value) (o : Nat) {w : World}, Below B a w → Below B a (w.setCells b o vs)
  | [], _, _, h => h
  | v :: r, o, _, h => below_cellsO b hb r (o + 1) (h.setCell (p := ⟨b, o, none⟩) hb v)
theorem heap_cellsO {i b : Nat} (hne : i ≠ b) : ∀ (vs : List Value) (o : Nat) (w : World), (w.setCells b o vs).heap[i]? = w.heap[i]?
  | [], _, _ => rfl
  | v :: r, o, w => (heap_cellsO hne r (o + 1) (w.setCell ⟨b, o, none⟩ v)).trans (setCell_rows b o v i hne)
set_option maxHeartbeats 4000000 in
set_option maxRecDepth 100000 in
theorem with_any (k : Int) (key : ByteArray) (v : Va) (w : World) : Calls Tryz.prog 37 #[.agg (aC k key v)] w fun e w' => e = .returned (.agg ((wO k key v).c (.slice none 0 0))) ∧ Below w.heap.size w w' := by
  obtain ⟨W, hW⟩ : ∃ W, W = (w.alloc (.cells (aC k key v) 31)).alloc (.cells #[.int .u32 0, .slice none 0 0, .int .u64 0, .int .u8 0, .string ⟨#[]⟩, .int .u8 0, .int .i64 0, .int .u64 0, .string ⟨#[]⟩, .int .u32 0, .int .u32 0] 35) := ⟨_, rfl⟩
  have hS := Lib.hid (show Below w.heap.size w W by rw [hW]; exact ((Below.refl w.heap.size w).alloc (Nat.le_refl _) _).alloc (by simp) _)
  have r0 := Lib.hid (show W.heap[w.heap.size]? = some (.cells (aC k key v) 31 (0, 0)) by rw [hW]; exact rowB (heap_alloc_new w _) (below_a _ _) (by simp))
  have r1 := Lib.hid (show W.heap[w.heap.size + 1]? = some (.cells zC 35 (0, 0)) by rw [hW]; exact hn2 w _ _)
  have hz := Lib.hid (show w.heap.size + 1 < W.heap.size by rw [hW]; simp)
  go_enter Tryz.func37, Tryz.ntmps37
  go_upto_region 1 with fail
  rw [← hW]
  clear hW
  go_upto_region 2 with (go_at_call 43; (with_reducible refine (given_any _).mono ?_); rintro e9 w4 ⟨rfl, q2⟩; replace r0 := Lib.hid (rowB r0.out q2 (Array.getElem?_eq_some_iff.1 r0.out).1); replace r1 := Lib.hid (rowB r1.out q2 (Array.getElem?_eq_some_iff.1 r1.out).1); replace hz := Lib.hid (Nat.lt_of_lt_of_le hz.out q2.size); replace hS := Lib.hid (hS.out.trans (Below.mono q2 hS.out.size)); clear q2)
  obtain ⟨W5, hW5⟩ : ∃ W, W = w4.alloc (.cells #[.int .u32 (gO.au : Int), .slice none 0 0, .int .u64 (gO.st : Int), .int .u8 gO.k, .string gO.key, .int .u8 gO.v.k, .int .i64 gO.v.n, .int .u64 (gO.v.b : Int), .string gO.v.s, .int .u32 (gO.e : Int), .int .u32 (gO.s : Int)] 35) := ⟨_, rfl⟩
  rw [← hW5]
  have q2 := Lib.hid (show Below w4.heap.size w4 W5 by rw [hW5]; exact below_a w4 _)
  have r3 := Lib.hid (show W5.heap[w4.heap.size]? = some (.cells (gO.c (.slice none 0 0)) 35 (0, 0)) by rw [hW5]; exact heap_alloc_new w4 _)
  replace r0 := Lib.hid (rowB r0.out q2.out (Array.getElem?_eq_some_iff.1 r0.out).1)
  replace r1 := Lib.hid (rowB r1.out q2.out (Array.getElem?_eq_some_iff.1 r1.out).1)
  replace hS := Lib.hid (hS.out.trans (Below.mono q2.out hS.out.size))
  obtain ⟨g3, hg3⟩ : ∃ g, g = w4.heap.size := ⟨_, rfl⟩
  rw [← hg3] at r3 hz
  rw [← hg3]
  clear q2 hW5 hg3
  have hT := Lib.hid (there_rowO r3.out 3 6 (by show 3 + 6 ≤ 11; omega))
  obtain ⟨W6, hW6⟩ : ∃ W, W = W5.setCells g3 3 (aC k key v).toList := ⟨_, rfl⟩
  have m6 := Lib.hid (show W6.rangeAt g3 0 ((wO k key v).c (.slice none 0 0)).toList by
    rw [hW6]
    exact range_join (xs := [.int .u32 4, .slice none 0 0, .int .u64 7]) (m := 3) rfl (World.rangeAt_setCells_apart (range_rowO r3.out 0 _ rfl) g3 3 _ (.inr (.inl (Nat.le_refl 3))))
      (range_join (xs := (aC k key v).toList) (ys := [.int .u32 5, .int .u32 6]) (m := 9) rfl (World.rangeAt_setCells_same W5 g3 3 _ hT.out) (World.rangeAt_setCells_apart (range_rowO r3.out 9 _ rfl) g3 3 _ (.inr (.inr (Nat.le_refl 9))))))
  have n6 := Lib.hid (show W6.heap[w.heap.size + 1]? = some (.cells zC 35 (0, 0)) by rw [hW6]; exact (heap_cellsO (by have := hz.out; omega) _ _ _).trans r1.out)
  have s6 := Lib.hid (show Below w.heap.size w W6 by rw [hW6]; exact below_cellsO g3 (by have := hz.out; omega) _ _ hS.out)
  go_upto_region 3 with (first
    | (refine wpList_load_row_g rfl 31 _ rfl w.heap.size rfl 31 (aC k key v) (0, 0) _ r0.out Tryz.underlying31 rfl info_act ?_)
    | (refine wpList_store_mid rfl 31 _ _ rfl g3 3 (aC k key v) rfl rfl hT.out info_act (by simp [Value.oneCell']) ?_; rw [← hW6]))
  clear hW6 hT r0 r1 r3
  go_wp2_with (first
    | (refine wpList_load_mid rfl 35 _ rfl g3 0 rfl ((wO k key v).c (.slice none 0 0)).toList _ m6.out Tryz.underlying35 rfl info_op ?_)
    | (refine wpList_store_row rfl 35 _ _ rfl (w.heap.size + 1) ((wO k key v).c (.slice none 0 0)) rfl rfl 35 zC n6.out info_op rfl (by simp [Value.oneCell']) ?_))
  exact bodyPost_ret (results_cell_row rfl _ _ (w.heap.size + 1) 35 _ _ _ rfl (setRow_heap _ _ _ _ _ _ n6.out) Tryz.underlying35 rfl info_op) rfl ⟨rfl, below_setRow' s6.out (Nat.le_succ _) _⟩
end Go.Proofs.YtdlblhoaddfanaaGreatDoor.wir.val.top
namespace Go.Proofs.YtdlblhoaddfanaaGreatDoor.wir.val
open Go.RowKit Go.YtdlblhoaddfanaaGreatDoor
set_option linter.unusedVariables false
def toS (l : List Int) : ByteArray := l.foldl (fun r n => r.push (UInt8.ofNat n.toNat)) ByteArray.empty
theorem toS_data : ∀ (l : List Int) (s : ByteArray), (l.foldl (fun r n => r.push (UInt8.ofNat n.toNat)) s).data.toList = s.data.toList ++ l.map fun n => UInt8.ofNat n.toNat
  | [], s => by simp
  | x :: l, s => by
    rw [List.foldl_cons, toS_data l]
    simp [ByteArray.push]
theorem toS_list (l : List Int) : (toS l).data.toList = l.map fun n => UInt8.ofNat n.toNat := by
  unfold toS
  rw [toS_data]
  rfl
theorem sI_toS (l : List Int) (hl : Bytes l) : sI (toS l) = l := by
  unfold sI
  rw [toS_list, List.map_map]
  induction l with
  | nil => rfl
  | cons x l ih =>
    obtain ⟨h1, h2⟩ := bytes_cons hl
    rw [List.map_cons, ih h2]
    congr 1
    show ((UInt8.ofNat x.toNat).toNat : Int) = x
    rw [UInt8.toNat_ofNat']
    omega
theorem toS_sI (s : ByteArray) : toS (sI s) = s := by
  have h : (toS (sI s)).data.toList = s.data.toList := by
    rw [toS_list]
    unfold sI
    rw [List.map_map]
    have e : ((fun n : Int => UInt8.ofNat n.toNat) ∘ fun c : UInt8 => (c.toNat : Int)) = id := by
      funext c
      show UInt8.ofNat ((c.toNat : Int)).toNat = c
      rw [Int.toNat_natCast, UInt8.ofNat_toNat]
    rw [e, List.map_id]
  cases hs : s with | mk d => cases ht : toS (sI s) with | mk d' =>
    rw [ht, hs] at h
    rw [hs] at ht
    rw [ht]
    simp only [ByteArray.mk.injEq]
    exact Array.ext' h
theorem toS_size (l : List Int) : (toS l).size = l.length := by
  have h := congrArg List.length (toS_list l)
  rw [List.length_map] at h
  exact h
theorem run_toS {P : Program} {w : World} {v : Value} {l : List Int} (h : RdB w v l) (src dst e : TypeId)
    (hs : P.underlying src = some (.slice e)) (he : P.underlying e = some (.int .u8)) (hd : P.underlying dst = some .string) : (convert src dst v).run P w = .ok (.string (toS l)) w := by
  obtain ⟨a, c, rfl⟩ := h.slice
  rw [run_convert_bytes_string w src dst e a l.length c hs he hd]
  rcases h with ⟨sa, sc, hsv, hsn, rfl⟩ | ⟨b, o, c', hv, h1, h2, h3, h4⟩
  · cases a with
    | none => rfl
    | some a =>
      have := run_bytesToString (P := P) w a 0 c [] (by rfl)
      simpa [toS] using this
  · cases hv
    have hL := run_loadCells_list (P := P) w ⟨b, o, none⟩ (u8v l) (fun j v hv => by
      have hj : j < l.length := by
        have := (List.getElem?_eq_some_iff.1 hv).1
        rwa [u8v_length] at this
      rw [addr_add]
      have := h4 j hj
      rw [this, ← hv, u8v_get _ _ hj])
    rw [u8v_length] at hL
    exact run_bytesToString w _ _ _ l hL
def decP (k : Int) (l : List Int) : Option (Va × Nat) :=
  if k = 1 then (match readF l with | none => none | some p => some (⟨1, unfoldN p.1, 0, ⟨#[]⟩⟩, p.2))
  else if k = 2 then (if l.length < 8 then none else if canF (valN l 8) = valN l 8 then some (⟨2, 0, valN l 8, ⟨#[]⟩⟩, 8) else none)
  else if k = 3 then (match readC l 30 1 with | none => none | some p => if txtE (toS ((l.drop p.2).take p.1)) = 0 then some (⟨3, 0, 0, toS ((l.drop p.2).take p.1)⟩, p.2 + p.1) else none)
  else none
def decF (l : List Int) : Option (Va × Nat) :=
  if l.length = 0 then none else match decP (ith l 0) (l.drop 1) with | none => none | some p => some (p.1, 1 + p.2)
theorem nil_of_size {s : ByteArray} (h : s.size = 0) : s = ⟨#[]⟩ := by
  cases s with | mk a => simp only [ByteArray.mk.injEq]; exact Array.eq_empty_of_size_eq_zero h
theorem decP_some {k : Int} {l : List Int} (hl : Bytes l) {v : Va} {u : Nat} (h : decP k l = some (v, u)) :
    v.fit ∧ v.ok = true ∧ u ≤ l.length ∧ encB v.k v.n v.b v.s = k :: l.take u := by
  unfold decP at h
  split at h
  · rename_i hk; subst hk
    split at h
    · cases h
    · rename_i p hp
      cases h
      obtain ⟨n, u⟩ := p
      obtain ⟨h1, h2, h3, h4⟩ := readF_some hl hp
      refine ⟨(show VFit 1 (unfoldN n) 0 ⟨#[]⟩ from ⟨by decide, unfold_in n h1, by decide, by decide⟩), ?_, h3, ?_⟩
      · exact (by unfold validV; rw [if_pos rfl]; rfl : validV 1 (unfoldN n) 0 ⟨#[]⟩ = true)
      · show encB 1 (unfoldN n) 0 ⟨#[]⟩ = 1 :: l.take u
        unfold encB
        rw [if_pos rfl, fold_unfold, h4]
  split at h
  · rename_i hk; subst hk
    split at h
    · cases h
    · rename_i h8
      split at h
      · rename_i hc
        cases h
        have hb := valN_lt64 l hl 8 (by decide)
        refine ⟨(show VFit 2 0 (valN l 8) ⟨#[]⟩ from ⟨by decide, by decide, hb, by decide⟩), ?_, by omega, ?_⟩
        · show validV 2 0 (valN l 8) ⟨#[]⟩ = true
          unfold validV
          rw [if_neg (by decide), if_pos rfl, hc]
          simp; rfl
        · show encB 2 0 (valN l 8) ⟨#[]⟩ = 2 :: l.take 8
          unfold encB
          rw [if_neg (by decide), if_pos rfl]
          congr 1
          have hb8 : Bytes (l.take 8) := by
            intro i
            rcases Nat.lt_or_ge i 8 with hi | hi
            · rw [ith_take _ _ _ hi]; exact hl i
            · rw [ith_over _ _ (by rw [List.length_take]; omega)]; decide
          have e : valN l 8 = valN (l.take 8) 8 := valN_congr _ _ _ (fun i hi => (ith_take _ _ _ hi).symm)
          rw [e]
          exact be_valN _ hb8 8 (by rw [List.length_take]; omega)
      · cases h
  split at h
  · rename_i hk; subst hk
    split at h
    · cases h
    · rename_i p hp
      obtain ⟨n, u1⟩ := p
      simp only at h
      split at h
      · rename_i ht
        cases h
        obtain ⟨g1, g2, g3⟩ := readC_some hp
        obtain ⟨h1, h2, h3, h4⟩ := readF_some hl g1
        have hlen : ((l.drop u1).take n).length = n := by rw [List.length_take, List.length_drop]; omega
        have hbR : Bytes ((l.drop u1).take n) := by
          intro i
          rcases Nat.lt_or_ge i n with hi | hi
          · rw [ith_take _ _ _ hi, ith_drop]; exact hl _
          · rw [ith_over _ _ (by rw [hlen]; omega)]; decide
        have hsz := toS_size ((l.drop u1).take n)
        have hsI := sI_toS _ hbR
        have htk : l.take (u1 + n) = l.take u1 ++ (l.drop u1).take n := by rw [List.take_add]
        generalize (l.drop u1).take n = R at *
        refine ⟨(show VFit 3 0 0 (toS R) from ⟨by decide, by decide, by decide, by rw [hsz, hlen]; omega⟩), ?_, by omega, ?_⟩
        · show validV 3 0 0 (toS R) = true
          unfold txtE at ht
          split at ht
          · cases ht
          · split at ht
            · rename_i q1 q2
              unfold validV
              rw [if_neg (by decide), if_neg (by decide), if_pos rfl, q2]
              simp; omega
            · cases ht
        · show encB 3 0 0 (toS R) = 3 :: l.take (u1 + n)
          unfold encB textB
          rw [if_neg (by decide), if_neg (by decide), hsI, hlen, htk, h4]
      · cases h
  · cases h
theorem decF_some {l : List Int} (hl : Bytes l) {v : Va} {u : Nat} (h : decF l = some (v, u)) :
    v.fit ∧ v.ok = true ∧ 1 ≤ u ∧ u ≤ l.length ∧ encB v.k v.n v.b v.s = l.take u := by
  unfold decF at h
  split at h
  · cases h
  · rename_i h0
    split at h
    · cases h
    · rename_i p hp
      obtain ⟨v', u'⟩ := p
      cases h
      obtain ⟨h1, h2, h3, h4⟩ := decP_some (bytes_drop _ _ hl) hp
      rw [List.length_drop] at h3
      refine ⟨h1, h2, by omega, by omega, ?_⟩
      rw [h4]
      cases l with
      | nil => simp at h0
      | cons x l => rw [ith_cons_zero, List.drop_one, List.tail_cons, Nat.add_comm, List.take_succ_cons]
theorem decF_enc (k n : Int) (b : Nat) (s : ByteArray) (fv : VFit k n b s) (hv : validV k n b s = true) (t : List Int) : decF (encB k n b s ++ t) = some (⟨k, n, b, s⟩, (encB k n b s).length) := by
  have hk := valid_kind hv
  rcases (show k = 1 ∨ k = 2 ∨ k = 3 by omega) with rfl | rfl | rfl
  · unfold validV at hv
    rw [if_pos rfl] at hv
    simp only [Bool.and_eq_true, decide_eq_true_eq] at hv
    obtain ⟨rfl, hs⟩ := hv
    have hs := nil_of_size hs
    subst hs
    have e : encB 1 n 0 ⟨#[]⟩ = 1 :: numB (foldN n) := rfl
    rw [e, List.cons_append]
    unfold decF
    rw [if_neg (by simp), ith_cons_zero, List.drop_one, List.tail_cons]
    unfold decP
    rw [if_pos rfl, readF_num _ (fold_lt n fv.n)]
    simp only [unfold_fold, List.length_cons, numB_length, Nat.add_comm]
  · unfold validV at hv
    rw [if_neg (by decide), if_pos rfl] at hv
    simp only [Bool.and_eq_true, decide_eq_true_eq] at hv
    obtain ⟨rfl, hc, hs⟩ := hv
    have hs := nil_of_size hs
    subst hs
    have e : encB 2 0 b ⟨#[]⟩ = 2 :: be 8 b := rfl
    rw [e, List.cons_append]
    unfold decF
    rw [if_neg (by simp), ith_cons_zero, List.drop_one, List.tail_cons]
    unfold decP
    have hval : valN (be 8 b ++ t) 8 = b := by
      rw [valN_congr _ (be 8 b) _ (fun i hi => by rw [ith_append, if_pos (by rw [be_length]; exact hi)])]
      exact valN_be_all 8 b (by have := fv.b; omega)
    rw [if_neg (by decide), if_pos rfl, if_neg (by rw [List.length_append, be_length]; omega), hval, if_pos hc]
    simp [be_length]
  · unfold validV at hv
    rw [if_neg (by decide), if_neg (by decide), if_pos rfl] at hv
    simp only [Bool.and_eq_true, decide_eq_true_eq] at hv
    obtain ⟨rfl, rfl, hs, ho⟩ := hv
    have e : encB 3 0 0 s = 3 :: (numB s.size ++ sI s) := by
      show 3 :: textB (sI s) = _
      unfold textB; rw [sI_length]
    rw [e, List.cons_append]
    unfold decF
    rw [if_neg (by simp), ith_cons_zero, List.drop_one, List.tail_cons]
    unfold decP
    have hC : readC (numB s.size ++ sI s ++ t) 30 1 = some (s.size, numL s.size) := by
      unfold readC
      rw [List.append_assoc, readF_num _ (by omega)]
      simp only
      rw [if_pos]
      refine ⟨by omega, ?_⟩
      rw [Nat.div_one, List.length_append, List.length_append, numB_length, sI_length]; omega
    have hd : ((numB s.size ++ sI s ++ t).drop (numL s.size)).take s.size = sI s := by
      rw [List.append_assoc, List.drop_append_of_le_length (by rw [numB_length]; omega), List.drop_of_length_le (by rw [numB_length]; omega), List.nil_append]
      rw [List.take_append_of_le_length (by rw [sI_length]; omega), List.take_of_length_le (by rw [sI_length]; omega)]
    rw [if_neg (by decide), if_neg (by decide), if_pos rfl, hC]
    simp only [hd, toS_sI]
    have hE : txtE s = 0 := by unfold txtE; rw [if_neg (by omega), if_pos ho]
    rw [if_pos hE]
    simp only [List.length_cons, List.length_append, numB_length, sI_length, Nat.add_comm]
end Go.Proofs.YtdlblhoaddfanaaGreatDoor.wir.val
namespace Go.Proofs.YtdlblhoaddfanaaGreatDoor.wir.val
open Go.RowKit Go.YtdlblhoaddfanaaGreatDoor
set_option linter.unusedVariables false
theorem results_row_tmp2 {P : Program} {fn : Func} {p u v : Tmp} {ty : TypeId} (h : fn.results = #[.cell p ty, .tmp u, .tmp v]) (tmps : Array Value) (w : World) (g : Nat) (t : TypeId) (cs : Array Value) (fr : Nat × Nat) (d : TypeDesc)
    (hp : tmps.getD p undef = .pointer (some ⟨g, 0, none⟩)) (hg : w.heap[g]? = some (.cells cs t fr))
    (hu : P.underlying ty = some d) (hd : (match d with | .struct _ | .array _ _ => true | _ => false) = true) (hi : (P.info? ty).map (·.size) = some cs.size) :
    (results fn tmps).run P w = .ok (.tuple #[.agg cs, tmps.getD u undef, tmps.getD v undef]) w := by
  have hc : (results fn tmps).run P w =
      ((asAddr (tmps.getD p undef)).run P w).andThen fun a w₁ => ((loadVar ty a).run P w₁).andThen fun x w₂ => .ok (.tuple #[x, tmps.getD u undef, tmps.getD v undef]) w₂ := by
    simp only [results, h]
    simp [Sem.run_bind, Result.andThen]
  rw [hc, hp]
  have hl := run_loadVar_row (P := P) w g t ty cs fr d hg hu hd hi
  simp [asAddr, hl]
def fltR (l : List Int) : Value := if l.length < 8 then .tuple #[vA 0 0 0 ⟨#[]⟩, .int .i64 0, .int .i64 12] else if canF (valN l 8) = valN l 8 then .tuple #[vA 2 0 (valN l 8) ⟨#[]⟩, .int .i64 8, .int .i64 0] else .tuple #[vA 0 0 0 ⟨#[]⟩, .int .i64 0, .int .i64 12]
set_option maxHeartbeats 1000000 in
set_option maxRecDepth 100000 in
theorem decFloat_any (l : List Int) (bv : Value) (w : World) (hr : RdB w bv l) (hl : Bytes l) :
    Calls Tryz.prog 199 #[bv] w fun e w' => e = .returned (fltR l) ∧ Below w.heap.size w w' := by
  by_cases h8 : l.length < 8
  · have e : fltR l = .tuple #[vA 0 0 0 ⟨#[]⟩, .int .i64 0, .int .i64 12] := by unfold fltR; rw [if_pos h8]
    rw [e]
    obtain ⟨a, c, rfl⟩ := hr.slice
    clear hr hl e
    generalize l.length = N at *
    go_enter Tryz.func199, Tryz.ntmps199
    go_wp2
    exact bodyPost_ret (results_row_tmp2 rfl _ _ w.heap.size 29 _ _ _ rfl (heap_alloc_new w _) Tryz.underlying29 rfl info_val) rfl ⟨rfl, below_a _ _⟩
  have hw0 := Lib.hid (below_a w (.cells (vC 0 0 0 ⟨#[]⟩) 29))
  have hrow := Lib.hid (heap_alloc_new w (.cells (vC 0 0 0 ⟨#[]⟩) 29))
  have hr1 := hr.mono hw0.out
  rcases hr with ⟨a, c, rfl, _, rfl⟩ | ⟨b, o, c, rfl, h1, h2, h3, h4⟩
  · simp at h8
  rcases hr1 with ⟨_, _, _, _, rfl⟩ | ⟨b', o', c', e', g1, g2, g3, g4⟩
  · simp at h8
  cases e'
  unfold maxLen at h2
  have hcells := Lib.hid (fun j (hj : j < 8) => g4 j (by omega))
  have hbyte := Lib.hid (fun j => hl j)
  have hval := Lib.hid (fun j (hj : j ≤ 7) => (show 0 ≤ (valN l j : Int) ∧ (valN l j : Int) < 72057594037927936 from by
    have h1 := valN_lt l hl j
    have h2 : (256 : Nat) ^ j ≤ 72057594037927936 := (show (256 : Nat) ^ j ≤ 256 ^ 7 from Nat.pow_le_pow_right (by decide) hj)
    omega))
  have hstep := Lib.hid (fun j => (show (valN l (j + 1) : Int) = (valN l j : Int) * 256 + ith l j from by
    have := hl j
    rw [valN]; omega))
  have hN8 : 8 ≤ l.length := by omega
  have hc8 : 8 ≤ c := by omega
  have hcan := Lib.hid (fun w => canon_any (valN l 8) (valN_lt64 l hl 8 (by decide)) w)
  have hflt := Lib.hid (fun w => float_val (valN l 8) (valN_lt64 l hl 8 (by decide)) w)
  have eF : fltR l = if canF (valN l 8) = valN l 8 then .tuple #[vA 2 0 (valN l 8) ⟨#[]⟩, .int .i64 8, .int .i64 0] else .tuple #[vA 0 0 0 ⟨#[]⟩, .int .i64 0, .int .i64 12] := by unfold fltR; rw [if_neg h8]
  obtain ⟨R, hR⟩ : ∃ R, R = fltR l := ⟨_, rfl⟩
  rw [← hR]
  rw [eF] at hR
  have hR' := Lib.hid hR
  clear hR
  generalize l.length = N at *
  clear h4 g4 eF h8 hl g1 g2 g3 h1 h3
  go_enter Tryz.func199, Tryz.ntmps199
  go_wp2
  generalize w.alloc (.cells (vC 0 0 0 ⟨#[]⟩) 29) = W at *
  go_loopw [5, 15] (fun x i wr => ∃ j : Nat, j ≤ 8 ∧ i = .int .i64 j ∧ x = .int .u64 (valN l j : Nat) ∧ W = wr) (fun _ i _ => 8 - (intOf i).toNat)
  case atStart => exact ⟨0, Nat.zero_le _, rfl, rfl, rfl⟩
  case round =>
    obtain ⟨j, hj, rfl, rfl, rfl⟩ := hrel
    by_cases hlt : j < 8
    · have hck := hcells.out j hlt
      have hb := hbyte.out j
      have hx := hval.out j (by omega)
      have hor := Lib.hid (or_byte _ _ hx hb)
      have hnx := hstep.out j
      generalize hY : valN l (j + 1) = y at hnx
      generalize hX : valN l j = x at *
      generalize ith l j = z at *
      have hnx' := Lib.hid hnx; have hY' := Lib.hid hY
      clear hnx hY hX
      go_wp2
      refine ⟨⟨j + 1, by omega, rfl, ?_, ?_⟩, ?_⟩
      · rw [hor.out, ← hnx'.out, hY'.out]
      · trivial
      · show 8 - ((j : Int) + 1).toNat < 8 - (j : Int).toNat
        omega
    · obtain rfl : j = 8 := by omega
      generalize valN l 8 = Z at *
      clear hcells hbyte hval hstep
      rw [show (((8 : Nat)) : Int) = 8 from rfl]
      by_cases hc : canF Z = Z
      · rw [hc] at hcan hflt
        have hR := hR'.out
        rw [if_pos hc] at hR
        have hR2 := Lib.hid hR
        clear hc hR
        go_wp2_with (first | (go_at_call 183; (with_reducible refine (hcan.out _).mono ?_); rintro e w' ⟨rfl, rfl⟩) | (go_at_call 159; (with_reducible refine (hflt.out _).mono ?_); rintro e w1 ⟨rfl, h9⟩; have hr1 := Lib.hid (rowB hrow.out h9 (Array.getElem?_eq_some_iff.1 hrow.out).1); have hw1 := Lib.hid (hw0.out.trans (h9.mono hw0.out.size)); clear h9) | (refine storeOver w1 w.heap.size _ rfl 29 _ _ rfl (vC 2 0 Z ⟨#[]⟩) 29 hr1.out rfl rfl info_val rfl (val_one _ _ _ _) ?_; intro w2 hr2 hb2; have hr2' := Lib.hid hr2; have hb2' := Lib.hid hb2; clear hr2 hb2))
        exact bodyPost_ret (results_row_tmp2 rfl _ _ w.heap.size 29 _ _ _ rfl hr2'.out Tryz.underlying29 rfl info_val) rfl ⟨by rw [hR2.out]; rfl, hw1.out.trans hb2'.out⟩
      · have hR := hR'.out
        rw [if_neg hc] at hR
        have hR2 := Lib.hid hR
        clear hR
        have hne : ((Z : Int) != (canF Z : Int)) = true := by simp; omega
        generalize canF Z = Y at *
        clear hc
        go_wp2_with (first | (go_at_call 183; (with_reducible refine (hcan.out _).mono ?_); rintro e w' ⟨rfl, rfl⟩) | (refine storeOver W w.heap.size _ rfl 29 _ _ rfl (vC 0 0 0 ⟨#[]⟩) 29 hrow.out rfl rfl info_val rfl (val_one _ _ _ _) ?_; intro w2 hr2 hb2; have hr2' := Lib.hid hr2; have hb2' := Lib.hid hb2; clear hr2 hb2))
        exact bodyPost_ret (results_row_tmp2 rfl _ _ w.heap.size 29 _ _ _ rfl hr2'.out Tryz.underlying29 rfl info_val) rfl ⟨by rw [hR2.out]; rfl, hw0.out.trans hb2'.out⟩
def PartR (k : Int) (l : List Int) (r : Value) : Prop :=
  match decP k l with
  | some p => r = .tuple #[p.1.v, .int .i64 (p.2 : Nat), .int .i64 0]
  | none => ∃ (a n : Int) (b : Nat) (s : ByteArray) (u x : Int), x ≠ 0 ∧ r = .tuple #[vA a n b s, .int .i64 u, .int .i64 x]
theorem partR_some {k : Int} {l : List Int} {r : Value} {v : Va} {u : Nat} (h : decP k l = some (v, u)) (hr : r = .tuple #[v.v, .int .i64 (u : Nat), .int .i64 0]) : PartR k l r := by
  unfold PartR; rw [h]; exact hr
theorem partR_none {k : Int} {l : List Int} {r : Value} (h : decP k l = none) {a n : Int} {b : Nat} {s : ByteArray} {u x : Int} (hx : x ≠ 0) (hr : r = .tuple #[vA a n b s, .int .i64 u, .int .i64 x]) : PartR k l r := by
  unfold PartR; rw [h]; exact ⟨a, n, b, s, u, x, hx, hr⟩
theorem partR_num (l : List Int) : PartR 1 l (.tuple #[vA 1 (unfoldN (rdN l)) 0 ⟨#[]⟩, .int .i64 (rdU l : Nat), .int .i64 (rdE l)]) := by
  cases h : readF l with
  | none =>
    obtain ⟨h1, h2, h3⟩ := rd_none h
    have hd : decP 1 l = none := by unfold decP; rw [if_pos rfl, h]
    exact partR_none hd (by rw [h3]; decide) rfl
  | some p =>
    obtain ⟨n, u⟩ := p
    obtain ⟨h1, h2, h3⟩ := rd_some h
    have hd : decP 1 l = some (⟨1, unfoldN n, 0, ⟨#[]⟩⟩, u) := by unfold decP; rw [if_pos rfl, h]
    exact partR_some hd (by rw [h1, h2, h3])
theorem partR_flt (l : List Int) : PartR 2 l (fltR l) := by
  unfold fltR
  by_cases h8 : l.length < 8
  · rw [if_pos h8]
    exact partR_none (by unfold decP; rw [if_neg (by decide), if_pos rfl, if_pos h8]) (by decide) rfl
  · rw [if_neg h8]
    by_cases hc : canF (valN l 8) = valN l 8
    · rw [if_pos hc]
      exact partR_some (by unfold decP; rw [if_neg (by decide), if_pos rfl, if_neg h8, if_pos hc]) rfl
    · rw [if_neg hc]
      exact partR_none (by unfold decP; rw [if_neg (by decide), if_pos rfl, if_neg h8, if_neg hc]) (by decide) rfl
theorem fltR_form (l : List Int) : ∃ (a n : Int) (b : Nat) (s : ByteArray) (u x : Int), fltR l = .tuple #[vA a n b s, .int .i64 u, .int .i64 x] := by
  unfold fltR
  split
  · exact ⟨_, _, 0, _, _, _, rfl⟩
  · split
    · exact ⟨_, _, _, _, _, _, rfl⟩
    · exact ⟨_, _, 0, _, _, _, rfl⟩
theorem txtV_form (s : ByteArray) : ∃ (a : Int) (t : ByteArray), txtV s = vA a 0 0 t ∧ (txtE s = 0 → a = 3 ∧ t = s) := by
  unfold txtV
  split
  · exact ⟨3, s, rfl, fun _ => ⟨rfl, rfl⟩⟩
  · rename_i h; exact ⟨0, ⟨#[]⟩, rfl, fun h' => absurd h' h⟩
def partV (k : Int) (l : List Int) : Value :=
  if k = 1 then .tuple #[vA 1 (unfoldN (rdN l)) 0 ⟨#[]⟩, .int .i64 (rdU l : Nat), .int .i64 (rdE l)]
  else if k = 2 then fltR l
  else if k = 3 then (match readC l 30 1 with | none => .tuple #[vA 0 0 0 ⟨#[]⟩, .int .i64 0, .int .i64 12] | some p => .tuple #[txtV (toS ((l.drop p.2).take p.1)), .int .i64 ((p.2 + p.1 : Nat) : Int), .int .i64 (txtE (toS ((l.drop p.2).take p.1)))])
  else .tuple #[vA 0 0 0 ⟨#[]⟩, .int .i64 0, .int .i64 12]
theorem partV_R (k : Int) (l : List Int) : PartR k l (partV k l) := by
  unfold partV
  by_cases h1 : k = 1
  · subst h1; rw [if_pos rfl]; exact partR_num l
  rw [if_neg h1]
  by_cases h2 : k = 2
  · subst h2; rw [if_pos rfl]; exact partR_flt l
  rw [if_neg h2]
  by_cases h3 : k = 3
  · subst h3
    rw [if_pos rfl]
    cases hC : readC l 30 1 with
    | none => exact partR_none (by unfold decP; rw [if_neg (by decide), if_neg (by decide), if_pos rfl, hC]) (b := 0) (by decide) rfl
    | some p =>
      obtain ⟨n, u⟩ := p
      have hd : decP 3 l = if txtE (toS ((l.drop u).take n)) = 0 then some (⟨3, 0, 0, toS ((l.drop u).take n)⟩, u + n) else none := by unfold decP; rw [if_neg (by decide), if_neg (by decide), if_pos rfl, hC]
      show PartR 3 l (.tuple #[txtV (toS ((l.drop u).take n)), .int .i64 ((u + n : Nat) : Int), .int .i64 (txtE (toS ((l.drop u).take n)))])
      generalize toS ((l.drop u).take n) = s at *
      obtain ⟨ta, tt, ht1, ht2⟩ := txtV_form s
      rw [ht1]
      by_cases hE : txtE s = 0
      · obtain ⟨rfl, rfl⟩ := ht2 hE
        rw [if_pos hE] at hd
        exact partR_some hd (by rw [hE])
      · rw [if_neg hE] at hd
        exact partR_none hd (b := 0) hE rfl
  · rw [if_neg h3]
    exact partR_none (by unfold decP; rw [if_neg h1, if_neg h2, if_neg h3]) (b := 0) (by decide) rfl
theorem partV_used (k : Int) (l : List Int) (hl : Bytes l) {v : Value} {u x : Int} (h : partV k l = .tuple #[v, .int .i64 u, .int .i64 x]) : 0 ≤ u ∧ u ≤ l.length := by
  have inj : ∀ {v' : Value} {u' x' : Int}, Value.tuple #[v', .int .i64 u', .int .i64 x'] = .tuple #[v, .int .i64 u, .int .i64 x] → u' = u := by
    intro v' u' x' h
    simp only [Value.tuple.injEq, Array.mk.injEq, List.cons.injEq, Value.int.injEq, true_and, and_true] at h
    exact h.2.1
  unfold partV at h
  split at h
  · have := inj h
    rw [← this]
    cases hr : readF l with
    | none => rw [(rd_none hr).2.1]; omega
    | some p =>
      obtain ⟨n, u'⟩ := p
      rw [(rd_some hr).2.1]
      have := (readF_some hl hr).2.2.1
      omega
  split at h
  · unfold fltR at h
    split at h
    · have := inj h; omega
    · split at h
      · have := inj h; omega
      · have := inj h; omega
  split at h
  · split at h
    · have := inj h; omega
    · rename_i p hp
      obtain ⟨n, u'⟩ := p
      have := inj h
      obtain ⟨g1, g2, g3⟩ := readC_some hp
      have h3 := (readF_some hl g1).2.2.1
      rw [Nat.div_one] at g3
      simp only at this
      omega
  · have := inj h; omega
theorem partV_form (k : Int) (l : List Int) : ∃ (a n : Int) (b : Nat) (s : ByteArray) (u x : Int), partV k l = .tuple #[vA a n b s, .int .i64 u, .int .i64 x] := by
  have h := partV_R k l
  unfold PartR at h
  split at h
  · exact ⟨_, _, _, _, _, _, h⟩
  · obtain ⟨a, n, b, s, u, x, _, h⟩ := h
    exact ⟨a, n, b, s, u, x, h⟩
set_option maxHeartbeats 2000000 in
set_option maxRecDepth 100000 in
theorem decPart_any (k : Int) (hk : 0 ≤ k ∧ k < 256) (l : List Int) (bv : Value) (w : World) (hr : RdB w bv l) (hl : Bytes l) (hlm : l.length ≤ 1000000) :
    Calls Tryz.prog 193 #[.int .u8 k, bv] w fun e w' => e = .returned (partV k l) ∧ Below w.heap.size w w' := by
  have hB0 := below_a w (.cells #[.int .u8 0, .int .i64 0, .int .u64 0, .string ⟨#[]⟩] 29)
  have hrow := Lib.hid (heap_alloc_new w (.cells #[.int .u8 0, .int .i64 0, .int .u64 0, .string ⟨#[]⟩] 29))
  have hr1 := hr.mono hB0
  have hB := Lib.hid hB0
  clear hB0
  obtain ⟨W, hW⟩ : ∃ W, W = w.alloc (.cells #[.int .u8 0, .int .i64 0, .int .u64 0, .string ⟨#[]⟩] 29) := ⟨_, rfl⟩
  rw [← hW] at hrow hB hr1
  by_cases h1 : k = 1
  · subst h1
    have hS := Lib.hid (readSigned_any l bv W hr1 hl)
    have hN := Lib.hid (fun w => number_val (unfoldN (rdN l)) w)
    rw [show partV 1 l = .tuple #[vA 1 (unfoldN (rdN l)) 0 ⟨#[]⟩, .int .i64 (rdU l : Nat), .int .i64 (rdE l)] from rfl]
    generalize unfoldN (rdN l) = F at *
    generalize rdU l = U at *
    generalize rdE l = E at *
    obtain ⟨a, c, rfl⟩ := hr.slice
    clear hr hr1 hl hlm hk
    generalize l.length = N at *
    go_enter Tryz.func193, Tryz.ntmps193
    go_upto_region 1 with fail
    rw [← hW]
    clear hW
    go_wp2_with (first | (go_at_call 198; (with_reducible refine (hS.out).mono ?_); rintro e w' ⟨rfl, rfl⟩) | (go_at_call 158; (with_reducible refine (hN.out _).mono ?_); rintro e w1 ⟨rfl, h9⟩; have hr1 := Lib.hid (rowB hrow.out h9 (Array.getElem?_eq_some_iff.1 hrow.out).1); have hw1 := Lib.hid (hB.out.trans (h9.mono hB.out.size)); clear h9) | (refine storeOver w1 w.heap.size _ rfl 29 _ _ rfl (vC 1 F 0 ⟨#[]⟩) 29 hr1.out rfl rfl info_val rfl (val_one _ _ _ _) ?_; intro w2 hr2 hb2; have hr2' := Lib.hid hr2; have hb2' := Lib.hid hb2; clear hr2 hb2))
    exact bodyPost_ret (results_row_tmp2 rfl _ _ w.heap.size 29 _ _ _ rfl hr2'.out Tryz.underlying29 rfl info_val) rfl ⟨by rfl, hw1.out.trans hb2'.out⟩
  by_cases h2 : k = 2
  · subst h2
    have hS := Lib.hid (decFloat_any l bv W hr1 hl)
    obtain ⟨x1, x2, x3, x4, x5, x6, hx⟩ := fltR_form l
    rw [show partV 2 l = fltR l from rfl]
    rw [hx] at hS ⊢
    clear hx
    obtain ⟨a, c, rfl⟩ := hr.slice
    clear hr hr1 hl hlm hk
    generalize l.length = N at *
    go_enter Tryz.func193, Tryz.ntmps193
    go_upto_region 1 with fail
    rw [← hW]
    clear hW
    go_wp2_with (first | (go_at_call 199; (with_reducible refine (hS.out).mono ?_); rintro e w1 ⟨rfl, h9⟩; have hr1 := Lib.hid (rowB hrow.out h9 (Array.getElem?_eq_some_iff.1 hrow.out).1); have hw1 := Lib.hid (hB.out.trans (h9.mono hB.out.size)); clear h9) | (refine storeOver w1 w.heap.size _ rfl 29 _ _ rfl (vC x1 x2 x3 x4) 29 hr1.out rfl rfl info_val rfl (val_one _ _ _ _) ?_; intro w2 hr2 hb2; have hr2' := Lib.hid hr2; have hb2' := Lib.hid hb2; clear hr2 hb2))
    exact bodyPost_ret (results_row_tmp2 rfl _ _ w.heap.size 29 _ _ _ rfl hr2'.out Tryz.underlying29 rfl info_val) rfl ⟨by rfl, hw1.out.trans hb2'.out⟩
  by_cases h3 : k = 3
  · subst h3
    cases hC : readC l 30 1 with
    | none =>
      have hS := Lib.hid (readBytes_no l bv 30 (by omega) (by omega) W hr1 hl hlm hC)
      rw [show partV 3 l = .tuple #[vA 0 0 0 ⟨#[]⟩, .int .i64 0, .int .i64 12] by unfold partV; rw [if_neg (by decide), if_neg (by decide), if_pos rfl, hC]]
      obtain ⟨a, c, rfl⟩ := hr.slice
      clear hr hr1 hl hlm hk hC
      generalize l.length = N at *
      go_enter Tryz.func193, Tryz.ntmps193
      go_upto_region 1 with fail
      rw [← hW]
      clear hW
      go_wp2_with (first | (go_at_call 175; (with_reducible refine (hS.out).mono ?_); rintro e w1 ⟨rfl, rfl⟩) | (refine storeOver _ w.heap.size _ rfl 29 _ _ rfl (vC 0 0 0 ⟨#[]⟩) 29 hrow.out rfl rfl info_val rfl (val_one _ _ _ _) ?_; intro w2 hr2 hb2; have hr2' := Lib.hid hr2; have hb2' := Lib.hid hb2; clear hr2 hb2))
      exact bodyPost_ret (results_row_tmp2 rfl _ _ w.heap.size 29 _ _ _ rfl hr2'.out Tryz.underlying29 rfl info_val) rfl ⟨by rfl, hB.out.trans hb2'.out⟩
    | some p =>
      obtain ⟨n, u⟩ := p
      have hS := Lib.hid (readBytes_ok l bv 30 (by omega) (by omega) W hr1 hl hlm n u hC)
      have hlen : ((l.drop u).take n).length = n := by
        obtain ⟨g1, g2, g3⟩ := readC_some hC
        obtain ⟨h1, h2, h3, h4⟩ := readF_some hl g1
        rw [List.length_take, List.length_drop]; omega
      have hn : n ≤ 30 := by have := (readC_some hC).2.1; omega
      have hun : u ≤ 1000000 := by
        obtain ⟨g1, g2, g3⟩ := readC_some hC
        obtain ⟨h1, h2, h3, h4⟩ := readF_some hl g1
        omega
      rw [show partV 3 l = .tuple #[txtV (toS ((l.drop u).take n)), .int .i64 ((u + n : Nat) : Int), .int .i64 (txtE (toS ((l.drop u).take n)))] by unfold partV; rw [if_neg (by decide), if_neg (by decide), if_pos rfl, hC]]
      have hsz := toS_size ((l.drop u).take n)
      have hrs := Lib.hid (fun (wx : World) (g : Nat) (h : wx.heap[g]? = some (.cells (u8s ((l.drop u).take n)) 5 (0, 0))) => run_toS (P := Tryz.prog) (rdB_row h n hlen (by unfold maxLen; omega)) 79 9 5 Tryz.underlying79 Tryz.underlying5 Tryz.underlying9)
      generalize (l.drop u).take n = R at *
      generalize toS R = s at *
      have hT := Lib.hid (fun w => text_any s (by omega) w)
      obtain ⟨ta, tt, ht1, ht2⟩ := txtV_form s
      rw [ht1] at hT ⊢
      generalize txtE s = E at *
      obtain ⟨a, c, rfl⟩ := hr.slice
      clear hr hr1 hl hlm hk hC ht1 ht2 hlen hsz
      generalize l.length = N at *
      generalize u + n = M at *
      go_enter Tryz.func193, Tryz.ntmps193
      go_upto_region 1 with fail
      rw [← hW]
      clear hW
      go_wp2_with (first | (go_at_call 175; (with_reducible refine (hS.out).mono ?_); rintro e w1 ⟨rfl, h8, h9⟩; have hr1 := Lib.hid (rowB hrow.out h9 (Array.getElem?_eq_some_iff.1 hrow.out).1); have hw1 := Lib.hid (hB.out.trans (h9.mono hB.out.size)); have hk1 := hrs.out w1 _ h8; clear h9 h8) | (go_at_call 160; (with_reducible refine (hT.out _).mono ?_); rintro e w2 ⟨rfl, h9⟩; have hr2 := Lib.hid (rowB hr1.out h9 (Array.getElem?_eq_some_iff.1 hr1.out).1); have hw2 := Lib.hid (hw1.out.trans (h9.mono hw1.out.size)); clear h9 hk1; refine Stop.go'' _ ?_))
      refine StopP.go ?_
      have hn3 := Lib.hid (heap_alloc_new w2 (.cells (vC ta 0 0 tt) 29))
      have hr3 := Lib.hid (rowB hr2.out (below_a w2 (.cells (vC ta 0 0 tt) 29)) (Array.getElem?_eq_some_iff.1 hr2.out).1)
      have hw3 := Lib.hid (hw2.out.trans ((below_a w2 (.cells (vC ta 0 0 tt) 29)).mono hw2.out.size))
      go_wp2_with (first | (refine wpList_load_row_g rfl 29 _ rfl (w2.heap.size) rfl 29 (vC ta 0 0 tt) (0, 0) _ hn3.out Tryz.underlying29 rfl info_val ?_) | (refine storeOver _ w.heap.size _ rfl 29 _ _ rfl (vC ta 0 0 tt) 29 hr3.out rfl rfl info_val rfl (val_one _ _ _ _) ?_; intro w4 hr4 hb4; have hr4' := Lib.hid hr4; have hb4' := Lib.hid hb4; clear hr4 hb4))
      exact bodyPost_ret (results_row_tmp2 rfl _ _ w.heap.size 29 _ _ _ rfl hr4'.out Tryz.underlying29 rfl info_val) rfl ⟨by rfl, hw3.out.trans hb4'.out⟩
  · rw [show partV k l = .tuple #[vA 0 0 0 ⟨#[]⟩, .int .i64 0, .int .i64 12] by unfold partV; rw [if_neg h1, if_neg h2, if_neg h3]]
    have k1 : (k == 1) = false := by simpa using h1
    have k2 : (k == 2) = false := by simpa using h2
    have k3 : (k == 3) = false := by simpa using h3
    obtain ⟨a, c, rfl⟩ := hr.slice
    clear hr hr1 hl hlm hk h1 h2 h3
    generalize l.length = N at *
    go_enter Tryz.func193, Tryz.ntmps193
    go_upto_region 1 with fail
    rw [← hW]
    clear hW
    go_wp2_with (refine storeOver _ w.heap.size _ rfl 29 _ _ rfl (vC 0 0 0 ⟨#[]⟩) 29 hrow.out rfl rfl info_val rfl (val_one _ _ _ _) ?_; intro w2 hr2 hb2; have hr2' := Lib.hid hr2; have hb2' := Lib.hid hb2; clear hr2 hb2)
    exact bodyPost_ret (results_row_tmp2 rfl _ _ w.heap.size 29 _ _ _ rfl hr2'.out Tryz.underlying29 rfl info_val) rfl ⟨by rfl, hB.out.trans hb2'.out⟩
end Go.Proofs.YtdlblhoaddfanaaGreatDoor.wir.val
namespace Go.Proofs.YtdlblhoaddfanaaGreatDoor.wir.val
open Go.RowKit Go.YtdlblhoaddfanaaGreatDoor
set_option linter.unusedVariables false
def decR (l : List Int) : Value :=
  match decF l with
  | some p => .tuple #[p.1.v, .int .i64 (p.2 : Nat), .int .i64 0]
  | none => .tuple #[vA 0 0 0 ⟨#[]⟩, .int .i64 0, .int .i64 12]
theorem fin4 {B g : Nat} {w0 w2 : World} {a0 a1 a2 a3 x0 x1 x2 x3 : Value} {T : TypeId} (hrow : w2.heap[g]? = some (.cells #[a0, a1, a2, a3] T (0, 0))) (hB : Below B w0 w2) (hBg : B ≤ g) :
    ((((w2.setCell ⟨g, 0, none⟩ x0).setCell ⟨g, 1, none⟩ x1).setCell ⟨g, 2, none⟩ x2).setCell ⟨g, 3, none⟩ x3).heap[g]? = some (.cells #[x0, x1, x2, x3] T (0, 0)) ∧
    Below B w0 ((((w2.setCell ⟨g, 0, none⟩ x0).setCell ⟨g, 1, none⟩ x1).setCell ⟨g, 2, none⟩ x2).setCell ⟨g, 3, none⟩ x3) := by
  have e : ((((w2.setCell ⟨g, 0, none⟩ x0).setCell ⟨g, 1, none⟩ x1).setCell ⟨g, 2, none⟩ x2).setCell ⟨g, 3, none⟩ x3) = w2.setRow g #[x0, x1, x2, x3] := by
    have h := fun c => setRow_heap w2 g #[a0, a1, a2, a3] c T (0, 0) hrow
    rw [setCell_eq hrow]
    rw [setCell_eq (h _), setRow2 hrow]
    rw [setCell_eq (h _), setRow2 hrow]
    rw [setCell_eq (h _), setRow2 hrow]
    simp only [List.setIfInBounds_toArray, List.set_cons_succ, List.set_cons_zero]
  rw [e]
  exact ⟨setRow_heap _ _ _ _ _ _ hrow, below_setRow' (g := g) hB hBg _⟩
theorem four_of {w : World} {g : Nat} {a0 a1 a2 a3 : Value} {T : TypeId} (h : w.heap[g]? = some (.cells #[a0, a1, a2, a3] T (0, 0))) :
    (w.cell? ⟨g, 0, none⟩ = some a0 ∧ w.cell? ⟨g, 1, none⟩ = some a1 ∧ w.cell? ⟨g, 2, none⟩ = some a2 ∧ w.cell? ⟨g, 3, none⟩ = some a3) ∧
    w.frozen? ⟨g, 0, none⟩ = false ∧ w.frozen? ⟨g, 1, none⟩ = false ∧ w.frozen? ⟨g, 2, none⟩ = false ∧ w.frozen? ⟨g, 3, none⟩ = false :=
  ⟨⟨cell_of_row _ _ _ _ _ _ h, cell_of_row _ _ _ _ _ _ h, cell_of_row _ _ _ _ _ _ h, cell_of_row _ _ _ _ _ _ h⟩, frozen_of_row _ _ _ _ _ h, frozen_of_row _ _ _ _ _ h, frozen_of_row _ _ _ _ _ h, frozen_of_row _ _ _ _ _ h⟩
set_option maxHeartbeats 2000000 in
set_option maxRecDepth 100000 in
theorem decode_any (l : List Int) (bv : Value) (w : World) (hr : RdB w bv l) (hl : Bytes l) (hlm : l.length ≤ 1000000) :
    Calls Tryz.prog 176 #[bv] w fun e w' => e = .returned (decR l) ∧ Below w.heap.size w w' := by
  have hB0 := below_a w (.cells #[.int .u8 0, .int .i64 0, .int .u64 0, .string ⟨#[]⟩] 29)
  have hrow := Lib.hid (heap_alloc_new w (.cells #[.int .u8 0, .int .i64 0, .int .u64 0, .string ⟨#[]⟩] 29))
  have hr1 := hr.mono hB0
  have hB := Lib.hid hB0
  clear hB0
  obtain ⟨W, hW⟩ : ∃ W, W = w.alloc (.cells #[.int .u8 0, .int .i64 0, .int .u64 0, .string ⟨#[]⟩] 29) := ⟨_, rfl⟩
  rw [← hW] at hrow hB hr1
  by_cases h0 : l.length = 0
  · have e : decR l = .tuple #[vA 0 0 0 ⟨#[]⟩, .int .i64 0, .int .i64 12] := by unfold decR decF; rw [if_pos h0]
    rw [e]
    obtain ⟨a, c, rfl⟩ := hr.slice
    clear hr hr1 hl hlm e
    generalize l.length = N at *
    go_enter Tryz.func176, Tryz.ntmps176
    go_upto_region 1 with fail
    rw [← hW]
    clear hW
    go_wp2_with (refine storeOver _ w.heap.size _ rfl 29 _ _ rfl (vC 0 0 0 ⟨#[]⟩) 29 hrow.out rfl rfl info_val rfl (val_one _ _ _ _) ?_; intro w2 hr2 hb2; have hr2' := Lib.hid hr2; have hb2' := Lib.hid hb2; clear hr2 hb2)
    exact bodyPost_ret (results_row_tmp2 rfl _ _ w.heap.size 29 _ _ _ rfl hr2'.out Tryz.underlying29 rfl info_val) rfl ⟨rfl, hB.out.trans hb2'.out⟩
  have hrs := hr1
  rcases hr1 with ⟨_, _, _, _, rfl⟩ | ⟨b, o, c, rfl, g1, g2, g3, g4⟩
  · simp at h0
  have hsub0 := rdB_sub hrs 1 (l.length - 1) (c - 1) (by omega) (by omega) (by omega)
  have hdr : (l.drop 1).take (l.length - 1) = l.drop 1 := List.take_of_length_le (by rw [List.length_drop]; omega)
  rw [hdr] at hsub0
  have hsub : RdB W (.slice (if c = 1 then some ⟨b, o, none⟩ else some ⟨b, o + 1, none⟩) (l.length - 1) (c - 1)) (l.drop 1) := by
    by_cases hc : c = 1
    · rw [if_pos hc]
      have e1 : l.length - 1 = 0 := by omega
      have e2 : l.drop 1 = [] := List.drop_eq_nil_of_le (by omega)
      rw [e1, e2]
      exact .inl ⟨_, _, rfl, (fun h => by cases h), rfl⟩
    · rw [if_neg hc]; exact hsub0
  have hsub := Lib.hid hsub
  clear hsub0
  have hP := Lib.hid (fun w' (h : Below W.heap.size W w') => decPart_any (ith l 0) (hl 0) (l.drop 1) _ w' (hsub.out.mono h) (bytes_drop _ _ hl) (by rw [List.length_drop]; omega))
  have hc0 := Lib.hid (g4 0 (by omega))
  have hdec : ∀ (a n : Int) (b : Nat) (s : ByteArray) (u x : Int), partV (ith l 0) (l.drop 1) = .tuple #[vA a n b s, .int .i64 u, .int .i64 x] → decR l = if x = 0 then .tuple #[vA a n b s, .int .i64 (1 + u), .int .i64 0] else .tuple #[vA 0 0 0 ⟨#[]⟩, .int .i64 0, .int .i64 12] := by
    intro a n b s u x h
    have hp := partV_R (ith l 0) (l.drop 1)
    rw [h] at hp
    unfold PartR at hp
    unfold decR decF
    rw [if_neg h0]
    cases hd : decP (ith l 0) (l.drop 1) with
    | some p =>
      rw [hd] at hp
      simp only [Value.tuple.injEq, Array.mk.injEq, List.cons.injEq, Value.agg.injEq, Value.int.injEq, true_and, and_true, Value.string.injEq] at hp
      obtain ⟨⟨e1, e2, e3, e4⟩, e5, e6⟩ := hp
      rw [if_pos e6]
      show Value.tuple #[p.1.v, .int .i64 ((1 + p.2 : Nat) : Int), .int .i64 0] = _
      have e3' : b = p.1.b := by omega
      rw [e1, e2, e3', e4, e5]
      simp
    | none =>
      rw [hd] at hp
      obtain ⟨a', n', b', s', u', x', hx, hp⟩ := hp
      simp only [Value.tuple.injEq, Array.mk.injEq, List.cons.injEq, Value.int.injEq, true_and, and_true] at hp
      rw [if_neg (by omega)]
  obtain ⟨va, vn, vb, vs, vu, vx, hv⟩ := partV_form (ith l 0) (l.drop 1)
  replace hdec := hdec _ _ _ _ _ _ hv
  have hu := partV_used _ _ (bytes_drop _ 1 hl) hv
  rw [List.length_drop] at hu
  have hu1 : -1 ≤ vu := by omega
  have hu2 : vu ≤ 1000000 := by omega
  clear hu
  rw [hv] at hP
  obtain ⟨R, hR⟩ : ∃ R, R = decR l := ⟨_, rfl⟩
  rw [← hR]
  rw [hdec] at hR
  have hR' := Lib.hid hR
  unfold maxLen at g2
  have hN : 1 ≤ l.length := by omega
  clear hR hdec hrs hr g4 hl hlm hv hdr
  generalize ith l 0 = K at *
  generalize l.drop 1 = l1 at *
  generalize l.length = N at *
  have hc1 := hc0.out
  rw [Nat.add_zero] at hc1
  have hck := Lib.hid (fun w' (h : Below W.heap.size W w') => (h.cell (p := ⟨b, o, none⟩) g3).trans hc1)
  have hd := Lib.hid (show Below W.heap.size W W.drew from (Below.refl _ _).drew)
  have hda := Lib.hid (show Below W.heap.size W (W.alloc (.cells #[.int .u8 0, .int .i64 0, .int .u64 0, .string ⟨#[]⟩] 29)).drew from (below_a W _).drew)
  have hra := Lib.hid (show (W.alloc (.cells #[.int .u8 0, .int .i64 0, .int .u64 0, .string ⟨#[]⟩] 29)).drew.heap[W.heap.size]? = _ from heap_alloc_new W (.cells #[.int .u8 0, .int .i64 0, .int .u64 0, .string ⟨#[]⟩] 29))
  have hsa := Lib.hid (show W.heap.size < (W.alloc (.cells #[.int .u8 0, .int .i64 0, .int .u64 0, .string ⟨#[]⟩] 29)).drew.heap.size by simp)
  have hP1 := hP.out _ hd.out
  have hP2 := hP.out _ hda.out
  clear hP hsub
  by_cases hcc : c = 1
  · rw [if_pos hcc] at hP1 hP2
    obtain rfl : N = 1 := by omega
    subst hcc
    rw [show 1 - 1 = 0 from rfl] at hP1 hP2
    have hP1 := Lib.hid hP1
    have hP2 := Lib.hid hP2
    go_enter Tryz.func176, Tryz.ntmps176
    go_upto_region 1 with fail
    rw [← hW]
    clear hW
    go_upto_region 3 with fail
    go_region_held3 (fun w' => w'.cell? ⟨b, o, none⟩ = some (.int .u8 K)) (first | go_keep | (exact hck.out _ hb6.out) | (exact hck.out _ (hb6.out.alloc hb6.out.size _)) | (exact hck.out _ (fin4 hr6.out hb6.out (Nat.le_refl _)).2))
      (first | (go_at_call 193; (with_reducible refine (hP1.out).mono ?_); rintro e w6 ⟨rfl, h6⟩; have hb6 := Lib.hid (hd.out.trans (h6.mono hd.out.size)); clear h6) | (go_at_call 193; (with_reducible refine (hP2.out).mono ?_); rintro e w6 ⟨rfl, h6⟩; have hb6 := Lib.hid (hda.out.trans (h6.mono hda.out.size)); have hr6 := Lib.hid (rowB hra.out h6 hsa.out); obtain ⟨⟨k0, k1, k2, k3⟩, l0, l1, l2, l3⟩ := four_of hr6.out; clear h6))
    · have hlt := (Array.getElem?_eq_some_iff.1 hrow.out).1
      have hl := Lib.hid (heap_alloc_new w6 (.cells (vC va vn vb vs) 29))
      have hb7 := hb6.out.alloc hb6.out.size (.cells (vC va vn vb vs) 29)
      have hz := Lib.hid (rowB hrow.out hb7 hlt)
      have hB7 := Lib.hid (hB.out.trans (hb7.mono hB.out.size))
      clear hb7 hlt
      generalize w6.heap.size = gl at *
      generalize w6.alloc (.cells (vC va vn vb vs) 29) = w7 at *
      by_cases hx : vx = 0
      · have hR2 := Lib.hid (hR'.out.trans (if_pos hx))
        have hxb : (vx != 0) = false := by simpa using hx
        clear hx hR'
        go_wp2_with (first | (refine wpList_load_row_g rfl 29 _ rfl (gl) rfl 29 (vC va vn vb vs) (0, 0) _ hl.out Tryz.underlying29 rfl info_val ?_) | (refine storeOver _ w.heap.size _ rfl 29 _ _ rfl (vC va vn vb vs) 29 hz.out rfl rfl info_val rfl (val_one _ _ _ _) ?_; intro w9 hr9 hb9; have hr9' := Lib.hid hr9; have hb9' := Lib.hid hb9; clear hr9 hb9))
        exact bodyPost_ret (results_row_tmp2 rfl _ _ w.heap.size 29 _ _ _ rfl hr9'.out Tryz.underlying29 rfl info_val) rfl ⟨by rw [hR2.out]; rfl, hB7.out.trans hb9'.out⟩
      · have hR2 := Lib.hid (hR'.out.trans (if_neg hx))
        have hxb : (vx != 0) = true := by simpa using hx
        clear hx hR'
        go_wp2_with (refine storeOver _ w.heap.size _ rfl 29 _ _ rfl (vC 0 0 0 ⟨#[]⟩) 29 hz.out rfl rfl info_val rfl (val_one _ _ _ _) ?_; intro w9 hr9 hb9; have hr9' := Lib.hid hr9; have hb9' := Lib.hid hb9; clear hr9 hb9)
        exact bodyPost_ret (results_row_tmp2 rfl _ _ w.heap.size 29 _ _ _ rfl hr9'.out Tryz.underlying29 rfl info_val) rfl ⟨by rw [hR2.out]; rfl, hB7.out.trans hb9'.out⟩
    · have hlt := (Array.getElem?_eq_some_iff.1 hrow.out).1
      obtain ⟨hl0, hb7⟩ := fin4 (x0 := .int .u8 va) (x1 := .int .i64 vn) (x2 := .int .u64 (vb : Int)) (x3 := .string vs) hr6.out hb6.out (Nat.le_refl _)
      have hl := Lib.hid hl0
      have hz := Lib.hid (rowB hrow.out hb7 hlt)
      have hB7 := Lib.hid (hB.out.trans (hb7.mono hB.out.size))
      clear hb7 hlt hl0 k0 k1 k2 k3 l0 l1 l2 l3
      generalize (((w6.setCell _ _).setCell _ _).setCell _ _).setCell _ _ = w7 at *
      by_cases hx : vx = 0
      · have hR2 := Lib.hid (hR'.out.trans (if_pos hx))
        have hxb : (vx != 0) = false := by simpa using hx
        clear hx hR'
        go_wp2_with (first | (refine wpList_load_row_g rfl 29 _ rfl (W.heap.size) rfl 29 (vC va vn vb vs) (0, 0) _ hl.out Tryz.underlying29 rfl info_val ?_) | (refine storeOver _ w.heap.size _ rfl 29 _ _ rfl (vC va vn vb vs) 29 hz.out rfl rfl info_val rfl (val_one _ _ _ _) ?_; intro w9 hr9 hb9; have hr9' := Lib.hid hr9; have hb9' := Lib.hid hb9; clear hr9 hb9))
        exact bodyPost_ret (results_row_tmp2 rfl _ _ w.heap.size 29 _ _ _ rfl hr9'.out Tryz.underlying29 rfl info_val) rfl ⟨by rw [hR2.out]; rfl, hB7.out.trans hb9'.out⟩
      · have hR2 := Lib.hid (hR'.out.trans (if_neg hx))
        have hxb : (vx != 0) = true := by simpa using hx
        clear hx hR'
        go_wp2_with (refine storeOver _ w.heap.size _ rfl 29 _ _ rfl (vC 0 0 0 ⟨#[]⟩) 29 hz.out rfl rfl info_val rfl (val_one _ _ _ _) ?_; intro w9 hr9 hb9; have hr9' := Lib.hid hr9; have hb9' := Lib.hid hb9; clear hr9 hb9)
        exact bodyPost_ret (results_row_tmp2 rfl _ _ w.heap.size 29 _ _ _ rfl hr9'.out Tryz.underlying29 rfl info_val) rfl ⟨by rw [hR2.out]; rfl, hB7.out.trans hb9'.out⟩
  · rw [if_neg hcc] at hP1 hP2
    have hP1 := Lib.hid hP1
    have hP2 := Lib.hid hP2
    have i1 : (1 : Int) ≤ (N : Int) := by omega
    have i2 : (N : Int) ≤ (c : Int) := by omega
    have i3 : (0 : Int) < (N : Int) := by omega
    have i4 : 0 < N := by omega
    go_enter Tryz.func176, Tryz.ntmps176
    go_upto_region 1 with fail
    rw [← hW]
    clear hW
    go_upto_region 3 with fail
    go_region_held3 (fun w' => w'.cell? ⟨b, o, none⟩ = some (.int .u8 K)) (first | go_keep | (exact hck.out _ hb6.out) | (exact hck.out _ (hb6.out.alloc hb6.out.size _)) | (exact hck.out _ (fin4 hr6.out hb6.out (Nat.le_refl _)).2))
      (first | (go_at_call 193; (with_reducible refine (hP1.out).mono ?_); rintro e w6 ⟨rfl, h6⟩; have hb6 := Lib.hid (hd.out.trans (h6.mono hd.out.size)); clear h6) | (go_at_call 193; (with_reducible refine (hP2.out).mono ?_); rintro e w6 ⟨rfl, h6⟩; have hb6 := Lib.hid (hda.out.trans (h6.mono hda.out.size)); have hr6 := Lib.hid (rowB hra.out h6 hsa.out); obtain ⟨⟨k0, k1, k2, k3⟩, l0, l1, l2, l3⟩ := four_of hr6.out; clear h6))
    · have hlt := (Array.getElem?_eq_some_iff.1 hrow.out).1
      have hl := Lib.hid (heap_alloc_new w6 (.cells (vC va vn vb vs) 29))
      have hb7 := hb6.out.alloc hb6.out.size (.cells (vC va vn vb vs) 29)
      have hz := Lib.hid (rowB hrow.out hb7 hlt)
      have hB7 := Lib.hid (hB.out.trans (hb7.mono hB.out.size))
      clear hb7 hlt
      generalize w6.heap.size = gl at *
      generalize w6.alloc (.cells (vC va vn vb vs) 29) = w7 at *
      by_cases hx : vx = 0
      · have hR2 := Lib.hid (hR'.out.trans (if_pos hx))
        have hxb : (vx != 0) = false := by simpa using hx
        clear hx hR'
        go_wp2_with (first | (refine wpList_load_row_g rfl 29 _ rfl (gl) rfl 29 (vC va vn vb vs) (0, 0) _ hl.out Tryz.underlying29 rfl info_val ?_) | (refine storeOver _ w.heap.size _ rfl 29 _ _ rfl (vC va vn vb vs) 29 hz.out rfl rfl info_val rfl (val_one _ _ _ _) ?_; intro w9 hr9 hb9; have hr9' := Lib.hid hr9; have hb9' := Lib.hid hb9; clear hr9 hb9))
        exact bodyPost_ret (results_row_tmp2 rfl _ _ w.heap.size 29 _ _ _ rfl hr9'.out Tryz.underlying29 rfl info_val) rfl ⟨by rw [hR2.out]; rfl, hB7.out.trans hb9'.out⟩
      · have hR2 := Lib.hid (hR'.out.trans (if_neg hx))
        have hxb : (vx != 0) = true := by simpa using hx
        clear hx hR'
        go_wp2_with (refine storeOver _ w.heap.size _ rfl 29 _ _ rfl (vC 0 0 0 ⟨#[]⟩) 29 hz.out rfl rfl info_val rfl (val_one _ _ _ _) ?_; intro w9 hr9 hb9; have hr9' := Lib.hid hr9; have hb9' := Lib.hid hb9; clear hr9 hb9)
        exact bodyPost_ret (results_row_tmp2 rfl _ _ w.heap.size 29 _ _ _ rfl hr9'.out Tryz.underlying29 rfl info_val) rfl ⟨by rw [hR2.out]; rfl, hB7.out.trans hb9'.out⟩
    · have hlt := (Array.getElem?_eq_some_iff.1 hrow.out).1
      obtain ⟨hl0, hb7⟩ := fin4 (x0 := .int .u8 va) (x1 := .int .i64 vn) (x2 := .int .u64 (vb : Int)) (x3 := .string vs) hr6.out hb6.out (Nat.le_refl _)
      have hl := Lib.hid hl0
      have hz := Lib.hid (rowB hrow.out hb7 hlt)
      have hB7 := Lib.hid (hB.out.trans (hb7.mono hB.out.size))
      clear hb7 hlt hl0 k0 k1 k2 k3 l0 l1 l2 l3
      generalize (((w6.setCell _ _).setCell _ _).setCell _ _).setCell _ _ = w7 at *
      by_cases hx : vx = 0
      · have hR2 := Lib.hid (hR'.out.trans (if_pos hx))
        have hxb : (vx != 0) = false := by simpa using hx
        clear hx hR'
        go_wp2_with (first | (refine wpList_load_row_g rfl 29 _ rfl (W.heap.size) rfl 29 (vC va vn vb vs) (0, 0) _ hl.out Tryz.underlying29 rfl info_val ?_) | (refine storeOver _ w.heap.size _ rfl 29 _ _ rfl (vC va vn vb vs) 29 hz.out rfl rfl info_val rfl (val_one _ _ _ _) ?_; intro w9 hr9 hb9; have hr9' := Lib.hid hr9; have hb9' := Lib.hid hb9; clear hr9 hb9))
        exact bodyPost_ret (results_row_tmp2 rfl _ _ w.heap.size 29 _ _ _ rfl hr9'.out Tryz.underlying29 rfl info_val) rfl ⟨by rw [hR2.out]; rfl, hB7.out.trans hb9'.out⟩
      · have hR2 := Lib.hid (hR'.out.trans (if_neg hx))
        have hxb : (vx != 0) = true := by simpa using hx
        clear hx hR'
        go_wp2_with (refine storeOver _ w.heap.size _ rfl 29 _ _ rfl (vC 0 0 0 ⟨#[]⟩) 29 hz.out rfl rfl info_val rfl (val_one _ _ _ _) ?_; intro w9 hr9 hb9; have hr9' := Lib.hid hr9; have hb9' := Lib.hid hb9; clear hr9 hb9)
        exact bodyPost_ret (results_row_tmp2 rfl _ _ w.heap.size 29 _ _ _ rfl hr9'.out Tryz.underlying29 rfl info_val) rfl ⟨by rw [hR2.out]; rfl, hB7.out.trans hb9'.out⟩
/-- What a walk keeps: the world from which it began, and rows that it laid. -/
structure Inv (w : World) (rows : List (Nat × Obj)) (w9 : World) : Prop where
  b : Below w.heap.size w w9
  r : ∀ p ∈ rows, w9.heap[p.1]? = some p.2
theorem Inv.start (w : World) : Inv w [] w := ⟨Below.refl _ _, fun p h => by cases h⟩
theorem Inv.step0 {w : World} {rows : List (Nat × Obj)} {w9 w' : World} (h : Inv w rows w9) (hb : Below w9.heap.size w9 w') : Inv w rows w' :=
  ⟨h.b.trans (hb.mono h.b.size), fun p hp => rowB (h.r p hp) hb (Array.getElem?_eq_some_iff.1 (h.r p hp)).1⟩
theorem Inv.alloc {w : World} {rows : List (Nat × Obj)} {w9 : World} (h : Inv w rows w9) (o : Obj) : Inv w rows (w9.alloc o) := h.step0 (below_a w9 o)
theorem Inv.add {w : World} {rows : List (Nat × Obj)} {w9 : World} (h : Inv w rows w9) (o : Obj) : Inv w ((w9.heap.size, o) :: rows) (w9.alloc o) :=
  ⟨(h.alloc o).b, fun p hp => by
    rcases List.mem_cons.1 hp with rfl | hp
    · exact heap_alloc_new w9 o
    · exact (h.alloc o).r p hp⟩
theorem Inv.drew {w : World} {rows : List (Nat × Obj)} {w9 : World} (h : Inv w rows w9) : Inv w rows w9.drew := h.step0 (Below.refl _ _).drew
end Go.Proofs.YtdlblhoaddfanaaGreatDoor.wir.val
namespace Go
namespace YtdlblhoaddfanaaGreatDoor
open RowKit
def HeldI (base : Nat) (w : World) (v : Value) (n : Nat) (F : List Int) : Prop := ∀ wx : World, (∀ k, base ≤ k → k < w.heap.size → wx.heap[k]? = w.heap[k]?) → w.heap.size ≤ wx.heap.size → RdI wx v n F
theorem heldI_nil (base : Nat) (w : World) : HeldI base w (.slice none 0 0) 0 [] := fun _ _ _ => .inl ⟨none, 0, rfl, fun _ => rfl, rfl, rfl⟩
theorem heldI_mono {base : Nat} {w w' : World} {v : Value} {n : Nat} {F : List Int} (h : HeldI base w v n F) (hb : Below w.heap.size w w') : HeldI base w' v n F := fun wx h1 h2 =>
  h wx (fun k k1 k2 => (h1 k k1 (Nat.lt_of_lt_of_le k2 hb.size)).trans (hb.block k k2)) (Nat.le_trans hb.size h2)
theorem heldI_lower {base B : Nat} {w : World} {v : Value} {n : Nat} {F : List Int} (h : HeldI B w v n F) (hb : base ≤ B) : HeldI base w v n F := fun wx h1 h2 => h wx (fun k k1 k2 => h1 k (Nat.le_trans hb k1) k2) h2
end YtdlblhoaddfanaaGreatDoor
end Go
namespace Go.Proofs.YtdlblhoaddfanaaGreatDoor.wir
open Go.RowKit Go.YtdlblhoaddfanaaGreatDoor
set_option linter.unusedVariables false
theorem heldI_row {w : World} {g : Nat} {F : List Int} {E : TypeId} (hg : w.heap[g]? = some (.cells (u8s F) E (0, 0))) (n : Nat) (hF : F.length = 32 * n) (hn : n ≤ 1000000) {B : Nat} (hB : B ≤ g) : HeldI B w (.slice (some ⟨g, 0, none⟩) n n) n F := fun wx h1 h2 =>
  rdI_row ((h1 g hB (Array.getElem?_eq_some_iff.1 hg).1).trans hg) n hF hn
end Go.Proofs.YtdlblhoaddfanaaGreatDoor.wir

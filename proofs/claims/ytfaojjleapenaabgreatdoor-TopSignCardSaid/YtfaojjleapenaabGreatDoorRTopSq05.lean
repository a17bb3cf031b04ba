/- Texts that the row stands on, part 5. -/
import Derived.Test.YtfaojjleapenaabGreatDoorRTopSq04
import Derived.Laws.BytesString
namespace Go.Proofs.YtfaojjleapenaabGreatDoor.wir.val
open Go.RowKit Go.YtfaojjleapenaabGreatDoor
set_option linter.unusedVariables false
theorem ownI_any (w : World) (B : Nat) : OwnI B 43 w (.slice none 0 0) 0 [] := OwnI.nil w B _
set_option maxHeartbeats 4000000 in
set_option maxRecDepth 100000 in
theorem copied_any (o : Od) (hn : o.n ≤ 20) (hk : o.key.size ≤ 1000000) (hv : o.v.s.size ≤ 1000000) (pv : Value) (w : World) (hp : RdI w pv o.n o.F) :
    Calls Tryz.prog 41 #[.agg (o.c pv)] w fun e w' => ∃ qv, e = .returned (.agg (o.c qv)) ∧ OwnI w.heap.size 43 w' qv o.n o.F ∧ Below w.heap.size w w' := by
  obtain ⟨W, hW⟩ : ∃ W, W = (w.alloc (.cells (o.c pv) 41)).alloc (.cells (zO.c (.slice none 0 0)) 41) := ⟨_, rfl⟩
  have hr0 : W.heap[w.heap.size]? = some (.cells (o.c pv) 41 (0, 0)) := by rw [hW]; exact rowB (heap_alloc_new w _) (below_a _ _) (by simp)
  have hr1 : W.heap[w.heap.size + 1]? = some (.cells (zO.c (.slice none 0 0)) 41 (0, 0)) := by rw [hW]; exact hn2 w _ _
  have hb0 : Below w.heap.size w W := by rw [hW]; exact ((Below.refl w.heap.size w).alloc (Nat.le_refl _) _).alloc (by simp) _
  obtain ⟨pa, pc, rfl⟩ := hp.slice
  have hb1 := Lib.hid hb0
  have hrow := Lib.hid hr0
  have hres := Lib.hid hr1
  have hlt := Lib.hid (Array.getElem?_eq_some_iff.1 hr0).1
  have hlt1 := Lib.hid (Array.getElem?_eq_some_iff.1 hr1).1
  have hp1 := Lib.hid (hp.mono hb0)
  have hc1 : W.cell? ⟨w.heap.size, 1, none⟩ = some (.slice pa o.n pc) := by rw [cell_of_row _ _ _ _ _ _ hr0]; rfl
  have hcl1 := Lib.hid (fun wz => clone_any o.key hk wz)
  have hcl2 := Lib.hid (fun wz => clone_any o.v.s hv wz)
  clear hr0 hr1 hb0 hp
  go_enter Tryz.func41, Tryz.ntmps41
  go_upto_region 1 with fail
  change Code.wp _ _ _ _ ((w.alloc (.cells (o.c (.slice pa o.n pc)) 41)).alloc (.cells (zO.c (.slice none 0 0)) 41))
  rw [← hW]
  clear hW
  go_wp2_with (refine appendIs rfl _ _ 32 rfl W.heap.size 43 Tryz.underlying32 (by kernel_rfl) _ rfl 0 [] (ownI_any W _) _ rfl o.n o.F hp1.out (by omega) (Nat.le_refl _) ?_)
  intro v2 w2 h1 h2
  have hB2 := Lib.hid ((ownI_any W W.heap.size).below h2 (Nat.le_refl _))
  have hq0 := Lib.hid (show OwnI W.heap.size 43 w2 v2 o.n o.F by simpa using h1)
  obtain ⟨qa, qc, rfl⟩ := hq0.out.rd.slice
  have hr2 := Lib.hid (rowB hrow.out hB2.out hlt.out)
  have hs2 := Lib.hid (rowB hres.out hB2.out hlt1.out)
  have f1 := frozen_of_row w2 w.heap.size 1 _ _ hr2.out
  have k1 : w2.cell? ⟨w.heap.size, 1, none⟩ = some (.slice pa o.n pc) := by rw [cell_of_row _ _ _ _ _ _ hr2.out]; rfl
  have hset := Lib.hid (show w2.setCell ⟨w.heap.size, 1, none⟩ (.slice qa o.n qc) = w2.setRow w.heap.size (o.c (.slice qa o.n qc)) from setCell_eq hr2.out 1 (.slice qa o.n qc))
  clear h1 h2
  refine Stop.go ?_
  go_upto_region 2 with fail
  rw [hset.out]
  have hr3 := Lib.hid (setRow_heap w2 w.heap.size _ (o.c (.slice qa o.n qc)) _ _ hr2.out)
  have hs3 := Lib.hid ((setRow_other w2 w.heap.size (w.heap.size + 1) (o.c (.slice qa o.n qc)) (by omega)).trans hs2.out)
  have hB3 := Lib.hid (show Below w.heap.size w (w2.setRow w.heap.size (o.c (.slice qa o.n qc))) from below_setRow' (hb1.out.trans (hB2.out.mono hb1.out.size)) (Nat.le_refl _) _)
  have hq := Lib.hid (ownI_setRow hq0.out hlt.out (o.c (.slice qa o.n qc)))
  clear hset hq0 f1 k1 hr2 hs2 hB2 hc1 hp1 hrow hres
  generalize w2.setRow w.heap.size (o.c (.slice qa o.n qc)) = w3 at *
  have c4 : w3.cell? ⟨w.heap.size, 4, none⟩ = some (.string o.key) := by rw [cell_of_row _ _ _ _ _ _ hr3.out]; rfl
  go_upto_region 3 with (go_at_call 73; (with_reducible refine (hcl1.out _).mono ?_); rintro e w4 ⟨rfl, q2⟩; replace hr3 := Lib.hid (rowB hr3.out q2 (Array.getElem?_eq_some_iff.1 hr3.out).1); replace hs3 := Lib.hid (rowB hs3.out q2 (Array.getElem?_eq_some_iff.1 hs3.out).1); replace hq := Lib.hid (hq.out.kept q2); replace hB3 := Lib.hid (hB3.out.trans (Below.mono q2 hB3.out.size)); have hsame := Lib.hid (show w4.setCell ⟨w.heap.size, 4, none⟩ (.string o.key) = w4 from (setCell_eq hr3.out 4 (.string o.key)).trans (setRow_self w4 w.heap.size (o.c (.slice qa o.n qc)) _ _ hr3.out)); have f1 := frozen_of_row w4 w.heap.size 4 _ _ hr3.out; have k1 := (cell_of_row w4 w.heap.size 4 _ _ _ hr3.out); clear q2)
  rw [hsame.out]
  clear c4 hsame f1 k1
  have c8 : w4.cell? ⟨w.heap.size, 8, none⟩ = some (.string o.v.s) := by rw [cell_of_row _ _ _ _ _ _ hr3.out]; rfl
  go_upto_region 4 with (go_at_call 73; (with_reducible refine (hcl2.out _).mono ?_); rintro e w4 ⟨rfl, q2⟩; replace hr3 := Lib.hid (rowB hr3.out q2 (Array.getElem?_eq_some_iff.1 hr3.out).1); replace hs3 := Lib.hid (rowB hs3.out q2 (Array.getElem?_eq_some_iff.1 hs3.out).1); replace hq := Lib.hid (hq.out.kept q2); replace hB3 := Lib.hid (hB3.out.trans (Below.mono q2 hB3.out.size)); have hsame := Lib.hid (show w4.setCell ⟨w.heap.size, 8, none⟩ (.string o.v.s) = w4 from (setCell_eq hr3.out 8 (.string o.v.s)).trans (setRow_self w4 w.heap.size (o.c (.slice qa o.n qc)) _ _ hr3.out)); have f1 := frozen_of_row w4 w.heap.size 8 _ _ hr3.out; have k1 := (cell_of_row w4 w.heap.size 8 _ _ _ hr3.out); clear q2)
  rw [hsame.out]
  clear c8 hsame f1 k1
  go_wp2_with (first
    | (refine wpList_load_row_g rfl 41 _ rfl w.heap.size rfl 41 (o.c (.slice qa o.n qc)) (0, 0) _ hr3.out Tryz.underlying41 rfl info_op ?_)
    | (refine wpList_store_row rfl 41 _ _ rfl (w.heap.size + 1) (o.c (.slice qa o.n qc)) rfl rfl 41 _ hs3.out info_op rfl (op_one _ _ _ _) ?_))
  exact bodyPost_ret (results_cell_row rfl _ _ (w.heap.size + 1) 41 _ _ _ rfl (setRow_heap _ _ _ _ _ _ hs3.out) Tryz.underlying41 rfl info_op) rfl ⟨_, rfl, (ownI_setRow hq.out hlt1.out _).mono hb1.out.size, below_setRow' hB3.out (by omega) _⟩
/-- What Verify answers. -/
def verO (o : Od) : Int := if chkO o = 0 then (if rightB o.au (msgB o) o.s o.e then 0 else 22) else chkO o
theorem chk_in {o : Od} (h : chkO o = 0) : grp.inG o.au = true := by
  unfold chkO at h
  by_cases h1 : 4 < o.n
  · rw [if_pos h1] at h; omega
  · rw [if_neg h1] at h
    by_cases h2 : riseF o.F o.n = true
    · rw [if_pos h2] at h
      by_cases h3 : okO o = true
      · unfold okO at h3
        simp only [Bool.and_eq_true] at h3
        exact h3.1
      · rw [if_neg h3] at h; omega
    · rw [if_neg h2] at h; omega
set_option maxHeartbeats 4000000 in
set_option maxRecDepth 100000 in
theorem opVerify_any (o : Od) (fo : o.Fit) (pv : Value) (w : World) (hp : RdI w pv o.n o.F) (hG : GlobW w) :
    Calls Tryz.prog 22 #[.agg (o.c pv)] w fun e w' => e = .returned (.int .i64 (verO o)) ∧ Below w.heap.size w w' := by
  obtain ⟨W, hW⟩ : ∃ W, W = w.alloc (.cells (o.c pv) 41) := ⟨_, rfl⟩
  have hr0 := heap_alloc_new w (.cells (o.c pv) 41)
  have hb0 := (Below.refl w.heap.size w).alloc (Nat.le_refl _) (.cells (o.c pv) 41)
  rw [← hW] at hr0 hb0
  have hlF := hp.len
  obtain ⟨pa, pc, rfl⟩ := hp.slice
  have hb1 := Lib.hid hb0
  have hlt := (Array.getElem?_eq_some_iff.1 hr0).1
  have hrows := Lib.hid (fun (wz : World) (h : Below W.heap.size W wz) => rowB hr0 h hlt)
  have hS := Lib.hid (fun (wz : World) (h : Below W.heap.size W wz) => cellsO (rowB hr0 h hlt))
  have hK := Lib.hid (fun (wz : World) (hb : Below W.heap.size W wz) => opCheck_any o fo (.slice pa o.n pc) wz ((hp.mono hb0).mono hb))
  by_cases h0 : chkO o = 0
  · have e := Lib.hid (show verO o = if rightB o.au (msgB o) o.s o.e then 0 else 22 by unfold verO; rw [if_pos h0])
    rw [h0] at hK
    have z := chk_zero h0
    have hM := Lib.hid (fun (wz : World) (hb : Below W.heap.size W wz) => message_any o fo z.1 z.2.1 z.2.2 (.slice pa o.n pc) wz ((hp.mono hb0).mono hb))
    have hV := Lib.hid (fun (wz : World) (v : Value) (hb : Below W.heap.size W wz) (hv : RdB wz v (msgB o)) => verify_any o.au (chk_in h0) o.s o.e fo.s fo.e v (msgB o) wz hv (msgB_bytes o fo z.1 z.2.2) (Nat.le_trans (msgB_short o fo z.1 hlF z.2.2) (by decide)) ((hG.mono hb0).mono hb))
    rw [e.out]
    generalize (if rightB o.au (msgB o) o.s o.e then (0 : Int) else 22) = R at *
    clear e hr0 hb0 hp fo h0 z hG hlF
    go_enter Tryz.func22, Tryz.ntmps22
    go_upto_region 1 with fail
    rw [← hW]
    clear hW
    have hB := Lib.hid (Below.refl W.heap.size W)
    go_upto_region 4 with (first | (refine wpList_load_row_g rfl 41 _ rfl w.heap.size rfl 41 (o.c (.slice pa o.n pc)) (0, 0) _ (hrows.out _ hB.out) Tryz.underlying41 rfl info_op ?_) | (go_at_call 21; (with_reducible refine (hK.out _ hB.out).mono ?_); rintro e w3 ⟨rfl, h3⟩; replace hB := Lib.hid (hB.out.trans (h3.mono hB.out.size)); clear h3))
    replace hB := Lib.hid (show Below W.heap.size W w3.drew from hB.out.drew)
    have hcc := Lib.hid (show ∀ (wz : World) (h : Below W.heap.size W wz), (fun wz => wz.cell? ⟨w.heap.size, 0, none⟩ = some (.int .u32 (o.au : Int)) ∧ wz.cell? ⟨w.heap.size, 1, none⟩ = some (.slice pa o.n pc) ∧ wz.cell? ⟨w.heap.size, 2, none⟩ = some (.int .u64 (o.st : Int)) ∧ wz.cell? ⟨w.heap.size, 3, none⟩ = some (.int .u8 o.k) ∧ wz.cell? ⟨w.heap.size, 4, none⟩ = some (.string o.key) ∧ wz.cell? ⟨w.heap.size, 5, none⟩ = some (.int .u8 o.v.k) ∧ wz.cell? ⟨w.heap.size, 6, none⟩ = some (.int .i64 o.v.n) ∧ wz.cell? ⟨w.heap.size, 7, none⟩ = some (.int .u64 (o.v.b : Int)) ∧ wz.cell? ⟨w.heap.size, 8, none⟩ = some (.string o.v.s) ∧ wz.cell? ⟨w.heap.size, 9, none⟩ = some (.int .u32 (o.e : Int)) ∧ wz.cell? ⟨w.heap.size, 10, none⟩ = some (.int .u32 (o.s : Int))) wz from fun wz h => cells11 (hrows.out wz h))
    obtain ⟨c0, c1, c2, c3, c4, c5, c6, c7, c8, c9, c10⟩ := hcc.out w3.drew hB.out
    simp only [World.cell?_drew] at c0 c1 c2 c3 c4 c5 c6 c7 c8 c9 c10
    go_region_held3 (fun wz => wz.cell? ⟨w.heap.size, 0, none⟩ = some (.int .u32 (o.au : Int)) ∧ wz.cell? ⟨w.heap.size, 1, none⟩ = some (.slice pa o.n pc) ∧ wz.cell? ⟨w.heap.size, 2, none⟩ = some (.int .u64 (o.st : Int)) ∧ wz.cell? ⟨w.heap.size, 3, none⟩ = some (.int .u8 o.k) ∧ wz.cell? ⟨w.heap.size, 4, none⟩ = some (.string o.key) ∧ wz.cell? ⟨w.heap.size, 5, none⟩ = some (.int .u8 o.v.k) ∧ wz.cell? ⟨w.heap.size, 6, none⟩ = some (.int .i64 o.v.n) ∧ wz.cell? ⟨w.heap.size, 7, none⟩ = some (.int .u64 (o.v.b : Int)) ∧ wz.cell? ⟨w.heap.size, 8, none⟩ = some (.string o.v.s) ∧ wz.cell? ⟨w.heap.size, 9, none⟩ = some (.int .u32 (o.e : Int)) ∧ wz.cell? ⟨w.heap.size, 10, none⟩ = some (.int .u32 (o.s : Int))) (first | (exact hcc.out _ hB.out) | go_keep)
      (first
        | (go_at_call 34; (with_reducible refine (hM.out _ hB.out).mono ?_); rintro e w4 ⟨sv, rfl, q1, q2⟩; replace hB := Lib.hid (hB.out.trans (q2.mono hB.out.size)); have hO := Lib.hid q1.rd; obtain ⟨ma, mc, hz⟩ := hO.out.slice; subst hz; clear q1 q2)
        | (go_at_call 45; (with_reducible refine (hV.out _ _ hB.out hO.out).mono ?_); rintro e w5 ⟨rfl, q2⟩; replace hB := Lib.hid (hB.out.trans (q2.mono hB.out.size)); clear q2))
    all_goals
      clear c0 c1 c2 c3 c4 c5 c6 c7 c8 c9 c10
      go_wp2
      go_ret
      exact ⟨rfl, hb1.out.trans (hB.out.mono hb1.out.size)⟩
  · have e := Lib.hid (show verO o = chkO o by unfold verO; rw [if_neg h0])
    rw [e.out]
    generalize chkO o = E at *
    have hE : (E != 0) = true := by simpa using h0
    clear e hr0 hb0 hp fo h0 hG hlF
    go_enter Tryz.func22, Tryz.ntmps22
    go_upto_region 1 with fail
    rw [← hW]
    clear hW
    have hB := Lib.hid (Below.refl W.heap.size W)
    go_wp2_with (first | (refine wpList_load_row_g rfl 41 _ rfl w.heap.size rfl 41 (o.c (.slice pa o.n pc)) (0, 0) _ (hrows.out _ hB.out) Tryz.underlying41 rfl info_op ?_) | (go_at_call 21; (with_reducible refine (hK.out _ hB.out).mono ?_); rintro e w3 ⟨rfl, h3⟩; replace hB := Lib.hid (hB.out.trans (h3.mono hB.out.size)); clear h3))
    go_ret
    exact ⟨rfl, hb1.out.trans (hB.out.mono hb1.out.size)⟩
end Go.Proofs.YtfaojjleapenaabGreatDoor.wir.val
namespace Go.Proofs.YtfaojjleapenaabGreatDoor.wir.val
open Go.RowKit Go.YtfaojjleapenaabGreatDoor
set_option linter.unusedVariables false
def Od.byA (o : Od) (y : Nat) : Od := { o with au := y }
def Od.sigd (o : Od) (y e s : Nat) : Od := { o with au := y, e := e, s := s }
theorem set_au {w : World} {g : Nat} {o : Od} {pv : Value} (h : w.heap[g]? = some (.cells (o.c pv) 41 (0, 0))) (y : Nat) :
    w.setCell ⟨g, 0, none⟩ (.int .u32 (y : Int)) = w.setRow g ((o.byA y).c pv) := setCell_eq h 0 _
theorem set_es {w : World} {g : Nat} {o : Od} {pv : Value} (y e s : Nat) (h : w.heap[g]? = some (.cells ((o.byA y).c pv) 41 (0, 0))) :
    (w.setCell ⟨g, 9, none⟩ (.int .u32 (e : Int))).setCell ⟨g, 10, none⟩ (.int .u32 (s : Int)) = w.setRow g ((o.sigd y e s).c pv) := set_sig h e s
theorem fit_by {o : Od} (h : o.Fit) (y : Nat) (hy : y < 4294967296) : (o.byA y).Fit := ⟨hy, h.F, h.n, h.st, h.k, h.key, h.v, h.e, h.s⟩
set_option maxHeartbeats 4000000 in
set_option maxRecDepth 100000 in
theorem opSign_arg (a : Nat) (h : ¬ (1 ≤ a ∧ a < 500000003)) (o : Od) (pv : Value) (w : World) (hp : RdI w pv o.n o.F) :
    Calls Tryz.prog 20 #[.int .u32 (a : Int), .agg (o.c pv)] w fun e w' => e = .returned (.tuple #[.agg (zO.c (.slice none 0 0)), .int .i64 2]) ∧ Below w.heap.size w w' := by
  obtain ⟨W, hW⟩ : ∃ W, W = (w.alloc (.cells (o.c pv) 41)).alloc (.cells (zO.c (.slice none 0 0)) 41) := ⟨_, rfl⟩
  have hr0 : W.heap[w.heap.size]? = some (.cells (o.c pv) 41 (0, 0)) := by rw [hW]; exact rowB (heap_alloc_new w _) (below_a _ _) (by simp)
  have hr1 : W.heap[w.heap.size + 1]? = some (.cells (zO.c (.slice none 0 0)) 41 (0, 0)) := by rw [hW]; exact hn2 w _ _
  have hb0 : Below w.heap.size w W := by rw [hW]; exact ((Below.refl w.heap.size w).alloc (Nat.le_refl _) _).alloc (by simp) _
  obtain ⟨pa, pc, rfl⟩ := hp.slice
  have hb1 := Lib.hid hb0
  have hrow := Lib.hid hr0
  have hres := Lib.hid hr1
  have hlt := Lib.hid (Array.getElem?_eq_some_iff.1 hr0).1
  have hlt1 := Lib.hid (Array.getElem?_eq_some_iff.1 hr1).1
  have hp1 := Lib.hid (hp.mono hb0)
  have hP := Lib.hid (fun wz => public_bad a h wz)
  clear hr0 hr1 hb0 hp h
  go_enter Tryz.func20, Tryz.ntmps20
  go_upto_region 1 with fail
  change Code.wp _ _ _ _ ((w.alloc (.cells (o.c (.slice pa o.n pc)) 41)).alloc (.cells (zO.c (.slice none 0 0)) 41))
  rw [← hW]
  clear hW
  go_wp2_with (first
    | (go_at_call 39; (with_reducible refine (hP.out _).mono ?_); rintro e w3 ⟨rfl, rfl⟩)
    | (refine storeOver _ (w.heap.size + 1) _ rfl 41 _ _ rfl (zO.c (.slice none 0 0)) 41 hres.out rfl rfl info_op rfl (op_one _ _ _ _) ?_; intro w5 hr5 hb5; have hr5' := Lib.hid hr5; have hb5' := Lib.hid hb5; clear hr5 hb5))
  exact bodyPost_ret (results_row_tmp rfl _ _ (w.heap.size + 1) 41 _ _ _ rfl hr5'.out Tryz.underlying41 rfl info_op) rfl ⟨rfl, hb1.out.trans (hb5'.out.mono (by omega))⟩
set_option maxHeartbeats 8000000 in
set_option maxRecDepth 100000 in
theorem opSign_bad (a : Nat) (h : 1 ≤ a ∧ a < 500000003) (o : Od) (fo : o.Fit) (pv : Value) (w : World) (hp : RdI w pv o.n o.F) (h0 : chkO (o.byA (grp.pw 4 a)).bare ≠ 0) :
    Calls Tryz.prog 20 #[.int .u32 (a : Int), .agg (o.c pv)] w fun e w' => e = .returned (.tuple #[.agg (zO.c (.slice none 0 0)), .int .i64 (chkO (o.byA (grp.pw 4 a)).bare)]) ∧ Below w.heap.size w w' := by
  obtain ⟨W, hW⟩ : ∃ W, W = (w.alloc (.cells (o.c pv) 41)).alloc (.cells (zO.c (.slice none 0 0)) 41) := ⟨_, rfl⟩
  have hr0 : W.heap[w.heap.size]? = some (.cells (o.c pv) 41 (0, 0)) := by rw [hW]; exact rowB (heap_alloc_new w _) (below_a _ _) (by simp)
  have hr1 : W.heap[w.heap.size + 1]? = some (.cells (zO.c (.slice none 0 0)) 41 (0, 0)) := by rw [hW]; exact hn2 w _ _
  have hb0 : Below w.heap.size w W := by rw [hW]; exact ((Below.refl w.heap.size w).alloc (Nat.le_refl _) _).alloc (by simp) _
  obtain ⟨pa, pc, rfl⟩ := hp.slice
  have hb1 := Lib.hid hb0
  have hrow := Lib.hid hr0
  have hres := Lib.hid hr1
  have hlt := Lib.hid (Array.getElem?_eq_some_iff.1 hr0).1
  have hlt1 := Lib.hid (Array.getElem?_eq_some_iff.1 hr1).1
  have hp1 := Lib.hid (hp.mono hb0)
  have hP := Lib.hid (fun wz => public_ok a h wz)
  have hpw := Lib.hid hp
  have hlF := Lib.hid hp.len
  generalize hy : grp.pw 4 a = y at *
  have hyu : y < 4294967296 := by rw [← hy]; exact pw_u32 4 a
  have hf0 := frozen_of_row W w.heap.size 0 _ _ hr0
  have hc0 : W.cell? ⟨w.heap.size, 0, none⟩ = some (.int .u32 (o.au : Int)) := by rw [cell_of_row _ _ _ _ _ _ hr0]; rfl
  have hM := Lib.hid (fun (wz : World) (hb : Below w.heap.size w wz) => (opMessage_any (o.byA y) (fit_by fo y hyu) (.slice pa o.n pc) wz (hpw.out.mono hb)).mono (fun e w' hq => show e = .returned (.tuple #[.slice none 0 0, .int .i64 (chkO (o.byA y).bare)]) ∧ Below wz.heap.size wz w' from ⟨by have h1 := hq.1; rw [if_neg h0] at h1; exact h1, hq.2⟩))
  generalize chkO (o.byA y).bare = CE at *
  have hE : (CE != 0) = true := by simpa using h0
  clear hr0 hr1 hb0 hp fo h hy h0
  go_enter Tryz.func20, Tryz.ntmps20
  go_upto_region 1 with fail
  change Code.wp _ _ _ _ ((w.alloc (.cells (o.c (.slice pa o.n pc)) 41)).alloc (.cells (zO.c (.slice none 0 0)) 41))
  rw [← hW]
  clear hW
  go_upto_region 4 with (go_at_call 39; (with_reducible refine (hP.out _).mono ?_); rintro e w3 ⟨rfl, q2⟩; have hB := Lib.hid (hb1.out.trans (Below.mono q2 hb1.out.size)); have hr := Lib.hid (rowB hrow.out q2 hlt.out); have hs := Lib.hid (rowB hres.out q2 hlt1.out); clear q2 hc0 hf0)
  have f0 := frozen_of_row w3 w.heap.size 0 _ _ hr.out
  have d0 : w3.cell? ⟨w.heap.size, 0, none⟩ = some (.int .u32 (o.au : Int)) := by rw [cell_of_row _ _ _ _ _ _ hr.out]; rfl
  have hset := Lib.hid (set_au hr.out y)
  go_upto_region 5 with fail
  rw [hset.out]
  clear hset f0 d0
  replace hs := Lib.hid ((setRow_other w3 w.heap.size (w.heap.size + 1) ((o.byA y).c (.slice pa o.n pc)) (by omega)).trans hs.out)
  replace hr := Lib.hid (setRow_heap w3 w.heap.size _ ((o.byA y).c (.slice pa o.n pc)) _ _ hr.out)
  replace hB := Lib.hid (show Below w.heap.size w (w3.setRow w.heap.size ((o.byA y).c (.slice pa o.n pc))) from below_setRow' hB.out (Nat.le_refl _) _)
  generalize w3.setRow w.heap.size ((o.byA y).c (.slice pa o.n pc)) = w4 at *
  go_wp2_with (first
    | (refine wpList_load_row_g rfl 41 _ rfl w.heap.size rfl 41 ((o.byA y).c (.slice pa o.n pc)) (0, 0) _ hr.out Tryz.underlying41 rfl info_op ?_)
    | (go_at_call 18; (with_reducible refine (hM.out _ hB.out).mono ?_); rintro e w5 ⟨rfl, q2⟩; replace hr := Lib.hid (rowB hr.out q2 (Array.getElem?_eq_some_iff.1 hr.out).1); replace hs := Lib.hid (rowB hs.out q2 (Array.getElem?_eq_some_iff.1 hs.out).1); replace hB := Lib.hid (hB.out.trans (Below.mono q2 hB.out.size)); clear q2)
    | (refine storeOver _ (w.heap.size + 1) _ rfl 41 _ _ rfl (zO.c (.slice none 0 0)) 41 hs.out rfl rfl info_op rfl (op_one _ _ _ _) ?_; intro w6 hr5 hb5; have hr5' := Lib.hid hr5; have hb5' := Lib.hid hb5; clear hr5 hb5))
  exact bodyPost_ret (results_row_tmp rfl _ _ (w.heap.size + 1) 41 _ _ _ rfl hr5'.out Tryz.underlying41 rfl info_op) rfl ⟨rfl, hB.out.trans (hb5'.out.mono (by omega))⟩
set_option maxHeartbeats 8000000 in
set_option maxRecDepth 100000 in
theorem opSign_ok (a : Nat) (h : 1 ≤ a ∧ a < 500000003) (o : Od) (fo : o.Fit) (pv : Value) (w : World) (hp : RdI w pv o.n o.F) (hG : GlobW w) (h0 : chkO (o.byA (grp.pw 4 a)).bare = 0) :
    Calls Tryz.prog 20 #[.int .u32 (a : Int), .agg (o.c pv)] w fun e w' => ∃ qv, e = .returned (.tuple #[.agg ((o.sigd (grp.pw 4 a) (eN a (msgB (o.byA (grp.pw 4 a)))) (sN a (msgB (o.byA (grp.pw 4 a))))).c qv), .int .i64 0]) ∧ RdI w' qv o.n o.F ∧ Below w.heap.size w w' := by
  obtain ⟨W, hW⟩ : ∃ W, W = (w.alloc (.cells (o.c pv) 41)).alloc (.cells (zO.c (.slice none 0 0)) 41) := ⟨_, rfl⟩
  have hr0 : W.heap[w.heap.size]? = some (.cells (o.c pv) 41 (0, 0)) := by rw [hW]; exact rowB (heap_alloc_new w _) (below_a _ _) (by simp)
  have hr1 : W.heap[w.heap.size + 1]? = some (.cells (zO.c (.slice none 0 0)) 41 (0, 0)) := by rw [hW]; exact hn2 w _ _
  have hb0 : Below w.heap.size w W := by rw [hW]; exact ((Below.refl w.heap.size w).alloc (Nat.le_refl _) _).alloc (by simp) _
  obtain ⟨pa, pc, rfl⟩ := hp.slice
  have hb1 := Lib.hid hb0
  have hrow := Lib.hid hr0
  have hres := Lib.hid hr1
  have hlt := Lib.hid (Array.getElem?_eq_some_iff.1 hr0).1
  have hlt1 := Lib.hid (Array.getElem?_eq_some_iff.1 hr1).1
  have hp1 := Lib.hid (hp.mono hb0)
  have hP := Lib.hid (fun wz => public_ok a h wz)
  have hpw := Lib.hid hp
  have hlF := Lib.hid hp.len
  generalize hy : grp.pw 4 a = y at *
  have hyu : y < 4294967296 := by rw [← hy]; exact pw_u32 4 a
  have hf0 := frozen_of_row W w.heap.size 0 _ _ hr0
  have hc0 : W.cell? ⟨w.heap.size, 0, none⟩ = some (.int .u32 (o.au : Int)) := by rw [cell_of_row _ _ _ _ _ _ hr0]; rfl
  have hM := Lib.hid (fun (wz : World) (hb : Below w.heap.size w wz) => (opMessage_any (o.byA y) (fit_by fo y hyu) (.slice pa o.n pc) wz (hpw.out.mono hb)).mono (fun e w' hq => show ∃ sv, e = .returned (.tuple #[sv, .int .i64 0]) ∧ RdB w' sv (msgB (o.byA y)) ∧ Below wz.heap.size wz w' from by have h1 := hq.1; rw [if_pos h0] at h1; obtain ⟨sv, h2, h3⟩ := h1; exact ⟨sv, h2, h3.rd, hq.2⟩))
  have hSg := Lib.hid (fun (wz : World) (v : Value) (hb : Below w.heap.size w wz) (hv : RdB wz v (msgB (o.byA y))) => sign_ok a h v (msgB (o.byA y)) wz hv (msgB_bytes (o.byA y) (fit_by fo y hyu) (chk_zero h0).1 (chk_zero h0).2.2) (Nat.le_trans (msgB_short (o.byA y) (fit_by fo y hyu) (chk_zero h0).1 hlF.out (chk_zero h0).2.2) (by decide)) (hG.mono hb))
  have hn20 : o.n ≤ 20 := Nat.le_trans (chk_zero h0).1 (by decide)
  have hCp := Lib.hid (fun (e s : Nat) (wz : World) (hb : Below w.heap.size w wz) => copied_any (o.sigd y e s) hn20 fo.key fo.v.s (.slice pa o.n pc) wz (hpw.out.mono hb))
  have hml := Lib.hid (show ∃ N, (msgB (o.byA y)).length = N from ⟨_, rfl⟩)
  generalize eN a (msgB (o.byA y)) = E at *
  generalize sN a (msgB (o.byA y)) = S at *
  generalize msgB (o.byA y) = MB at *
  clear hr0 hr1 hb0 hp fo hG h hy h0 hn20 hlF
  go_enter Tryz.func20, Tryz.ntmps20
  go_upto_region 1 with fail
  change Code.wp _ _ _ _ ((w.alloc (.cells (o.c (.slice pa o.n pc)) 41)).alloc (.cells (zO.c (.slice none 0 0)) 41))
  rw [← hW]
  clear hW
  go_upto_region 4 with (go_at_call 39; (with_reducible refine (hP.out _).mono ?_); rintro e w3 ⟨rfl, q2⟩; have hB := Lib.hid (hb1.out.trans (Below.mono q2 hb1.out.size)); have hr := Lib.hid (rowB hrow.out q2 hlt.out); have hs := Lib.hid (rowB hres.out q2 hlt1.out); clear q2 hc0 hf0)
  have f0 := frozen_of_row w3 w.heap.size 0 _ _ hr.out
  have d0 : w3.cell? ⟨w.heap.size, 0, none⟩ = some (.int .u32 (o.au : Int)) := by rw [cell_of_row _ _ _ _ _ _ hr.out]; rfl
  have hset := Lib.hid (set_au hr.out y)
  go_upto_region 5 with fail
  rw [hset.out]
  clear hset f0 d0
  replace hs := Lib.hid ((setRow_other w3 w.heap.size (w.heap.size + 1) ((o.byA y).c (.slice pa o.n pc)) (by omega)).trans hs.out)
  replace hr := Lib.hid (setRow_heap w3 w.heap.size _ ((o.byA y).c (.slice pa o.n pc)) _ _ hr.out)
  replace hB := Lib.hid (show Below w.heap.size w (w3.setRow w.heap.size ((o.byA y).c (.slice pa o.n pc))) from below_setRow' hB.out (Nat.le_refl _) _)
  generalize w3.setRow w.heap.size ((o.byA y).c (.slice pa o.n pc)) = w4 at *
  go_upto_region 8 with (first
    | (refine wpList_load_row_g rfl 41 _ rfl w.heap.size rfl 41 ((o.byA y).c (.slice pa o.n pc)) (0, 0) _ hr.out Tryz.underlying41 rfl info_op ?_)
    | (go_at_call 18; (with_reducible refine (hM.out _ hB.out).mono ?_); rintro e w5 ⟨sv, rfl, q1, q2⟩; replace hr := Lib.hid (rowB hr.out q2 (Array.getElem?_eq_some_iff.1 hr.out).1); replace hs := Lib.hid (rowB hs.out q2 (Array.getElem?_eq_some_iff.1 hs.out).1); replace hB := Lib.hid (hB.out.trans (Below.mono q2 hB.out.size)); have hO := Lib.hid q1; obtain ⟨ma, mc, hz⟩ := hO.out.slice; subst hz; clear q1 q2))
  go_wp2_with (go_at_call 40; (with_reducible refine (hSg.out _ _ hB.out hO.out).mono ?_); rintro e w6 ⟨rfl, q2⟩; replace hr := Lib.hid (rowB hr.out q2 (Array.getElem?_eq_some_iff.1 hr.out).1); replace hs := Lib.hid (rowB hs.out q2 (Array.getElem?_eq_some_iff.1 hs.out).1); replace hB := Lib.hid (hB.out.trans (Below.mono q2 hB.out.size)); have g9 := frozen_of_row w6 w.heap.size 9 _ _ hr.out; have g10 := frozen_of_row w6 w.heap.size 10 _ _ hr.out; have hx := (cellsO hr.out); have x9 := hx.2.2.2.2.2.1; have x10 := hx.2.2.2.2.2.2; have hset := Lib.hid (set_es (o := o) y E S hr.out); clear q2 hx; refine Stop.go'' _ ?_)
  refine StopP.go ?_
  go_upto_region 9 with fail
  rw [hset.out]
  clear hset g9 g10 x9 x10
  replace hs := Lib.hid ((setRow_other w6 w.heap.size (w.heap.size + 1) ((o.sigd y E S).c (.slice pa o.n pc)) (by omega)).trans hs.out)
  replace hr := Lib.hid (setRow_heap w6 w.heap.size _ ((o.sigd y E S).c (.slice pa o.n pc)) _ _ hr.out)
  replace hB := Lib.hid (show Below w.heap.size w (w6.setRow w.heap.size ((o.sigd y E S).c (.slice pa o.n pc))) from below_setRow' hB.out (Nat.le_refl _) _)
  generalize w6.setRow w.heap.size ((o.sigd y E S).c (.slice pa o.n pc)) = w7 at *
  have hl7 := Lib.hid (Array.getElem?_eq_some_iff.1 hs.out).1
  go_wp2_with (first
    | (refine wpList_load_row_g rfl 41 _ rfl w.heap.size rfl 41 ((o.sigd y E S).c (.slice pa o.n pc)) (0, 0) _ hr.out Tryz.underlying41 rfl info_op ?_)
    | (go_at_call 41; (with_reducible refine (hCp.out E S _ hB.out).mono ?_); rintro e w8 ⟨qv, rfl, q1, q2⟩; replace hr := Lib.hid (rowB hr.out q2 (Array.getElem?_eq_some_iff.1 hr.out).1); replace hs := Lib.hid (rowB hs.out q2 (Array.getElem?_eq_some_iff.1 hs.out).1); replace hB := Lib.hid (hB.out.trans (Below.mono q2 hB.out.size)); have hq := Lib.hid q1; obtain ⟨qa, qc, hz⟩ := hq.out.rd.slice; subst hz; clear q1 q2)
    | (refine wpList_store_row rfl 41 _ _ rfl (w.heap.size + 1) ((o.sigd y E S).c (.slice qa o.n qc)) rfl rfl 41 _ hs.out info_op rfl (op_one (o.sigd y E S) _ _ _) ?_))
  exact bodyPost_ret (results_row_tmp rfl _ _ (w.heap.size + 1) 41 _ _ _ rfl (setRow_heap _ _ _ _ _ _ hs.out) Tryz.underlying41 rfl info_op) rfl ⟨_, rfl, (ownI_setRow hq.out hl7.out _).rd, below_setRow' hB.out (by omega) _⟩
end Go.Proofs.YtfaojjleapenaabGreatDoor.wir.val
namespace Go.Proofs.YtfaojjleapenaabGreatDoor.wir.val
open Go.RowKit Go.YtfaojjleapenaabGreatDoor
set_option linter.unusedVariables false
theorem okO_of (o : Od) (h1 : grp.inG o.au = true) (h2 : (decide ((o.st : Int) ≤ 1000000000000) && actB o.k o.key o.v) = true) (h3 : sigB (o.e : Int) (o.s : Int) = true) : okO o = true := by
  unfold okO
  rw [h1, h3, Bool.and_true, h2]; rfl
theorem gO_sig0 : sigB 0 0 = true := by decide +kernel
theorem sigB_nat (e s : Nat) (he : e < 500000003) (hs : s < 500000003) : sigB (e : Int) (s : Int) = true := by
  show (decide ((e : Int) < 500000003) && decide ((s : Int) < 500000003)) = true
  rw [← nat_int_lt, ← nat_int_lt, decide_eq_true he, decide_eq_true hs]; rfl
theorem ver_sigd (o : Od) (y e s : Nat) : verO (o.sigd y e s) = if chkO (o.sigd y e s) = 0 then (if rightB y (msgB (o.byA y)) s e then 0 else 22) else chkO (o.sigd y e s) := rfl
theorem ver_zero (o : Od) (y e s : Nat) (h1 : chkO (o.sigd y e s) = 0) (h2 : rightB y (msgB (o.byA y)) s e = true) : verO (o.sigd y e s) = 0 := by
  rw [ver_sigd, if_pos h1, h2]; exact if_pos rfl
theorem fit_sigd {o : Od} (h : o.Fit) (y e s : Nat) (hy : y < 4294967296) (he : e < 500000003) (hs : s < 500000003) : (o.sigd y e s).Fit := ⟨hy, h.F, h.n, h.st, h.k, h.key, h.v, Nat.lt_trans he (by decide), Nat.lt_trans hs (by decide)⟩
theorem msg_ok (o : Od) (fo : o.Fit) (pv : Value) (w : World) (hp : RdI w pv o.n o.F) (h0 : chkO o.bare = 0) (M : List Int) (hM : msgB o = M) :
    Calls Tryz.prog 18 #[.agg (o.c pv)] w fun e w' => ∃ sv, e = .returned (.tuple #[sv, .int .i64 0]) ∧ RdB w' sv M ∧ Below w.heap.size w w' :=
  (opMessage_any o fo pv w hp).mono (fun e w' hq => by
    have h1 := hq.1
    rw [if_pos h0] at h1
    obtain ⟨sv, h2, h3⟩ := h1
    rw [hM] at h3
    exact ⟨sv, h2, h3.rd, hq.2⟩)
end Go.Proofs.YtfaojjleapenaabGreatDoor.wir.val
namespace Go.Proofs.YtfaojjleapenaabGreatDoor.wir.val
open Go.RowKit Go.YtfaojjleapenaabGreatDoor
set_option linter.unusedVariables false
theorem chk_vals (o : Od) : chkO o = 0 ∨ chkO o = 4 ∨ chkO o = 32 ∨ chkO o = 8 := by
  unfold chkO
  split
  · exact .inr (.inl rfl)
  · split
    · split
      · exact .inl rfl
      · exact .inr (.inr (.inr rfl))
    · exact .inr (.inr (.inl rfl))
theorem chk_parts {o : Od} (h : chkO o = 0) : ¬ 4 < o.n ∧ riseF o.F o.n = true ∧ okO o = true := by
  unfold chkO at h
  by_cases h1 : 4 < o.n
  · rw [if_pos h1] at h; omega
  · rw [if_neg h1] at h
    by_cases h2 : riseF o.F o.n = true
    · rw [if_pos h2] at h
      by_cases h3 : okO o = true
      · exact ⟨h1, h2, h3⟩
      · rw [if_neg h3] at h; omega
    · rw [if_neg h2] at h; omega
theorem okO_parts {o : Od} (h : okO o = true) : grp.inG o.au = true ∧ (decide ((o.st : Int) ≤ 1000000000000) && actB o.k o.key o.v) = true ∧ sigB (o.e : Int) (o.s : Int) = true := by
  unfold okO at h
  rw [Bool.and_eq_true, Bool.and_eq_true, Bool.and_eq_true] at h
  exact ⟨h.1, by rw [Bool.and_eq_true]; exact ⟨h.2.1, h.2.2.1⟩, h.2.2.2⟩
theorem chk_bare {o : Od} (h : chkO o = 0) : chkO o.bare = 0 := by
  obtain ⟨h1, h2, h3⟩ := chk_parts h
  obtain ⟨k1, k2, _⟩ := okO_parts h3
  exact chk_ok (o := o.bare) h1 h2 (okO_of o.bare k1 k2 gO_sig0)
theorem chk_sigd {o : Od} {y e s : Nat} (h : chkO (o.byA y).bare = 0) (he : e < 500000003) (hs : s < 500000003) : chkO (o.sigd y e s) = 0 := by
  obtain ⟨h1, h2, h3⟩ := chk_parts h
  obtain ⟨k1, k2, _⟩ := okO_parts h3
  exact chk_ok (o := o.sigd y e s) h1 h2 (okO_of (o.sigd y e s) k1 k2 (sigB_nat e s he hs))
end Go.Proofs.YtfaojjleapenaabGreatDoor.wir.val
namespace Go.Proofs.YtfaojjleapenaabGreatDoor.wir.val
open Go.RowKit Go.YtfaojjleapenaabGreatDoor
set_option linter.unusedVariables false
theorem raw_fit {o : Od} (fr : o.Raw) (hg : greatB o = false) : o.Fit := by
  have hsz : o.n ≤ 20 ∧ o.key.size ≤ 100 ∧ o.v.s.size ≤ 100 := by
    unfold greatB at hg
    simp only [Bool.or_eq_false_iff, decide_eq_false_iff_not] at hg
    omega
  exact ⟨fr.au, fr.F, by omega, fr.st, fr.k, by omega, ⟨fr.vk, fr.vn, fr.vb, by omega⟩, fr.e, fr.s⟩
end Go.Proofs.YtfaojjleapenaabGreatDoor.wir.val
namespace Go.Proofs.YtfaojjleapenaabGreatDoor.wir.val
open Go.RowKit Go.YtfaojjleapenaabGreatDoor
set_option linter.unusedVariables false
theorem num_cut {a b : Nat} (ha : a < 18446744073709551616) (hb : b < 18446744073709551616) {x y : List Int} (h : numB a ++ x = numB b ++ y) : a = b ∧ x = y := by
  have h1 := readF_num a ha x
  have h2 := readF_num b hb y
  rw [h, h2] at h1
  have e : b = a := congrArg Prod.fst (Option.some.inj h1)
  subst e
  exact ⟨rfl, List.append_cancel_left h⟩
theorem sI_inj {s t : ByteArray} (h : sI s = sI t) : s = t := by
  obtain ⟨⟨s⟩⟩ := s
  obtain ⟨⟨t⟩⟩ := t
  have h' : s.map (fun c : UInt8 => (c.toNat : Int)) = t.map (fun c : UInt8 => (c.toNat : Int)) := h
  have : s = t := (List.map_inj_right (fun x y e => UInt8.toNat_inj.1 (Int.ofNat.inj e))).1 h'
  rw [this]
theorem text_cut {s t : ByteArray} (hs : s.size ≤ 1000) (ht : t.size ≤ 1000) {x y : List Int} (h : textB (sI s) ++ x = textB (sI t) ++ y) : s = t ∧ x = y := by
  unfold textB at h
  rw [List.append_assoc, List.append_assoc] at h
  obtain ⟨h1, h2⟩ := num_cut (by rw [sI_length]; omega) (by rw [sI_length]; omega) h
  obtain ⟨h3, h4⟩ := List.append_inj h2 h1
  exact ⟨sI_inj h3, h4⟩
theorem size_nil {s : ByteArray} (h : s.size = 0) : s = ⟨#[]⟩ := by
  cases s with | mk a => simp only [ByteArray.mk.injEq]; exact Array.eq_empty_of_size_eq_zero h
theorem enc_head {k n : Int} {b : Nat} {s : ByteArray} (h : 1 ≤ k ∧ k ≤ 3) : ∃ t, encB k n b s = k :: t := by
  unfold encB
  rcases (show k = 1 ∨ k = 2 ∨ k = 3 by omega) with rfl | rfl | rfl
  · exact ⟨_, if_pos rfl⟩
  · exact ⟨_, by rw [if_neg (by decide), if_pos rfl]⟩
  · exact ⟨_, by rw [if_neg (by decide), if_neg (by decide)]⟩
theorem enc_cut {v u : Va} (fv : v.fit) (fu : u.fit) (hv : v.ok = true) (hu : u.ok = true) (h : encB v.k v.n v.b v.s = encB u.k u.n u.b u.s) : v = u := by
  obtain ⟨k, n, b, s⟩ := v
  obtain ⟨k', n', b', s'⟩ := u
  have hk := valid_kind hv
  have hk' := valid_kind hu
  have fn := fv.n
  have fn' := fu.n
  have fb := fv.b
  have fb' := fu.b
  dsimp only at h hk hk' fn fn' fb fb'
  obtain ⟨t, e1⟩ := enc_head (n := n) (b := b) (s := s) hk
  obtain ⟨t', e2⟩ := enc_head (n := n') (b := b') (s := s') hk'
  have h0 := h
  rw [e1, e2] at h0
  obtain ⟨rfl, _⟩ := List.cons.inj h0
  clear h0 e1 e2
  unfold Va.ok validV at hv hu
  dsimp only at hv hu
  unfold encB at h
  rcases (show k = 1 ∨ k = 2 ∨ k = 3 by omega) with rfl | rfl | rfl
  · rw [if_pos rfl, Bool.and_eq_true, decide_eq_true_eq, decide_eq_true_eq] at hv hu
    rw [if_pos rfl, if_pos rfl] at h
    have h1 := numB_inj (fold_lt n fn) (fold_lt n' fn') (List.cons.inj h).2
    have h2 := congrArg unfoldN h1
    rw [unfold_fold, unfold_fold] at h2
    rw [h2, hv.1, hu.1, size_nil hv.2, size_nil hu.2]
  · rw [if_neg (by decide), if_pos rfl, Bool.and_eq_true, Bool.and_eq_true, decide_eq_true_eq, decide_eq_true_eq, decide_eq_true_eq] at hv hu
    rw [if_neg (by decide), if_pos rfl, if_neg (by decide), if_pos rfl] at h
    have h1 := (List.cons.inj h).2
    have h2 : b = b' := by
      rw [← valN_be_all 8 b (Nat.lt_of_lt_of_le fb (by decide)), ← valN_be_all 8 b' (Nat.lt_of_lt_of_le fb' (by decide)), h1]
    rw [h2, hv.1, hu.1, size_nil hv.2.2, size_nil hu.2.2]
  · rw [if_neg (by decide), if_neg (by decide), if_pos rfl, Bool.and_eq_true, Bool.and_eq_true, Bool.and_eq_true, decide_eq_true_eq, decide_eq_true_eq, decide_eq_true_eq] at hv hu
    rw [if_neg (by decide), if_neg (by decide), if_neg (by decide), if_neg (by decide)] at h
    have h1 := (List.cons.inj h).2
    obtain ⟨h2, _⟩ := text_cut (s := s) (t := s') (x := []) (y := []) (by omega) (by omega) (by rw [List.append_nil, List.append_nil]; exact h1)
    rw [h2, hv.1, hu.1, hv.2.1, hu.2.1]
theorem zeroV_eq {v : Va} (h : zeroV v = true) : v = ⟨0, 0, 0, ⟨#[]⟩⟩ := by
  unfold zeroV eqB at h
  simp only [Bool.and_eq_true, decide_eq_true_eq] at h
  obtain ⟨h1, h2, h3, h4⟩ := h
  obtain ⟨k, n, b, s⟩ := v
  simp only at h1 h2 h3 h4
  rw [h1, h2, h3, h4]
theorem keyB_size {s : ByteArray} (h : keyB s = true) : s.size ≤ 20 := by
  unfold keyB at h
  simp only [Bool.and_eq_true, decide_eq_true_eq] at h
  exact h.2.1
theorem msg_tells {o p : Od} (fo : o.Fit) (fp : p.Fit) (lo : o.F.length = 32 * o.n) (lp : p.F.length = 32 * p.n) (ao : actB o.k o.key o.v = true) (ap : actB p.k p.key p.v = true) (h : msgB o = msgB p) :
    o.au = p.au ∧ o.F = p.F ∧ o.st = p.st ∧ o.k = p.k ∧ o.key = p.key ∧ o.v = p.v := by
  unfold msgB at h
  simp only [List.append_assoc] at h
  have h := List.append_cancel_left h
  obtain ⟨h1, h⟩ := num_cut (Nat.lt_trans fo.au (by decide)) (Nat.lt_trans fp.au (by decide)) h
  obtain ⟨h2, h⟩ := num_cut (Nat.lt_of_le_of_lt fo.n (by decide)) (Nat.lt_of_le_of_lt fp.n (by decide)) h
  obtain ⟨h3, h⟩ := List.append_inj h (by rw [lo, lp, h2])
  obtain ⟨h4, h⟩ := num_cut fo.st fp.st h
  rw [List.singleton_append, List.singleton_append] at h
  obtain ⟨h5, h⟩ := List.cons.inj h
  refine ⟨h1, h3, h4, h5, ?_⟩
  clear h1 h2 h3 h4 lo lp
  rw [← h5] at ap h
  generalize o.k = k at *
  clear h5
  unfold actB at ao ap
  by_cases k1 : k = 1
  · rw [if_pos k1, Bool.and_eq_true, decide_eq_true_eq] at ao ap
    rw [zeroV_eq ao.2, zeroV_eq ap.2, size_nil ao.1, size_nil ap.1]
    exact ⟨rfl, rfl⟩
  · rw [if_neg k1] at ao ap
    rw [if_neg k1, if_neg k1] at h
    by_cases k2 : k = 2 ∨ k = 3
    · rw [if_pos k2, Bool.and_eq_true] at ao ap
      have k4 : ¬ k = 4 := by omega
      obtain ⟨e, _⟩ := text_cut (Nat.le_trans (keyB_size ao.1) (by decide)) (Nat.le_trans (keyB_size ap.1) (by decide)) h
      exact ⟨e, by rw [zeroV_eq ao.2, zeroV_eq ap.2]⟩
    · rw [if_neg k2] at ao ap
      by_cases k4 : k = 4
      · rw [if_pos k4, Bool.and_eq_true] at ao ap
        rw [if_pos k4, if_pos k4] at h
        obtain ⟨e, h⟩ := text_cut (Nat.le_trans (keyB_size ao.1) (by decide)) (Nat.le_trans (keyB_size ap.1) (by decide)) h
        exact ⟨e, enc_cut fo.v fp.v ao.2 ap.2 h⟩
      · rw [if_neg k4] at ao
        cases ao
/-- Are two operations the same, but for Sig? -/
def sameM (o p : Od) : Bool := decide (o.au = p.au) && (sameF o.F p.F && (decide (o.st = p.st) && (decide (o.k = p.k) && (decide (o.key = p.key) && eqB o.v.k o.v.n o.v.b o.v.s p.v.k p.v.n p.v.b p.v.s))))
theorem same_msg {o p : Od} (fo : o.Fit) (fp : p.Fit) (lo : o.F.length = 32 * o.n) (lp : p.F.length = 32 * p.n) (ho : chkO o = 0) (hp : chkO p = 0) : sameF (msgB o) (msgB p) = sameM o p := by
  rw [Bool.eq_iff_iff]
  unfold sameM sameF eqB
  simp only [Bool.and_eq_true, decide_eq_true_eq]
  constructor
  · intro h
    obtain ⟨h1, h2, h3, h4, h5, h6⟩ := msg_tells fo fp lo lp (chk_zero ho).2.2 (chk_zero hp).2.2 h
    rw [h6]
    exact ⟨h1, h2, h3, h4, h5, rfl, rfl, rfl, rfl⟩
  · rintro ⟨h1, h2, h3, h4, h5, h6, h7, h8, h9⟩
    unfold msgB
    rw [h1, h2, h3, h4, h5, h6, h7, h8, h9]
    have : o.n = p.n := by
      have := congrArg List.length h2
      rw [lo, lp] at this
      omega
    rw [this]
end Go.Proofs.YtfaojjleapenaabGreatDoor.wir.val
namespace Go.Proofs.YtfaojjleapenaabGreatDoor.wir.val
open Go.RowKit Go.YtfaojjleapenaabGreatDoor
set_option linter.unusedVariables false
end Go.Proofs.YtfaojjleapenaabGreatDoor.wir.val
namespace Go.Proofs.YtfaojjleapenaabGreatDoor.wir.val
open Go.RowKit Go.YtfaojjleapenaabGreatDoor
set_option linter.unusedVariables false
theorem msg_pos (o : Od) : 1 ≤ (msgB o).length := by
  unfold msgB
  simp only [List.length_append, List.length_singleton]
  omega
theorem rdB_cut {w : World} {a : Option Addr} {n c : Nat} {l : List Int} (h : RdB w (.slice a n c) l) (hn : l.length = n) (k : Nat) (hk : k ≤ n) : RdB w (.slice a k c) (l.take k) := by
  rcases h with ⟨a', c', e, h1, rfl⟩ | ⟨b, o, c', e, h1, h2, h3, h4⟩
  · cases e
    obtain rfl : k = 0 := by simp at hn; omega
    exact .inl ⟨_, _, rfl, h1, rfl⟩
  · cases e
    have hl : (l.take k).length = k := by rw [List.length_take]; omega
    refine .inr ⟨b, o, c, by rw [hl], by rw [hl]; omega, h2, h3, fun i hi => ?_⟩
    rw [hl] at hi
    rw [ith_take _ _ _ hi]
    exact h4 i (by omega)
end Go.Proofs.YtfaojjleapenaabGreatDoor.wir.val
namespace Go.Proofs.YtfaojjleapenaabGreatDoor.wir.val.top
open Go.RowKit Go.YtfaojjleapenaabGreatDoor
set_option linter.unusedVariables false
def sigE (o p : Od) : Bool := decide (o.e = p.e) && decide (o.s = p.s)
set_option maxRecDepth 100000 in
theorem eqlG (a b c d : Nat) (w : World) :
    (binOp .eql 39 (.agg #[.int .u32 (a : Int), .int .u32 (b : Int)]) (.agg #[.int .u32 (c : Int), .int .u32 (d : Int)])).run Tryz.prog w = .ok (.bool (decide (a = c) && decide (b = d))) w := by
  rw [run_eql_struct]
  have h0 : Tryz.prog.underlying 39 = some (.struct (Tryz.prog.fieldsOf 39)) := by kernel_rfl
  have h1 : Tryz.prog.stoodInHeld 39 = false := by kernel_rfl
  rw [run_equalIn_agg _ _ _ _ _ h0 h1]
  simp [go_sem]
  have hi : ((a : Int) = (c : Int)) ↔ a = c := by omega
  have hj : ((b : Int) = (d : Int)) ↔ b = d := by omega
  simp only [hi, hj]
  clear h0 h1 hi hj
  by_cases h1 : a = c <;> by_cases h2 : b = d <;> simp [h1, h2]
set_option maxHeartbeats 4000000 in
set_option maxRecDepth 100000 in
theorem sameO_gen (o p : Od) (hn : o.n ≤ 20) (pv qv : Value) (w : World) (hp : RdI w pv o.n o.F) (hq : RdI w qv p.n p.F) :
    Calls Tryz.prog 11 #[.agg (o.c pv), .agg (p.c qv)] w fun e w' => e = .returned (.bool (sameM o p && sigE o p)) ∧ Below w.heap.size w w' := by
  have hm : (sameM o p && sigE o p) = (decide (o.au = p.au) && (sameF o.F p.F && (decide (o.st = p.st) && ((decide (o.k = p.k) && (decide (o.key = p.key) && eqB o.v.k o.v.n o.v.b o.v.s p.v.k p.v.n p.v.b p.v.s)) && (decide (o.e = p.e) && decide (o.s = p.s)))))) := by unfold sameM sigE; simp only [Bool.and_assoc]
  generalize (sameM o p && sigE o p) = R at *
  obtain ⟨au', n', F', st', k', key', v', e', s'⟩ := p
  dsimp only at hq hm ⊢
  obtain ⟨pa, pc, rfl⟩ := hp.slice
  obtain ⟨qa, qc, rfl⟩ := hq.slice
  obtain ⟨W, hW⟩ : ∃ W, W = (w.alloc (.cells (o.c (.slice pa o.n pc)) 41)).alloc (.cells ((⟨au', n', F', st', k', key', v', e', s'⟩ : Od).c (.slice qa n' qc)) 41) := ⟨_, rfl⟩
  have hr0 : W.heap[w.heap.size]? = some (.cells (o.c (.slice pa o.n pc)) 41 (0, 0)) := by rw [hW]; exact rowB (heap_alloc_new w _) (below_a _ _) (by simp)
  have hr1 : W.heap[w.heap.size + 1]? = some (.cells ((⟨au', n', F', st', k', key', v', e', s'⟩ : Od).c (.slice qa n' qc)) 41 (0, 0)) := by rw [hW]; exact hn2 w _ _
  have hb0 : Below w.heap.size w W := by rw [hW]; exact ((Below.refl w.heap.size w).alloc (Nat.le_refl _) _).alloc (by simp) _
  have hb1 := Lib.hid hb0
  have hB := Lib.hid (Below.refl W.heap.size W)
  have hlt := Lib.hid (Array.getElem?_eq_some_iff.1 hr0).1
  have hlt1 := Lib.hid (Array.getElem?_eq_some_iff.1 hr1).1
  have hrows := Lib.hid (fun (wz : World) (h : Below W.heap.size W wz) => cellsO (rowB hr0 h hlt.out))
  have hress := Lib.hid (fun (wz : World) (h : Below W.heap.size W wz) => cellsO (rowB hr1 h hlt1.out))
  dsimp only at hress
  have hI := Lib.hid (sameIDs_any o.n n' o.F F' _ _ W (by omega) (hp.mono hb0) (hq.mono hb0))
  obtain ⟨c0, c1, c2, _, _, c9, c10⟩ := cellsO hr0
  obtain ⟨d0, d1, d2, _, _, d9, d10⟩ := cellsO hr1
  dsimp only at d0 d1 d2 d9 d10
  have hqA := Lib.hid (fun wz => eqlA o.k o.key o.v k' key' v' wz)
  have hqS := Lib.hid (fun wz => eqlG o.e o.s e' s' wz)
  clear hr0 hr1 hb0 hp hq hn
  obtain ⟨AB, hAB⟩ : ∃ AB, (decide (o.k = k') && (decide (o.key = key') && eqB o.v.k o.v.n o.v.b o.v.s v'.k v'.n v'.b v'.s)) = AB := ⟨_, rfl⟩
  obtain ⟨SB, hSB⟩ : ∃ SB, (decide (o.e = e') && decide (o.s = s')) = SB := ⟨_, rfl⟩
  rw [hAB, hSB] at hm
  rw [hAB] at hqA
  rw [hSB] at hqS
  clear hAB hSB
  by_cases h1 : o.au = au'
  · have k1 : ((o.au : Int) == (au' : Int)) = true := by rw [h1]; simp
    rw [decide_eq_true h1, Bool.true_and] at hm
    clear h1
    cases hF : sameF o.F F'
    · rw [hF] at hI hm
      have e := Lib.hid (hm.trans (Bool.false_and _))
      clear hm hF
      go_enter Tryz.func11, Tryz.ntmps11
      go_upto_region 1 with fail
      rw [← hW]
      clear hW
      go_wp2_with (first
        | (go_at_call 32; (with_reducible refine (hI.out).mono ?_); rintro e w3 ⟨rfl, h3⟩; replace hB := Lib.hid (h3.below hB.out); clear h3 c0 c1 c2 c9 c10 d0 d1 d2 d9 d10; obtain ⟨c0, c1, c2, _, _, c9, c10⟩ := hrows.out _ hB.out; obtain ⟨d0, d1, d2, _, _, d9, d10⟩ := hress.out _ hB.out)
        | (refine wpList_midV rfl 37 _ rfl w.heap.size 3 rfl [.int .u8 o.k, .string o.key, .int .u8 o.v.k, .int .i64 o.v.n, .int .u64 (o.v.b : Int), .string o.v.s] _ (hrows.out _ hB.out).2.2.2.1 Tryz.underlying37 rfl info_act ?_)
        | (refine wpList_midV rfl 37 _ rfl (w.heap.size + 1) 3 rfl [.int .u8 k', .string key', .int .u8 v'.k, .int .i64 v'.n, .int .u64 (v'.b : Int), .string v'.s] _ (hress.out _ hB.out).2.2.2.1 Tryz.underlying37 rfl info_act ?_)
        | (refine wpList_midV rfl 39 _ rfl w.heap.size 9 rfl [.int .u32 (o.e : Int), .int .u32 (o.s : Int)] _ (hrows.out _ hB.out).2.2.2.2.1 Tryz.underlying39 rfl info_sig ?_)
        | (refine wpList_midV rfl 39 _ rfl (w.heap.size + 1) 9 rfl [.int .u32 (e' : Int), .int .u32 (s' : Int)] _ (hress.out _ hB.out).2.2.2.2.1 Tryz.underlying39 rfl info_sig ?_)
        | (refine wpList_eqlS rfl 37 _ _ rfl (aC o.k o.key o.v) (aC k' key' v') rfl rfl (by kernel_rfl) AB (hqA.out _) ?_)
        | (refine wpList_eqlS rfl 39 _ _ rfl #[.int .u32 (o.e : Int), .int .u32 (o.s : Int)] #[.int .u32 (e' : Int), .int .u32 (s' : Int)] rfl rfl (by kernel_rfl) SB (hqS.out _) ?_))
      go_ret
      exact ⟨ret_bool (by first | exact e.out.symm | (rw [e.out]; simp)), hb1.out.trans (hB.out.mono hb1.out.size)⟩
    · rw [hF] at hI hm
      rw [Bool.true_and] at hm
      clear hF
      by_cases h2 : o.st = st'
      · have k2 : ((o.st : Int) == (st' : Int)) = true := by rw [h2]; simp
        rw [decide_eq_true h2, Bool.true_and] at hm
        clear h2
        cases AB
        · have e := Lib.hid (hm.trans (Bool.false_and _))
          clear hm
          go_enter Tryz.func11, Tryz.ntmps11
          go_upto_region 1 with fail
          rw [← hW]
          clear hW
          go_wp2_with (first
            | (go_at_call 32; (with_reducible refine (hI.out).mono ?_); rintro e w3 ⟨rfl, h3⟩; replace hB := Lib.hid (h3.below hB.out); clear h3 c0 c1 c2 c9 c10 d0 d1 d2 d9 d10; obtain ⟨c0, c1, c2, _, _, c9, c10⟩ := hrows.out _ hB.out; obtain ⟨d0, d1, d2, _, _, d9, d10⟩ := hress.out _ hB.out)
            | (refine wpList_midV rfl 37 _ rfl w.heap.size 3 rfl [.int .u8 o.k, .string o.key, .int .u8 o.v.k, .int .i64 o.v.n, .int .u64 (o.v.b : Int), .string o.v.s] _ (hrows.out _ hB.out).2.2.2.1 Tryz.underlying37 rfl info_act ?_)
            | (refine wpList_midV rfl 37 _ rfl (w.heap.size + 1) 3 rfl [.int .u8 k', .string key', .int .u8 v'.k, .int .i64 v'.n, .int .u64 (v'.b : Int), .string v'.s] _ (hress.out _ hB.out).2.2.2.1 Tryz.underlying37 rfl info_act ?_)
            | (refine wpList_midV rfl 39 _ rfl w.heap.size 9 rfl [.int .u32 (o.e : Int), .int .u32 (o.s : Int)] _ (hrows.out _ hB.out).2.2.2.2.1 Tryz.underlying39 rfl info_sig ?_)
            | (refine wpList_midV rfl 39 _ rfl (w.heap.size + 1) 9 rfl [.int .u32 (e' : Int), .int .u32 (s' : Int)] _ (hress.out _ hB.out).2.2.2.2.1 Tryz.underlying39 rfl info_sig ?_)
            | (refine wpList_eqlS rfl 37 _ _ rfl (aC o.k o.key o.v) (aC k' key' v') rfl rfl (by kernel_rfl) false (hqA.out _) ?_)
            | (refine wpList_eqlS rfl 39 _ _ rfl #[.int .u32 (o.e : Int), .int .u32 (o.s : Int)] #[.int .u32 (e' : Int), .int .u32 (s' : Int)] rfl rfl (by kernel_rfl) SB (hqS.out _) ?_))
          go_ret
          exact ⟨ret_bool (by first | exact e.out.symm | (rw [e.out]; simp)), hb1.out.trans (hB.out.mono hb1.out.size)⟩
        · have e := Lib.hid (hm.trans (Bool.true_and _))
          clear hm
          go_enter Tryz.func11, Tryz.ntmps11
          go_upto_region 1 with fail
          rw [← hW]
          clear hW
          go_wp2_with (first
            | (go_at_call 32; (with_reducible refine (hI.out).mono ?_); rintro e w3 ⟨rfl, h3⟩; replace hB := Lib.hid (h3.below hB.out); clear h3 c0 c1 c2 c9 c10 d0 d1 d2 d9 d10; obtain ⟨c0, c1, c2, _, _, c9, c10⟩ := hrows.out _ hB.out; obtain ⟨d0, d1, d2, _, _, d9, d10⟩ := hress.out _ hB.out)
            | (refine wpList_midV rfl 37 _ rfl w.heap.size 3 rfl [.int .u8 o.k, .string o.key, .int .u8 o.v.k, .int .i64 o.v.n, .int .u64 (o.v.b : Int), .string o.v.s] _ (hrows.out _ hB.out).2.2.2.1 Tryz.underlying37 rfl info_act ?_)
            | (refine wpList_midV rfl 37 _ rfl (w.heap.size + 1) 3 rfl [.int .u8 k', .string key', .int .u8 v'.k, .int .i64 v'.n, .int .u64 (v'.b : Int), .string v'.s] _ (hress.out _ hB.out).2.2.2.1 Tryz.underlying37 rfl info_act ?_)
            | (refine wpList_midV rfl 39 _ rfl w.heap.size 9 rfl [.int .u32 (o.e : Int), .int .u32 (o.s : Int)] _ (hrows.out _ hB.out).2.2.2.2.1 Tryz.underlying39 rfl info_sig ?_)
            | (refine wpList_midV rfl 39 _ rfl (w.heap.size + 1) 9 rfl [.int .u32 (e' : Int), .int .u32 (s' : Int)] _ (hress.out _ hB.out).2.2.2.2.1 Tryz.underlying39 rfl info_sig ?_)
            | (refine wpList_eqlS rfl 37 _ _ rfl (aC o.k o.key o.v) (aC k' key' v') rfl rfl (by kernel_rfl) true (hqA.out _) ?_)
            | (refine wpList_eqlS rfl 39 _ _ rfl #[.int .u32 (o.e : Int), .int .u32 (o.s : Int)] #[.int .u32 (e' : Int), .int .u32 (s' : Int)] rfl rfl (by kernel_rfl) SB (hqS.out _) ?_))
          go_ret
          exact ⟨ret_bool (by first | exact e.out.symm | (rw [e.out]; simp)), hb1.out.trans (hB.out.mono hb1.out.size)⟩
      · have k2 : ((o.st : Int) == (st' : Int)) = false := by simp only [beq_eq_false_iff_ne, ne_eq]; omega
        rw [decide_eq_false h2, Bool.false_and] at hm
        have e := Lib.hid hm
        clear hm h2
        go_enter Tryz.func11, Tryz.ntmps11
        go_upto_region 1 with fail
        rw [← hW]
        clear hW
        go_wp2_with (first
          | (go_at_call 32; (with_reducible refine (hI.out).mono ?_); rintro e w3 ⟨rfl, h3⟩; replace hB := Lib.hid (h3.below hB.out); clear h3 c0 c1 c2 c9 c10 d0 d1 d2 d9 d10; obtain ⟨c0, c1, c2, _, _, c9, c10⟩ := hrows.out _ hB.out; obtain ⟨d0, d1, d2, _, _, d9, d10⟩ := hress.out _ hB.out)
          | (refine wpList_midV rfl 37 _ rfl w.heap.size 3 rfl [.int .u8 o.k, .string o.key, .int .u8 o.v.k, .int .i64 o.v.n, .int .u64 (o.v.b : Int), .string o.v.s] _ (hrows.out _ hB.out).2.2.2.1 Tryz.underlying37 rfl info_act ?_)
          | (refine wpList_midV rfl 37 _ rfl (w.heap.size + 1) 3 rfl [.int .u8 k', .string key', .int .u8 v'.k, .int .i64 v'.n, .int .u64 (v'.b : Int), .string v'.s] _ (hress.out _ hB.out).2.2.2.1 Tryz.underlying37 rfl info_act ?_)
          | (refine wpList_midV rfl 39 _ rfl w.heap.size 9 rfl [.int .u32 (o.e : Int), .int .u32 (o.s : Int)] _ (hrows.out _ hB.out).2.2.2.2.1 Tryz.underlying39 rfl info_sig ?_)
          | (refine wpList_midV rfl 39 _ rfl (w.heap.size + 1) 9 rfl [.int .u32 (e' : Int), .int .u32 (s' : Int)] _ (hress.out _ hB.out).2.2.2.2.1 Tryz.underlying39 rfl info_sig ?_)
          | (refine wpList_eqlS rfl 37 _ _ rfl (aC o.k o.key o.v) (aC k' key' v') rfl rfl (by kernel_rfl) AB (hqA.out _) ?_)
          | (refine wpList_eqlS rfl 39 _ _ rfl #[.int .u32 (o.e : Int), .int .u32 (o.s : Int)] #[.int .u32 (e' : Int), .int .u32 (s' : Int)] rfl rfl (by kernel_rfl) SB (hqS.out _) ?_))
        go_ret
        exact ⟨ret_bool (by first | exact e.out.symm | (rw [e.out]; simp)), hb1.out.trans (hB.out.mono hb1.out.size)⟩
  · have k1 : ((o.au : Int) == (au' : Int)) = false := by simp only [beq_eq_false_iff_ne, ne_eq]; omega
    rw [decide_eq_false h1, Bool.false_and] at hm
    have e := Lib.hid hm
    clear hm h1
    go_enter Tryz.func11, Tryz.ntmps11
    go_upto_region 1 with fail
    rw [← hW]
    clear hW
    go_wp2_with (first
      | (go_at_call 32; (with_reducible refine (hI.out).mono ?_); rintro e w3 ⟨rfl, h3⟩; replace hB := Lib.hid (h3.below hB.out); clear h3 c0 c1 c2 c9 c10 d0 d1 d2 d9 d10; obtain ⟨c0, c1, c2, _, _, c9, c10⟩ := hrows.out _ hB.out; obtain ⟨d0, d1, d2, _, _, d9, d10⟩ := hress.out _ hB.out)
      | (refine wpList_midV rfl 37 _ rfl w.heap.size 3 rfl [.int .u8 o.k, .string o.key, .int .u8 o.v.k, .int .i64 o.v.n, .int .u64 (o.v.b : Int), .string o.v.s] _ (hrows.out _ hB.out).2.2.2.1 Tryz.underlying37 rfl info_act ?_)
      | (refine wpList_midV rfl 37 _ rfl (w.heap.size + 1) 3 rfl [.int .u8 k', .string key', .int .u8 v'.k, .int .i64 v'.n, .int .u64 (v'.b : Int), .string v'.s] _ (hress.out _ hB.out).2.2.2.1 Tryz.underlying37 rfl info_act ?_)
      | (refine wpList_midV rfl 39 _ rfl w.heap.size 9 rfl [.int .u32 (o.e : Int), .int .u32 (o.s : Int)] _ (hrows.out _ hB.out).2.2.2.2.1 Tryz.underlying39 rfl info_sig ?_)
      | (refine wpList_midV rfl 39 _ rfl (w.heap.size + 1) 9 rfl [.int .u32 (e' : Int), .int .u32 (s' : Int)] _ (hress.out _ hB.out).2.2.2.2.1 Tryz.underlying39 rfl info_sig ?_)
      | (refine wpList_eqlS rfl 37 _ _ rfl (aC o.k o.key o.v) (aC k' key' v') rfl rfl (by kernel_rfl) AB (hqA.out _) ?_)
      | (refine wpList_eqlS rfl 39 _ _ rfl #[.int .u32 (o.e : Int), .int .u32 (o.s : Int)] #[.int .u32 (e' : Int), .int .u32 (s' : Int)] rfl rfl (by kernel_rfl) SB (hqS.out _) ?_))
    go_ret
    exact ⟨ret_bool (by first | exact e.out.symm | (rw [e.out]; simp)), hb1.out.trans (hB.out.mono hb1.out.size)⟩
end Go.Proofs.YtfaojjleapenaabGreatDoor.wir.val.top
namespace Go.Proofs.YtfaojjleapenaabGreatDoor.wir.val
open Go.RowKit Go.YtfaojjleapenaabGreatDoor
set_option linter.unusedVariables false
def toS (l : List Int) : ByteArray := l.foldl (fun r n => r.push (UInt8.ofNat n.toNat)) ByteArray.empty
theorem toS_data : ∀ (l : List Int) (s : ByteArray), (l.foldl (fun r n => r.push (UInt8.ofNat n.toNat)) s).data.toList = s.data.toList ++ l.map fun n => UInt8.ofNat n.toNat
  | [], s => by simp
  | x :: l, s => by
    rw [List.foldl_cons, toS_data l]
    simp [ByteArray.push]
theorem toS_list (l : List Int) : (toS l).data.toList = l.map fun n => UInt8.ofNat n.toNat := by
  unfold toS
  rw [toS_data]
  rfl
theorem sI_toS (l : List Int) (hl : Bytes l) : sI (toS l) = l := by
  unfold sI
  rw [toS_list, List.map_map]
  induction l with
  | nil => rfl
  | cons x l ih =>
    obtain ⟨h1, h2⟩ := bytes_cons hl
    rw [List.map_cons, ih h2]
    congr 1
    show ((UInt8.ofNat x.toNat).toNat : Int) = x
    rw [UInt8.toNat_ofNat']
    omega
theorem toS_sI (s : ByteArray) : toS (sI s) = s := by
  have h : (toS (sI s)).data.toList = s.data.toList := by
    rw [toS_list]
    unfold sI
    rw [List.map_map]
    have e : ((fun n : Int => UInt8.ofNat n.toNat) ∘ fun c : UInt8 => (c.toNat : Int)) = id := by
      funext c
      show UInt8.ofNat ((c.toNat : Int)).toNat = c
      rw [Int.toNat_natCast, UInt8.ofNat_toNat]
    rw [e, List.map_id]
  cases hs : s with | mk d => cases ht : toS (sI s) with | mk d' =>
    rw [ht, hs] at h
    rw [hs] at ht
    rw [ht]
    simp only [ByteArray.mk.injEq]
    exact Array.ext' h
theorem toS_size (l : List Int) : (toS l).size = l.length := by
  have h := congrArg List.length (toS_list l)
  rw [List.length_map] at h
  exact h
theorem run_toS {P : Program} {w : World} {v : Value} {l : List Int} (h : RdB w v l) (src dst e : TypeId)
    (hs : P.underlying src = some (.slice e)) (he : P.underlying e = some (.int .u8)) (hd : P.underlying dst = some .string) : (convert src dst v).run P w = .ok (.string (toS l)) w := by
  obtain ⟨a, c, rfl⟩ := h.slice
  rw [run_convert_bytes_string w src dst e a l.length c hs he hd]
  rcases h with ⟨sa, sc, hsv, hsn, rfl⟩ | ⟨b, o, c', hv, h1, h2, h3, h4⟩
  · cases a with
    | none => rfl
    | some a =>
      have := run_bytesToString (P := P) w a 0 c [] (by rfl)
      simpa [toS] using this
  · cases hv
    have hL := run_loadCells_list (P := P) w ⟨b, o, none⟩ (u8v l) (fun j v hv => by
      have hj : j < l.length := by
        have := (List.getElem?_eq_some_iff.1 hv).1
        rwa [u8v_length] at this
      rw [addr_add]
      have := h4 j hj
      rw [this, ← hv, u8v_get _ _ hj])
    rw [u8v_length] at hL
    exact run_bytesToString w _ _ _ l hL
def decP (k : Int) (l : List Int) : Option (Va × Nat) :=
  if k = 1 then (match readF l with | none => none | some p => some (⟨1, unfoldN p.1, 0, ⟨#[]⟩⟩, p.2))
  else if k = 2 then (if l.length < 8 then none else if canF (valN l 8) = valN l 8 then some (⟨2, 0, valN l 8, ⟨#[]⟩⟩, 8) else none)
  else if k = 3 then (match readC l 30 1 with | none => none | some p => if txtE (toS ((l.drop p.2).take p.1)) = 0 then some (⟨3, 0, 0, toS ((l.drop p.2).take p.1)⟩, p.2 + p.1) else none)
  else none
def decF (l : List Int) : Option (Va × Nat) :=
  if l.length = 0 then none else match decP (ith l 0) (l.drop 1) with | none => none | some p => some (p.1, 1 + p.2)
theorem nil_of_size {s : ByteArray} (h : s.size = 0) : s = ⟨#[]⟩ := by
  cases s with | mk a => simp only [ByteArray.mk.injEq]; exact Array.eq_empty_of_size_eq_zero h
theorem decP_some {k : Int} {l : List Int} (hl : Bytes l) {v : Va} {u : Nat} (h : decP k l = some (v, u)) :
    v.fit ∧ v.ok = true ∧ u ≤ l.length ∧ encB v.k v.n v.b v.s = k :: l.take u := by
  unfold decP at h
  split at h
  · rename_i hk; subst hk
    split at h
    · cases h
    · rename_i p hp
      cases h
      obtain ⟨n, u⟩ := p
      obtain ⟨h1, h2, h3, h4⟩ := readF_some hl hp
      refine ⟨(show VFit 1 (unfoldN n) 0 ⟨#[]⟩ from ⟨by decide, unfold_in n h1, by decide, by decide⟩), ?_, h3, ?_⟩
      · exact (by unfold validV; rw [if_pos rfl]; rfl : validV 1 (unfoldN n) 0 ⟨#[]⟩ = true)
      · show encB 1 (unfoldN n) 0 ⟨#[]⟩ = 1 :: l.take u
        unfold encB
        rw [if_pos rfl, fold_unfold, h4]
  split at h
  · rename_i hk; subst hk
    split at h
    · cases h
    · rename_i h8
      split at h
      · rename_i hc
        cases h
        have hb := valN_lt64 l hl 8 (by decide)
        refine ⟨(show VFit 2 0 (valN l 8) ⟨#[]⟩ from ⟨by decide, by decide, hb, by decide⟩), ?_, by omega, ?_⟩
        · show validV 2 0 (valN l 8) ⟨#[]⟩ = true
          unfold validV
          rw [if_neg (by decide), if_pos rfl, hc]
          simp; rfl
        · show encB 2 0 (valN l 8) ⟨#[]⟩ = 2 :: l.take 8
          unfold encB
          rw [if_neg (by decide), if_pos rfl]
          congr 1
          have hb8 : Bytes (l.take 8) := by
            intro i
            rcases Nat.lt_or_ge i 8 with hi | hi
            · rw [ith_take _ _ _ hi]; exact hl i
            · rw [ith_over _ _ (by rw [List.length_take]; omega)]; decide
          have e : valN l 8 = valN (l.take 8) 8 := valN_congr _ _ _ (fun i hi => (ith_take _ _ _ hi).symm)
          rw [e]
          exact be_valN _ hb8 8 (by rw [List.length_take]; omega)
      · cases h
  split at h
  · rename_i hk; subst hk
    split at h
    · cases h
    · rename_i p hp
      obtain ⟨n, u1⟩ := p
      simp only at h
      split at h
      · rename_i ht
        cases h
        obtain ⟨g1, g2, g3⟩ := readC_some hp
        obtain ⟨h1, h2, h3, h4⟩ := readF_some hl g1
        have hlen : ((l.drop u1).take n).length = n := by rw [List.length_take, List.length_drop]; omega
        have hbR : Bytes ((l.drop u1).take n) := by
          intro i
          rcases Nat.lt_or_ge i n with hi | hi
          · rw [ith_take _ _ _ hi, ith_drop]; exact hl _
          · rw [ith_over _ _ (by rw [hlen]; omega)]; decide
        have hsz := toS_size ((l.drop u1).take n)
        have hsI := sI_toS _ hbR
        have htk : l.take (u1 + n) = l.take u1 ++ (l.drop u1).take n := by rw [List.take_add]
        generalize (l.drop u1).take n = R at *
        refine ⟨(show VFit 3 0 0 (toS R) from ⟨by decide, by decide, by decide, by rw [hsz, hlen]; omega⟩), ?_, by omega, ?_⟩
        · show validV 3 0 0 (toS R) = true
          unfold txtE at ht
          split at ht
          · cases ht
          · split at ht
            · rename_i q1 q2
              unfold validV
              rw [if_neg (by decide), if_neg (by decide), if_pos rfl, q2]
              simp; omega
            · cases ht
        · show encB 3 0 0 (toS R) = 3 :: l.take (u1 + n)
          unfold encB textB
          rw [if_neg (by decide), if_neg (by decide), hsI, hlen, htk, h4]
      · cases h
  · cases h
theorem decF_some {l : List Int} (hl : Bytes l) {v : Va} {u : Nat} (h : decF l = some (v, u)) :
    v.fit ∧ v.ok = true ∧ 1 ≤ u ∧ u ≤ l.length ∧ encB v.k v.n v.b v.s = l.take u := by
  unfold decF at h
  split at h
  · cases h
  · rename_i h0
    split at h
    · cases h
    · rename_i p hp
      obtain ⟨v', u'⟩ := p
      cases h
      obtain ⟨h1, h2, h3, h4⟩ := decP_some (bytes_drop _ _ hl) hp
      rw [List.length_drop] at h3
      refine ⟨h1, h2, by omega, by omega, ?_⟩
      rw [h4]
      cases l with
      | nil => simp at h0
      | cons x l => rw [ith_cons_zero, List.drop_one, List.tail_cons, Nat.add_comm, List.take_succ_cons]
theorem decF_enc (k n : Int) (b : Nat) (s : ByteArray) (fv : VFit k n b s) (hv : validV k n b s = true) (t : List Int) : decF (encB k n b s ++ t) = some (⟨k, n, b, s⟩, (encB k n b s).length) := by
  have hk := valid_kind hv
  rcases (show k = 1 ∨ k = 2 ∨ k = 3 by omega) with rfl | rfl | rfl
  · unfold validV at hv
    rw [if_pos rfl] at hv
    simp only [Bool.and_eq_true, decide_eq_true_eq] at hv
    obtain ⟨rfl, hs⟩ := hv
    have hs := nil_of_size hs
    subst hs
    have e : encB 1 n 0 ⟨#[]⟩ = 1 :: numB (foldN n) := rfl
    rw [e, List.cons_append]
    unfold decF
    rw [if_neg (by simp), ith_cons_zero, List.drop_one, List.tail_cons]
    unfold decP
    rw [if_pos rfl, readF_num _ (fold_lt n fv.n)]
    simp only [unfold_fold, List.length_cons, numB_length, Nat.add_comm]
  · unfold validV at hv
    rw [if_neg (by decide), if_pos rfl] at hv
    simp only [Bool.and_eq_true, decide_eq_true_eq] at hv
    obtain ⟨rfl, hc, hs⟩ := hv
    have hs := nil_of_size hs
    subst hs
    have e : encB 2 0 b ⟨#[]⟩ = 2 :: be 8 b := rfl
    rw [e, List.cons_append]
    unfold decF
    rw [if_neg (by simp), ith_cons_zero, List.drop_one, List.tail_cons]
    unfold decP
    have hval : valN (be 8 b ++ t) 8 = b := by
      rw [valN_congr _ (be 8 b) _ (fun i hi => by rw [ith_append, if_pos (by rw [be_length]; exact hi)])]
      exact valN_be_all 8 b (by have := fv.b; omega)
    rw [if_neg (by decide), if_pos rfl, if_neg (by rw [List.length_append, be_length]; omega), hval, if_pos hc]
    simp [be_length]
  · unfold validV at hv
    rw [if_neg (by decide), if_neg (by decide), if_pos rfl] at hv
    simp only [Bool.and_eq_true, decide_eq_true_eq] at hv
    obtain ⟨rfl, rfl, hs, ho⟩ := hv
    have e : encB 3 0 0 s = 3 :: (numB s.size ++ sI s) := by
      show 3 :: textB (sI s) = _
      unfold textB; rw [sI_length]
    rw [e, List.cons_append]
    unfold decF
    rw [if_neg (by simp), ith_cons_zero, List.drop_one, List.tail_cons]
    unfold decP
    have hC : readC (numB s.size ++ sI s ++ t) 30 1 = some (s.size, numL s.size) := by
      unfold readC
      rw [List.append_assoc, readF_num _ (by omega)]
      simp only
      rw [if_pos]
      refine ⟨by omega, ?_⟩
      rw [Nat.div_one, List.length_append, List.length_append, numB_length, sI_length]; omega
    have hd : ((numB s.size ++ sI s ++ t).drop (numL s.size)).take s.size = sI s := by
      rw [List.append_assoc, List.drop_append_of_le_length (by rw [numB_length]; omega), List.drop_of_length_le (by rw [numB_length]; omega), List.nil_append]
      rw [List.take_append_of_le_length (by rw [sI_length]; omega), List.take_of_length_le (by rw [sI_length]; omega)]
    rw [if_neg (by decide), if_neg (by decide), if_pos rfl, hC]
    simp only [hd, toS_sI]
    have hE : txtE s = 0 := by unfold txtE; rw [if_neg (by omega), if_pos ho]
    rw [if_pos hE]
    simp only [List.length_cons, List.length_append, numB_length, sI_length, Nat.add_comm]
end Go.Proofs.YtfaojjleapenaabGreatDoor.wir.val
namespace Go.Proofs.YtfaojjleapenaabGreatDoor.wir.val
open Go.RowKit Go.YtfaojjleapenaabGreatDoor
set_option linter.unusedVariables false
theorem results_row_tmp2 {P : Program} {fn : Func} {p u v : Tmp} {ty : TypeId} (h : fn.results = #[.cell p ty, .tmp u, .tmp v]) (tmps : Array Value) (w : World) (g : Nat) (t : TypeId) (cs : Array Value) (fr : Nat × Nat) (d : TypeDesc)
    (hp : tmps.getD p undef = .pointer (some ⟨g, 0, none⟩)) (hg : w.heap[g]? = some (.cells cs t fr))
    (hu : P.underlying ty = some d) (hd : (match d with | .struct _ | .array _ _ => true | _ => false) = true) (hi : (P.info? ty).map (·.size) = some cs.size) :
    (results fn tmps).run P w = .ok (.tuple #[.agg cs, tmps.getD u undef, tmps.getD v undef]) w := by
  have hc : (results fn tmps).run P w =
      ((asAddr (tmps.getD p undef)).run P w).andThen fun a w₁ => ((loadVar ty a).run P w₁).andThen fun x w₂ => .ok (.tuple #[x, tmps.getD u undef, tmps.getD v undef]) w₂ := by
    simp only [results, h]
    simp [Sem.run_bind, Result.andThen]
  rw [hc, hp]
  have hl := run_loadVar_row (P := P) w g t ty cs fr d hg hu hd hi
  simp [asAddr, hl]
def fltR (l : List Int) : Value := if l.length < 8 then .tuple #[vA 0 0 0 ⟨#[]⟩, .int .i64 0, .int .i64 12] else if canF (valN l 8) = valN l 8 then .tuple #[vA 2 0 (valN l 8) ⟨#[]⟩, .int .i64 8, .int .i64 0] else .tuple #[vA 0 0 0 ⟨#[]⟩, .int .i64 0, .int .i64 12]
set_option maxHeartbeats 1000000 in
set_option maxRecDepth 100000 in
theorem decFloat_any (l : List Int) (bv : Value) (w : World) (hr : RdB w bv l) (hl : Bytes l) :
    Calls Tryz.prog 106 #[bv] w fun e w' => e = .returned (fltR l) ∧ Below w.heap.size w w' := by
  by_cases h8 : l.length < 8
  · have e : fltR l = .tuple #[vA 0 0 0 ⟨#[]⟩, .int .i64 0, .int .i64 12] := by unfold fltR; rw [if_pos h8]
    rw [e]
    obtain ⟨a, c, rfl⟩ := hr.slice
    clear hr hl e
    generalize l.length = N at *
    go_enter Tryz.func106, Tryz.ntmps106
    go_wp2
    exact bodyPost_ret (results_row_tmp2 rfl _ _ w.heap.size 35 _ _ _ rfl (heap_alloc_new w _) Tryz.underlying35 rfl info_val) rfl ⟨rfl, below_a _ _⟩
  have hw0 := Lib.hid (below_a w (.cells (vC 0 0 0 ⟨#[]⟩) 35))
  have hrow := Lib.hid (heap_alloc_new w (.cells (vC 0 0 0 ⟨#[]⟩) 35))
  have hr1 := hr.mono hw0.out
  rcases hr with ⟨a, c, rfl, _, rfl⟩ | ⟨b, o, c, rfl, h1, h2, h3, h4⟩
  · simp at h8
  rcases hr1 with ⟨_, _, _, _, rfl⟩ | ⟨b', o', c', e', g1, g2, g3, g4⟩
  · simp at h8
  cases e'
  unfold maxLen at h2
  have hcells := Lib.hid (fun j (hj : j < 8) => g4 j (by omega))
  have hbyte := Lib.hid (fun j => hl j)
  have hval := Lib.hid (fun j (hj : j ≤ 7) => (show 0 ≤ (valN l j : Int) ∧ (valN l j : Int) < 72057594037927936 from by
    have h1 := valN_lt l hl j
    have h2 : (256 : Nat) ^ j ≤ 72057594037927936 := (show (256 : Nat) ^ j ≤ 256 ^ 7 from Nat.pow_le_pow_right (by decide) hj)
    omega))
  have hstep := Lib.hid (fun j => (show (valN l (j + 1) : Int) = (valN l j : Int) * 256 + ith l j from by
    have := hl j
    rw [valN]; omega))
  have hN8 : 8 ≤ l.length := by omega
  have hc8 : 8 ≤ c := by omega
  have hcan := Lib.hid (fun w => canon_any (valN l 8) (valN_lt64 l hl 8 (by decide)) w)
  have hflt := Lib.hid (fun w => float_val (valN l 8) (valN_lt64 l hl 8 (by decide)) w)
  have eF : fltR l = if canF (valN l 8) = valN l 8 then .tuple #[vA 2 0 (valN l 8) ⟨#[]⟩, .int .i64 8, .int .i64 0] else .tuple #[vA 0 0 0 ⟨#[]⟩, .int .i64 0, .int .i64 12] := by unfold fltR; rw [if_neg h8]
  obtain ⟨R, hR⟩ : ∃ R, R = fltR l := ⟨_, rfl⟩
  rw [← hR]
  rw [eF] at hR
  have hR' := Lib.hid hR
  clear hR
  generalize l.length = N at *
  clear h4 g4 eF h8 hl g1 g2 g3 h1 h3
  go_enter Tryz.func106, Tryz.ntmps106
  go_wp2
  generalize w.alloc (.cells (vC 0 0 0 ⟨#[]⟩) 35) = W at *
  go_loopw [5, 15] (fun x i wr => ∃ j : Nat, j ≤ 8 ∧ i = .int .i64 j ∧ x = .int .u64 (valN l j : Nat) ∧ W = wr) (fun _ i _ => 8 - (intOf i).toNat)
  case atStart => exact ⟨0, Nat.zero_le _, rfl, rfl, rfl⟩
  case round =>
    obtain ⟨j, hj, rfl, rfl, rfl⟩ := hrel
    by_cases hlt : j < 8
    · have hck := hcells.out j hlt
      have hb := hbyte.out j
      have hx := hval.out j (by omega)
      have hor := Lib.hid (or_byte _ _ hx hb)
      have hnx := hstep.out j
      generalize hY : valN l (j + 1) = y at hnx
      generalize hX : valN l j = x at *
      generalize ith l j = z at *
      have hnx' := Lib.hid hnx; have hY' := Lib.hid hY
      clear hnx hY hX
      go_wp2
      refine ⟨⟨j + 1, by omega, rfl, ?_, ?_⟩, ?_⟩
      · rw [hor.out, ← hnx'.out, hY'.out]
      · trivial
      · show 8 - ((j : Int) + 1).toNat < 8 - (j : Int).toNat
        omega
    · obtain rfl : j = 8 := by omega
      generalize valN l 8 = Z at *
      clear hcells hbyte hval hstep
      rw [show (((8 : Nat)) : Int) = 8 from rfl]
      by_cases hc : canF Z = Z
      · rw [hc] at hcan hflt
        have hR := hR'.out
        rw [if_pos hc] at hR
        have hR2 := Lib.hid hR
        clear hc hR
        go_wp2_with (first | (go_at_call 121; (with_reducible refine (hcan.out _).mono ?_); rintro e w' ⟨rfl, rfl⟩) | (go_at_call 117; (with_reducible refine (hflt.out _).mono ?_); rintro e w1 ⟨rfl, h9⟩; have hr1 := Lib.hid (rowB hrow.out h9 (Array.getElem?_eq_some_iff.1 hrow.out).1); have hw1 := Lib.hid (hw0.out.trans (h9.mono hw0.out.size)); clear h9) | (refine storeOver w1 w.heap.size _ rfl 35 _ _ rfl (vC 2 0 Z ⟨#[]⟩) 35 hr1.out rfl rfl info_val rfl (val_one _ _ _ _) ?_; intro w2 hr2 hb2; have hr2' := Lib.hid hr2; have hb2' := Lib.hid hb2; clear hr2 hb2))
        exact bodyPost_ret (results_row_tmp2 rfl _ _ w.heap.size 35 _ _ _ rfl hr2'.out Tryz.underlying35 rfl info_val) rfl ⟨by rw [hR2.out]; rfl, hw1.out.trans hb2'.out⟩
      · have hR := hR'.out
        rw [if_neg hc] at hR
        have hR2 := Lib.hid hR
        clear hR
        have hne : ((Z : Int) != (canF Z : Int)) = true := by simp; omega
        generalize canF Z = Y at *
        clear hc
        go_wp2_with (first | (go_at_call 121; (with_reducible refine (hcan.out _).mono ?_); rintro e w' ⟨rfl, rfl⟩) | (refine storeOver W w.heap.size _ rfl 35 _ _ rfl (vC 0 0 0 ⟨#[]⟩) 35 hrow.out rfl rfl info_val rfl (val_one _ _ _ _) ?_; intro w2 hr2 hb2; have hr2' := Lib.hid hr2; have hb2' := Lib.hid hb2; clear hr2 hb2))
        exact bodyPost_ret (results_row_tmp2 rfl _ _ w.heap.size 35 _ _ _ rfl hr2'.out Tryz.underlying35 rfl info_val) rfl ⟨by rw [hR2.out]; rfl, hw0.out.trans hb2'.out⟩
def PartR (k : Int) (l : List Int) (r : Value) : Prop :=
  match decP k l with
  | some p => r = .tuple #[p.1.v, .int .i64 (p.2 : Nat), .int .i64 0]
  | none => ∃ (a n : Int) (b : Nat) (s : ByteArray) (u x : Int), x ≠ 0 ∧ r = .tuple #[vA a n b s, .int .i64 u, .int .i64 x]
theorem partR_some {k : Int} {l : List Int} {r : Value} {v : Va} {u : Nat} (h : decP k l = some (v, u)) (hr : r = .tuple #[v.v, .int .i64 (u : Nat), .int .i64 0]) : PartR k l r := by
  unfold PartR; rw [h]; exact hr
theorem partR_none {k : Int} {l : List Int} {r : Value} (h : decP k l = none) {a n : Int} {b : Nat} {s : ByteArray} {u x : Int} (hx : x ≠ 0) (hr : r = .tuple #[vA a n b s, .int .i64 u, .int .i64 x]) : PartR k l r := by
  unfold PartR; rw [h]; exact ⟨a, n, b, s, u, x, hx, hr⟩
theorem partR_num (l : List Int) : PartR 1 l (.tuple #[vA 1 (unfoldN (rdN l)) 0 ⟨#[]⟩, .int .i64 (rdU l : Nat), .int .i64 (rdE l)]) := by
  cases h : readF l with
  | none =>
    obtain ⟨h1, h2, h3⟩ := rd_none h
    have hd : decP 1 l = none := by unfold decP; rw [if_pos rfl, h]
    exact partR_none hd (by rw [h3]; decide) rfl
  | some p =>
    obtain ⟨n, u⟩ := p
    obtain ⟨h1, h2, h3⟩ := rd_some h
    have hd : decP 1 l = some (⟨1, unfoldN n, 0, ⟨#[]⟩⟩, u) := by unfold decP; rw [if_pos rfl, h]
    exact partR_some hd (by rw [h1, h2, h3])
theorem partR_flt (l : List Int) : PartR 2 l (fltR l) := by
  unfold fltR
  by_cases h8 : l.length < 8
  · rw [if_pos h8]
    exact partR_none (by unfold decP; rw [if_neg (by decide), if_pos rfl, if_pos h8]) (by decide) rfl
  · rw [if_neg h8]
    by_cases hc : canF (valN l 8) = valN l 8
    · rw [if_pos hc]
      exact partR_some (by unfold decP; rw [if_neg (by decide), if_pos rfl, if_neg h8, if_pos hc]) rfl
    · rw [if_neg hc]
      exact partR_none (by unfold decP; rw [if_neg (by decide), if_pos rfl, if_neg h8, if_neg hc]) (by decide) rfl
theorem fltR_form (l : List Int) : ∃ (a n : Int) (b : Nat) (s : ByteArray) (u x : Int), fltR l = .tuple #[vA a n b s, .int .i64 u, .int .i64 x] := by
  unfold fltR
  split
  · exact ⟨_, _, 0, _, _, _, rfl⟩
  · split
    · exact ⟨_, _, _, _, _, _, rfl⟩
    · exact ⟨_, _, 0, _, _, _, rfl⟩
theorem txtV_form (s : ByteArray) : ∃ (a : Int) (t : ByteArray), txtV s = vA a 0 0 t ∧ (txtE s = 0 → a = 3 ∧ t = s) := by
  unfold txtV
  split
  · exact ⟨3, s, rfl, fun _ => ⟨rfl, rfl⟩⟩
  · rename_i h; exact ⟨0, ⟨#[]⟩, rfl, fun h' => absurd h' h⟩
def partV (k : Int) (l : List Int) : Value :=
  if k = 1 then .tuple #[vA 1 (unfoldN (rdN l)) 0 ⟨#[]⟩, .int .i64 (rdU l : Nat), .int .i64 (rdE l)]
  else if k = 2 then fltR l
  else if k = 3 then (match readC l 30 1 with | none => .tuple #[vA 0 0 0 ⟨#[]⟩, .int .i64 0, .int .i64 12] | some p => .tuple #[txtV (toS ((l.drop p.2).take p.1)), .int .i64 ((p.2 + p.1 : Nat) : Int), .int .i64 (txtE (toS ((l.drop p.2).take p.1)))])
  else .tuple #[vA 0 0 0 ⟨#[]⟩, .int .i64 0, .int .i64 12]
theorem partV_R (k : Int) (l : List Int) : PartR k l (partV k l) := by
  unfold partV
  by_cases h1 : k = 1
  · subst h1; rw [if_pos rfl]; exact partR_num l
  rw [if_neg h1]
  by_cases h2 : k = 2
  · subst h2; rw [if_pos rfl]; exact partR_flt l
  rw [if_neg h2]
  by_cases h3 : k = 3
  · subst h3
    rw [if_pos rfl]
    cases hC : readC l 30 1 with
    | none => exact partR_none (by unfold decP; rw [if_neg (by decide), if_neg (by decide), if_pos rfl, hC]) (b := 0) (by decide) rfl
    | some p =>
      obtain ⟨n, u⟩ := p
      have hd : decP 3 l = if txtE (toS ((l.drop u).take n)) = 0 then some (⟨3, 0, 0, toS ((l.drop u).take n)⟩, u + n) else none := by unfold decP; rw [if_neg (by decide), if_neg (by decide), if_pos rfl, hC]
      show PartR 3 l (.tuple #[txtV (toS ((l.drop u).take n)), .int .i64 ((u + n : Nat) : Int), .int .i64 (txtE (toS ((l.drop u).take n)))])
      generalize toS ((l.drop u).take n) = s at *
      obtain ⟨ta, tt, ht1, ht2⟩ := txtV_form s
      rw [ht1]
      by_cases hE : txtE s = 0
      · obtain ⟨rfl, rfl⟩ := ht2 hE
        rw [if_pos hE] at hd
        exact partR_some hd (by rw [hE])
      · rw [if_neg hE] at hd
        exact partR_none hd (b := 0) hE rfl
  · rw [if_neg h3]
    exact partR_none (by unfold decP; rw [if_neg h1, if_neg h2, if_neg h3]) (b := 0) (by decide) rfl
theorem partV_used (k : Int) (l : List Int) (hl : Bytes l) {v : Value} {u x : Int} (h : partV k l = .tuple #[v, .int .i64 u, .int .i64 x]) : 0 ≤ u ∧ u ≤ l.length := by
  have inj : ∀ {v' : Value} {u' x' : Int}, Value.tuple #[v', .int .i64 u', .int .i64 x'] = .tuple #[v, .int .i64 u, .int .i64 x] → u' = u := by
    intro v' u' x' h
    simp only [Value.tuple.injEq, Array.mk.injEq, List.cons.injEq, Value.int.injEq, true_and, and_true] at h
    exact h.2.1
  unfold partV at h
  split at h
  · have := inj h
    rw [← this]
    cases hr : readF l with
    | none => rw [(rd_none hr).2.1]; omega
    | some p =>
      obtain ⟨n, u'⟩ := p
      rw [(rd_some hr).2.1]
      have := (readF_some hl hr).2.2.1
      omega
  split at h
  · unfold fltR at h
    split at h
    · have := inj h; omega
    · split at h
      · have := inj h; omega
      · have := inj h; omega
  split at h
  · split at h
    · have := inj h; omega
    · rename_i p hp
      obtain ⟨n, u'⟩ := p
      have := inj h
      obtain ⟨g1, g2, g3⟩ := readC_some hp
      have h3 := (readF_some hl g1).2.2.1
      rw [Nat.div_one] at g3
      simp only at this
      omega
  · have := inj h; omega
theorem partV_form (k : Int) (l : List Int) : ∃ (a n : Int) (b : Nat) (s : ByteArray) (u x : Int), partV k l = .tuple #[vA a n b s, .int .i64 u, .int .i64 x] := by
  have h := partV_R k l
  unfold PartR at h
  split at h
  · exact ⟨_, _, _, _, _, _, h⟩
  · obtain ⟨a, n, b, s, u, x, _, h⟩ := h
    exact ⟨a, n, b, s, u, x, h⟩
set_option maxHeartbeats 2000000 in
set_option maxRecDepth 100000 in
theorem decPart_any (k : Int) (hk : 0 ≤ k ∧ k < 256) (l : List Int) (bv : Value) (w : World) (hr : RdB w bv l) (hl : Bytes l) (hlm : l.length ≤ 1000000) :
    Calls Tryz.prog 80 #[.int .u8 k, bv] w fun e w' => e = .returned (partV k l) ∧ Below w.heap.size w w' := by
  have hB0 := below_a w (.cells #[.int .u8 0, .int .i64 0, .int .u64 0, .string ⟨#[]⟩] 35)
  have hrow := Lib.hid (heap_alloc_new w (.cells #[.int .u8 0, .int .i64 0, .int .u64 0, .string ⟨#[]⟩] 35))
  have hr1 := hr.mono hB0
  have hB := Lib.hid hB0
  clear hB0
  obtain ⟨W, hW⟩ : ∃ W, W = w.alloc (.cells #[.int .u8 0, .int .i64 0, .int .u64 0, .string ⟨#[]⟩] 35) := ⟨_, rfl⟩
  rw [← hW] at hrow hB hr1
  by_cases h1 : k = 1
  · subst h1
    have hS := Lib.hid (readSigned_any l bv W hr1 hl)
    have hN := Lib.hid (fun w => number_val (unfoldN (rdN l)) w)
    rw [show partV 1 l = .tuple #[vA 1 (unfoldN (rdN l)) 0 ⟨#[]⟩, .int .i64 (rdU l : Nat), .int .i64 (rdE l)] from rfl]
    generalize unfoldN (rdN l) = F at *
    generalize rdU l = U at *
    generalize rdE l = E at *
    obtain ⟨a, c, rfl⟩ := hr.slice
    clear hr hr1 hl hlm hk
    generalize l.length = N at *
    go_enter Tryz.func80, Tryz.ntmps80
    go_upto_region 1 with fail
    rw [← hW]
    clear hW
    go_wp2_with (first | (go_at_call 104; (with_reducible refine (hS.out).mono ?_); rintro e w' ⟨rfl, rfl⟩) | (go_at_call 105; (with_reducible refine (hN.out _).mono ?_); rintro e w1 ⟨rfl, h9⟩; have hr1 := Lib.hid (rowB hrow.out h9 (Array.getElem?_eq_some_iff.1 hrow.out).1); have hw1 := Lib.hid (hB.out.trans (h9.mono hB.out.size)); clear h9) | (refine storeOver w1 w.heap.size _ rfl 35 _ _ rfl (vC 1 F 0 ⟨#[]⟩) 35 hr1.out rfl rfl info_val rfl (val_one _ _ _ _) ?_; intro w2 hr2 hb2; have hr2' := Lib.hid hr2; have hb2' := Lib.hid hb2; clear hr2 hb2))
    exact bodyPost_ret (results_row_tmp2 rfl _ _ w.heap.size 35 _ _ _ rfl hr2'.out Tryz.underlying35 rfl info_val) rfl ⟨by rfl, hw1.out.trans hb2'.out⟩
  by_cases h2 : k = 2
  · subst h2
    have hS := Lib.hid (decFloat_any l bv W hr1 hl)
    obtain ⟨x1, x2, x3, x4, x5, x6, hx⟩ := fltR_form l
    rw [show partV 2 l = fltR l from rfl]
    rw [hx] at hS ⊢
    clear hx
    obtain ⟨a, c, rfl⟩ := hr.slice
    clear hr hr1 hl hlm hk
    generalize l.length = N at *
    go_enter Tryz.func80, Tryz.ntmps80
    go_upto_region 1 with fail
    rw [← hW]
    clear hW
    go_wp2_with (first | (go_at_call 106; (with_reducible refine (hS.out).mono ?_); rintro e w1 ⟨rfl, h9⟩; have hr1 := Lib.hid (rowB hrow.out h9 (Array.getElem?_eq_some_iff.1 hrow.out).1); have hw1 := Lib.hid (hB.out.trans (h9.mono hB.out.size)); clear h9) | (refine storeOver w1 w.heap.size _ rfl 35 _ _ rfl (vC x1 x2 x3 x4) 35 hr1.out rfl rfl info_val rfl (val_one _ _ _ _) ?_; intro w2 hr2 hb2; have hr2' := Lib.hid hr2; have hb2' := Lib.hid hb2; clear hr2 hb2))
    exact bodyPost_ret (results_row_tmp2 rfl _ _ w.heap.size 35 _ _ _ rfl hr2'.out Tryz.underlying35 rfl info_val) rfl ⟨by rfl, hw1.out.trans hb2'.out⟩
  by_cases h3 : k = 3
  · subst h3
    cases hC : readC l 30 1 with
    | none =>
      have hS := Lib.hid (readBytes_no l bv 30 (by omega) (by omega) W hr1 hl hlm hC)
      rw [show partV 3 l = .tuple #[vA 0 0 0 ⟨#[]⟩, .int .i64 0, .int .i64 12] by unfold partV; rw [if_neg (by decide), if_neg (by decide), if_pos rfl, hC]]
      obtain ⟨a, c, rfl⟩ := hr.slice
      clear hr hr1 hl hlm hk hC
      generalize l.length = N at *
      go_enter Tryz.func80, Tryz.ntmps80
      go_upto_region 1 with fail
      rw [← hW]
      clear hW
      go_wp2_with (first | (go_at_call 48; (with_reducible refine (hS.out).mono ?_); rintro e w1 ⟨rfl, rfl⟩) | (refine storeOver _ w.heap.size _ rfl 35 _ _ rfl (vC 0 0 0 ⟨#[]⟩) 35 hrow.out rfl rfl info_val rfl (val_one _ _ _ _) ?_; intro w2 hr2 hb2; have hr2' := Lib.hid hr2; have hb2' := Lib.hid hb2; clear hr2 hb2))
      exact bodyPost_ret (results_row_tmp2 rfl _ _ w.heap.size 35 _ _ _ rfl hr2'.out Tryz.underlying35 rfl info_val) rfl ⟨by rfl, hB.out.trans hb2'.out⟩
    | some p =>
      obtain ⟨n, u⟩ := p
      have hS := Lib.hid (readBytes_ok l bv 30 (by omega) (by omega) W hr1 hl hlm n u hC)
      have hlen : ((l.drop u).take n).length = n := by
        obtain ⟨g1, g2, g3⟩ := readC_some hC
        obtain ⟨h1, h2, h3, h4⟩ := readF_some hl g1
        rw [List.length_take, List.length_drop]; omega
      have hn : n ≤ 30 := by have := (readC_some hC).2.1; omega
      have hun : u ≤ 1000000 := by
        obtain ⟨g1, g2, g3⟩ := readC_some hC
        obtain ⟨h1, h2, h3, h4⟩ := readF_some hl g1
        omega
      rw [show partV 3 l = .tuple #[txtV (toS ((l.drop u).take n)), .int .i64 ((u + n : Nat) : Int), .int .i64 (txtE (toS ((l.drop u).take n)))] by unfold partV; rw [if_neg (by decide), if_neg (by decide), if_pos rfl, hC]]
      have hsz := toS_size ((l.drop u).take n)
      have hrs := Lib.hid (fun (wx : World) (g : Nat) (h : wx.heap[g]? = some (.cells (u8s ((l.drop u).take n)) 5 (0, 0))) => run_toS (P := Tryz.prog) (rdB_row h n hlen (by unfold maxLen; omega)) 22 9 5 Tryz.underlying22 Tryz.underlying5 Tryz.underlying9)
      generalize (l.drop u).take n = R at *
      generalize toS R = s at *
      have hT := Lib.hid (fun w => text_any s (by omega) w)
      obtain ⟨ta, tt, ht1, ht2⟩ := txtV_form s
      rw [ht1] at hT ⊢
      generalize txtE s = E at *
      obtain ⟨a, c, rfl⟩ := hr.slice
      clear hr hr1 hl hlm hk hC ht1 ht2 hlen hsz
      generalize l.length = N at *
      generalize u + n = M at *
      go_enter Tryz.func80, Tryz.ntmps80
      go_upto_region 1 with fail
      rw [← hW]
      clear hW
      go_wp2_with (first | (go_at_call 48; (with_reducible refine (hS.out).mono ?_); rintro e w1 ⟨rfl, h8, h9⟩; have hr1 := Lib.hid (rowB hrow.out h9 (Array.getElem?_eq_some_iff.1 hrow.out).1); have hw1 := Lib.hid (hB.out.trans (h9.mono hB.out.size)); have hk1 := hrs.out w1 _ h8; clear h9 h8) | (go_at_call 107; (with_reducible refine (hT.out _).mono ?_); rintro e w2 ⟨rfl, h9⟩; have hr2 := Lib.hid (rowB hr1.out h9 (Array.getElem?_eq_some_iff.1 hr1.out).1); have hw2 := Lib.hid (hw1.out.trans (h9.mono hw1.out.size)); clear h9 hk1; refine Stop.go'' _ ?_))
      refine StopP.go ?_
      have hn3 := Lib.hid (heap_alloc_new w2 (.cells (vC ta 0 0 tt) 35))
      have hr3 := Lib.hid (rowB hr2.out (below_a w2 (.cells (vC ta 0 0 tt) 35)) (Array.getElem?_eq_some_iff.1 hr2.out).1)
      have hw3 := Lib.hid (hw2.out.trans ((below_a w2 (.cells (vC ta 0 0 tt) 35)).mono hw2.out.size))
      go_wp2_with (first | (refine wpList_load_row_g rfl 35 _ rfl (w2.heap.size) rfl 35 (vC ta 0 0 tt) (0, 0) _ hn3.out Tryz.underlying35 rfl info_val ?_) | (refine storeOver _ w.heap.size _ rfl 35 _ _ rfl (vC ta 0 0 tt) 35 hr3.out rfl rfl info_val rfl (val_one _ _ _ _) ?_; intro w4 hr4 hb4; have hr4' := Lib.hid hr4; have hb4' := Lib.hid hb4; clear hr4 hb4))
      exact bodyPost_ret (results_row_tmp2 rfl _ _ w.heap.size 35 _ _ _ rfl hr4'.out Tryz.underlying35 rfl info_val) rfl ⟨by rfl, hw3.out.trans hb4'.out⟩
  · rw [show partV k l = .tuple #[vA 0 0 0 ⟨#[]⟩, .int .i64 0, .int .i64 12] by unfold partV; rw [if_neg h1, if_neg h2, if_neg h3]]
    have k1 : (k == 1) = false := by simpa using h1
    have k2 : (k == 2) = false := by simpa using h2
    have k3 : (k == 3) = false := by simpa using h3
    obtain ⟨a, c, rfl⟩ := hr.slice
    clear hr hr1 hl hlm hk h1 h2 h3
    generalize l.length = N at *
    go_enter Tryz.func80, Tryz.ntmps80
    go_upto_region 1 with fail
    rw [← hW]
    clear hW
    go_wp2_with (refine storeOver _ w.heap.size _ rfl 35 _ _ rfl (vC 0 0 0 ⟨#[]⟩) 35 hrow.out rfl rfl info_val rfl (val_one _ _ _ _) ?_; intro w2 hr2 hb2; have hr2' := Lib.hid hr2; have hb2' := Lib.hid hb2; clear hr2 hb2)
    exact bodyPost_ret (results_row_tmp2 rfl _ _ w.heap.size 35 _ _ _ rfl hr2'.out Tryz.underlying35 rfl info_val) rfl ⟨by rfl, hB.out.trans hb2'.out⟩
end Go.Proofs.YtfaojjleapenaabGreatDoor.wir.val
namespace Go.Proofs.YtfaojjleapenaabGreatDoor.wir.val
open Go.RowKit Go.YtfaojjleapenaabGreatDoor
set_option linter.unusedVariables false
def decR (l : List Int) : Value :=
  match decF l with
  | some p => .tuple #[p.1.v, .int .i64 (p.2 : Nat), .int .i64 0]
  | none => .tuple #[vA 0 0 0 ⟨#[]⟩, .int .i64 0, .int .i64 12]
theorem fin4 {B g : Nat} {w0 w2 : World} {a0 a1 a2 a3 x0 x1 x2 x3 : Value} {T : TypeId} (hrow : w2.heap[g]? = some (.cells #[a0, a1, a2, a3] T (0, 0))) (hB : Below B w0 w2) (hBg : B ≤ g) :
    ((((w2.setCell ⟨g, 0, none⟩ x0).setCell ⟨g, 1, none⟩ x1).setCell ⟨g, 2, none⟩ x2).setCell ⟨g, 3, none⟩ x3).heap[g]? = some (.cells #[x0, x1, x2, x3] T (0, 0)) ∧
    Below B w0 ((((w2.setCell ⟨g, 0, none⟩ x0).setCell ⟨g, 1, none⟩ x1).setCell ⟨g, 2, none⟩ x2).setCell ⟨g, 3, none⟩ x3) := by
  have e : ((((w2.setCell ⟨g, 0, none⟩ x0).setCell ⟨g, 1, none⟩ x1).setCell ⟨g, 2, none⟩ x2).setCell ⟨g, 3, none⟩ x3) = w2.setRow g #[x0, x1, x2, x3] := by
    have h := fun c => setRow_heap w2 g #[a0, a1, a2, a3] c T (0, 0) hrow
    rw [setCell_eq hrow]
    rw [setCell_eq (h _), setRow2 hrow]
    rw [setCell_eq (h _), setRow2 hrow]
    rw [setCell_eq (h _), setRow2 hrow]
    simp only [List.setIfInBounds_toArray, List.set_cons_succ, List.set_cons_zero]
  rw [e]
  exact ⟨setRow_heap _ _ _ _ _ _ hrow, below_setRow' (g := g) hB hBg _⟩
theorem four_of {w : World} {g : Nat} {a0 a1 a2 a3 : Value} {T : TypeId} (h : w.heap[g]? = some (.cells #[a0, a1, a2, a3] T (0, 0))) :
    (w.cell? ⟨g, 0, none⟩ = some a0 ∧ w.cell? ⟨g, 1, none⟩ = some a1 ∧ w.cell? ⟨g, 2, none⟩ = some a2 ∧ w.cell? ⟨g, 3, none⟩ = some a3) ∧
    w.frozen? ⟨g, 0, none⟩ = false ∧ w.frozen? ⟨g, 1, none⟩ = false ∧ w.frozen? ⟨g, 2, none⟩ = false ∧ w.frozen? ⟨g, 3, none⟩ = false :=
  ⟨⟨cell_of_row _ _ _ _ _ _ h, cell_of_row _ _ _ _ _ _ h, cell_of_row _ _ _ _ _ _ h, cell_of_row _ _ _ _ _ _ h⟩, frozen_of_row _ _ _ _ _ h, frozen_of_row _ _ _ _ _ h, frozen_of_row _ _ _ _ _ h, frozen_of_row _ _ _ _ _ h⟩
set_option maxHeartbeats 2000000 in
set_option maxRecDepth 100000 in
theorem decode_any (l : List Int) (bv : Value) (w : World) (hr : RdB w bv l) (hl : Bytes l) (hlm : l.length ≤ 1000000) :
    Calls Tryz.prog 49 #[bv] w fun e w' => e = .returned (decR l) ∧ Below w.heap.size w w' := by
  have hB0 := below_a w (.cells #[.int .u8 0, .int .i64 0, .int .u64 0, .string ⟨#[]⟩] 35)
  have hrow := Lib.hid (heap_alloc_new w (.cells #[.int .u8 0, .int .i64 0, .int .u64 0, .string ⟨#[]⟩] 35))
  have hr1 := hr.mono hB0
  have hB := Lib.hid hB0
  clear hB0
  obtain ⟨W, hW⟩ : ∃ W, W = w.alloc (.cells #[.int .u8 0, .int .i64 0, .int .u64 0, .string ⟨#[]⟩] 35) := ⟨_, rfl⟩
  rw [← hW] at hrow hB hr1
  by_cases h0 : l.length = 0
  · have e : decR l = .tuple #[vA 0 0 0 ⟨#[]⟩, .int .i64 0, .int .i64 12] := by unfold decR decF; rw [if_pos h0]
    rw [e]
    obtain ⟨a, c, rfl⟩ := hr.slice
    clear hr hr1 hl hlm e
    generalize l.length = N at *
    go_enter Tryz.func49, Tryz.ntmps49
    go_upto_region 1 with fail
    rw [← hW]
    clear hW
    go_wp2_with (refine storeOver _ w.heap.size _ rfl 35 _ _ rfl (vC 0 0 0 ⟨#[]⟩) 35 hrow.out rfl rfl info_val rfl (val_one _ _ _ _) ?_; intro w2 hr2 hb2; have hr2' := Lib.hid hr2; have hb2' := Lib.hid hb2; clear hr2 hb2)
    exact bodyPost_ret (results_row_tmp2 rfl _ _ w.heap.size 35 _ _ _ rfl hr2'.out Tryz.underlying35 rfl info_val) rfl ⟨rfl, hB.out.trans hb2'.out⟩
  have hrs := hr1
  rcases hr1 with ⟨_, _, _, _, rfl⟩ | ⟨b, o, c, rfl, g1, g2, g3, g4⟩
  · simp at h0
  have hsub0 := rdB_sub hrs 1 (l.length - 1) (c - 1) (by omega) (by omega) (by omega)
  have hdr : (l.drop 1).take (l.length - 1) = l.drop 1 := List.take_of_length_le (by rw [List.length_drop]; omega)
  rw [hdr] at hsub0
  have hsub : RdB W (.slice (if c = 1 then some ⟨b, o, none⟩ else some ⟨b, o + 1, none⟩) (l.length - 1) (c - 1)) (l.drop 1) := by
    by_cases hc : c = 1
    · rw [if_pos hc]
      have e1 : l.length - 1 = 0 := by omega
      have e2 : l.drop 1 = [] := List.drop_eq_nil_of_le (by omega)
      rw [e1, e2]
      exact .inl ⟨_, _, rfl, (fun h => by cases h), rfl⟩
    · rw [if_neg hc]; exact hsub0
  have hsub := Lib.hid hsub
  clear hsub0
  have hP := Lib.hid (fun w' (h : Below W.heap.size W w') => decPart_any (ith l 0) (hl 0) (l.drop 1) _ w' (hsub.out.mono h) (bytes_drop _ _ hl) (by rw [List.length_drop]; omega))
  have hc0 := Lib.hid (g4 0 (by omega))
  have hdec : ∀ (a n : Int) (b : Nat) (s : ByteArray) (u x : Int), partV (ith l 0) (l.drop 1) = .tuple #[vA a n b s, .int .i64 u, .int .i64 x] → decR l = if x = 0 then .tuple #[vA a n b s, .int .i64 (1 + u), .int .i64 0] else .tuple #[vA 0 0 0 ⟨#[]⟩, .int .i64 0, .int .i64 12] := by
    intro a n b s u x h
    have hp := partV_R (ith l 0) (l.drop 1)
    rw [h] at hp
    unfold PartR at hp
    unfold decR decF
    rw [if_neg h0]
    cases hd : decP (ith l 0) (l.drop 1) with
    | some p =>
      rw [hd] at hp
      simp only [Value.tuple.injEq, Array.mk.injEq, List.cons.injEq, Value.agg.injEq, Value.int.injEq, true_and, and_true, Value.string.injEq] at hp
      obtain ⟨⟨e1, e2, e3, e4⟩, e5, e6⟩ := hp
      rw [if_pos e6]
      show Value.tuple #[p.1.v, .int .i64 ((1 + p.2 : Nat) : Int), .int .i64 0] = _
      have e3' : b = p.1.b := by omega
      rw [e1, e2, e3', e4, e5]
      simp
    | none =>
      rw [hd] at hp
      obtain ⟨a', n', b', s', u', x', hx, hp⟩ := hp
      simp only [Value.tuple.injEq, Array.mk.injEq, List.cons.injEq, Value.int.injEq, true_and, and_true] at hp
      rw [if_neg (by omega)]
  obtain ⟨va, vn, vb, vs, vu, vx, hv⟩ := partV_form (ith l 0) (l.drop 1)
  replace hdec := hdec _ _ _ _ _ _ hv
  have hu := partV_used _ _ (bytes_drop _ 1 hl) hv
  rw [List.length_drop] at hu
  have hu1 : -1 ≤ vu := by omega
  have hu2 : vu ≤ 1000000 := by omega
  clear hu
  rw [hv] at hP
  obtain ⟨R, hR⟩ : ∃ R, R = decR l := ⟨_, rfl⟩
  rw [← hR]
  rw [hdec] at hR
  have hR' := Lib.hid hR
  unfold maxLen at g2
  have hN : 1 ≤ l.length := by omega
  clear hR hdec hrs hr g4 hl hlm hv hdr
  generalize ith l 0 = K at *
  generalize l.drop 1 = l1 at *
  generalize l.length = N at *
  have hc1 := hc0.out
  rw [Nat.add_zero] at hc1
  have hck := Lib.hid (fun w' (h : Below W.heap.size W w') => (h.cell (p := ⟨b, o, none⟩) g3).trans hc1)
  have hd := Lib.hid (show Below W.heap.size W W.drew from (Below.refl _ _).drew)
  have hda := Lib.hid (show Below W.heap.size W (W.alloc (.cells #[.int .u8 0, .int .i64 0, .int .u64 0, .string ⟨#[]⟩] 35)).drew from (below_a W _).drew)
  have hra := Lib.hid (show (W.alloc (.cells #[.int .u8 0, .int .i64 0, .int .u64 0, .string ⟨#[]⟩] 35)).drew.heap[W.heap.size]? = _ from heap_alloc_new W (.cells #[.int .u8 0, .int .i64 0, .int .u64 0, .string ⟨#[]⟩] 35))
  have hsa := Lib.hid (show W.heap.size < (W.alloc (.cells #[.int .u8 0, .int .i64 0, .int .u64 0, .string ⟨#[]⟩] 35)).drew.heap.size by simp)
  have hP1 := hP.out _ hd.out
  have hP2 := hP.out _ hda.out
  clear hP hsub
  by_cases hcc : c = 1
  · rw [if_pos hcc] at hP1 hP2
    obtain rfl : N = 1 := by omega
    subst hcc
    rw [show 1 - 1 = 0 from rfl] at hP1 hP2
    have hP1 := Lib.hid hP1
    have hP2 := Lib.hid hP2
    go_enter Tryz.func49, Tryz.ntmps49
    go_upto_region 1 with fail
    rw [← hW]
    clear hW
    go_upto_region 3 with fail
    go_region_held3 (fun w' => w'.cell? ⟨b, o, none⟩ = some (.int .u8 K)) (first | go_keep | (exact hck.out _ hb6.out) | (exact hck.out _ (hb6.out.alloc hb6.out.size _)) | (exact hck.out _ (fin4 hr6.out hb6.out (Nat.le_refl _)).2))
      (first | (go_at_call 80; (with_reducible refine (hP1.out).mono ?_); rintro e w6 ⟨rfl, h6⟩; have hb6 := Lib.hid (hd.out.trans (h6.mono hd.out.size)); clear h6) | (go_at_call 80; (with_reducible refine (hP2.out).mono ?_); rintro e w6 ⟨rfl, h6⟩; have hb6 := Lib.hid (hda.out.trans (h6.mono hda.out.size)); have hr6 := Lib.hid (rowB hra.out h6 hsa.out); obtain ⟨⟨k0, k1, k2, k3⟩, l0, l1, l2, l3⟩ := four_of hr6.out; clear h6))
    · have hlt := (Array.getElem?_eq_some_iff.1 hrow.out).1
      have hl := Lib.hid (heap_alloc_new w6 (.cells (vC va vn vb vs) 35))
      have hb7 := hb6.out.alloc hb6.out.size (.cells (vC va vn vb vs) 35)
      have hz := Lib.hid (rowB hrow.out hb7 hlt)
      have hB7 := Lib.hid (hB.out.trans (hb7.mono hB.out.size))
      clear hb7 hlt
      generalize w6.heap.size = gl at *
      generalize w6.alloc (.cells (vC va vn vb vs) 35) = w7 at *
      by_cases hx : vx = 0
      · have hR2 := Lib.hid (hR'.out.trans (if_pos hx))
        have hxb : (vx != 0) = false := by simpa using hx
        clear hx hR'
        go_wp2_with (first | (refine wpList_load_row_g rfl 35 _ rfl (gl) rfl 35 (vC va vn vb vs) (0, 0) _ hl.out Tryz.underlying35 rfl info_val ?_) | (refine storeOver _ w.heap.size _ rfl 35 _ _ rfl (vC va vn vb vs) 35 hz.out rfl rfl info_val rfl (val_one _ _ _ _) ?_; intro w9 hr9 hb9; have hr9' := Lib.hid hr9; have hb9' := Lib.hid hb9; clear hr9 hb9))
        exact bodyPost_ret (results_row_tmp2 rfl _ _ w.heap.size 35 _ _ _ rfl hr9'.out Tryz.underlying35 rfl info_val) rfl ⟨by rw [hR2.out]; rfl, hB7.out.trans hb9'.out⟩
      · have hR2 := Lib.hid (hR'.out.trans (if_neg hx))
        have hxb : (vx != 0) = true := by simpa using hx
        clear hx hR'
        go_wp2_with (refine storeOver _ w.heap.size _ rfl 35 _ _ rfl (vC 0 0 0 ⟨#[]⟩) 35 hz.out rfl rfl info_val rfl (val_one _ _ _ _) ?_; intro w9 hr9 hb9; have hr9' := Lib.hid hr9; have hb9' := Lib.hid hb9; clear hr9 hb9)
        exact bodyPost_ret (results_row_tmp2 rfl _ _ w.heap.size 35 _ _ _ rfl hr9'.out Tryz.underlying35 rfl info_val) rfl ⟨by rw [hR2.out]; rfl, hB7.out.trans hb9'.out⟩
    · have hlt := (Array.getElem?_eq_some_iff.1 hrow.out).1
      obtain ⟨hl0, hb7⟩ := fin4 (x0 := .int .u8 va) (x1 := .int .i64 vn) (x2 := .int .u64 (vb : Int)) (x3 := .string vs) hr6.out hb6.out (Nat.le_refl _)
      have hl := Lib.hid hl0
      have hz := Lib.hid (rowB hrow.out hb7 hlt)
      have hB7 := Lib.hid (hB.out.trans (hb7.mono hB.out.size))
      clear hb7 hlt hl0 k0 k1 k2 k3 l0 l1 l2 l3
      generalize (((w6.setCell _ _).setCell _ _).setCell _ _).setCell _ _ = w7 at *
      by_cases hx : vx = 0
      · have hR2 := Lib.hid (hR'.out.trans (if_pos hx))
        have hxb : (vx != 0) = false := by simpa using hx
        clear hx hR'
        go_wp2_with (first | (refine wpList_load_row_g rfl 35 _ rfl (W.heap.size) rfl 35 (vC va vn vb vs) (0, 0) _ hl.out Tryz.underlying35 rfl info_val ?_) | (refine storeOver _ w.heap.size _ rfl 35 _ _ rfl (vC va vn vb vs) 35 hz.out rfl rfl info_val rfl (val_one _ _ _ _) ?_; intro w9 hr9 hb9; have hr9' := Lib.hid hr9; have hb9' := Lib.hid hb9; clear hr9 hb9))
        exact bodyPost_ret (results_row_tmp2 rfl _ _ w.heap.size 35 _ _ _ rfl hr9'.out Tryz.underlying35 rfl info_val) rfl ⟨by rw [hR2.out]; rfl, hB7.out.trans hb9'.out⟩
      · have hR2 := Lib.hid (hR'.out.trans (if_neg hx))
        have hxb : (vx != 0) = true := by simpa using hx
        clear hx hR'
        go_wp2_with (refine storeOver _ w.heap.size _ rfl 35 _ _ rfl (vC 0 0 0 ⟨#[]⟩) 35 hz.out rfl rfl info_val rfl (val_one _ _ _ _) ?_; intro w9 hr9 hb9; have hr9' := Lib.hid hr9; have hb9' := Lib.hid hb9; clear hr9 hb9)
        exact bodyPost_ret (results_row_tmp2 rfl _ _ w.heap.size 35 _ _ _ rfl hr9'.out Tryz.underlying35 rfl info_val) rfl ⟨by rw [hR2.out]; rfl, hB7.out.trans hb9'.out⟩
  · rw [if_neg hcc] at hP1 hP2
    have hP1 := Lib.hid hP1
    have hP2 := Lib.hid hP2
    have i1 : (1 : Int) ≤ (N : Int) := by omega
    have i2 : (N : Int) ≤ (c : Int) := by omega
    have i3 : (0 : Int) < (N : Int) := by omega
    have i4 : 0 < N := by omega
    go_enter Tryz.func49, Tryz.ntmps49
    go_upto_region 1 with fail
    rw [← hW]
    clear hW
    go_upto_region 3 with fail
    go_region_held3 (fun w' => w'.cell? ⟨b, o, none⟩ = some (.int .u8 K)) (first | go_keep | (exact hck.out _ hb6.out) | (exact hck.out _ (hb6.out.alloc hb6.out.size _)) | (exact hck.out _ (fin4 hr6.out hb6.out (Nat.le_refl _)).2))
      (first | (go_at_call 80; (with_reducible refine (hP1.out).mono ?_); rintro e w6 ⟨rfl, h6⟩; have hb6 := Lib.hid (hd.out.trans (h6.mono hd.out.size)); clear h6) | (go_at_call 80; (with_reducible refine (hP2.out).mono ?_); rintro e w6 ⟨rfl, h6⟩; have hb6 := Lib.hid (hda.out.trans (h6.mono hda.out.size)); have hr6 := Lib.hid (rowB hra.out h6 hsa.out); obtain ⟨⟨k0, k1, k2, k3⟩, l0, l1, l2, l3⟩ := four_of hr6.out; clear h6))
    · have hlt := (Array.getElem?_eq_some_iff.1 hrow.out).1
      have hl := Lib.hid (heap_alloc_new w6 (.cells (vC va vn vb vs) 35))
      have hb7 := hb6.out.alloc hb6.out.size (.cells (vC va vn vb vs) 35)
      have hz := Lib.hid (rowB hrow.out hb7 hlt)
      have hB7 := Lib.hid (hB.out.trans (hb7.mono hB.out.size))
      clear hb7 hlt
      generalize w6.heap.size = gl at *
      generalize w6.alloc (.cells (vC va vn vb vs) 35) = w7 at *
      by_cases hx : vx = 0
      · have hR2 := Lib.hid (hR'.out.trans (if_pos hx))
        have hxb : (vx != 0) = false := by simpa using hx
        clear hx hR'
        go_wp2_with (first | (refine wpList_load_row_g rfl 35 _ rfl (gl) rfl 35 (vC va vn vb vs) (0, 0) _ hl.out Tryz.underlying35 rfl info_val ?_) | (refine storeOver _ w.heap.size _ rfl 35 _ _ rfl (vC va vn vb vs) 35 hz.out rfl rfl info_val rfl (val_one _ _ _ _) ?_; intro w9 hr9 hb9; have hr9' := Lib.hid hr9; have hb9' := Lib.hid hb9; clear hr9 hb9))
        exact bodyPost_ret (results_row_tmp2 rfl _ _ w.heap.size 35 _ _ _ rfl hr9'.out Tryz.underlying35 rfl info_val) rfl ⟨by rw [hR2.out]; rfl, hB7.out.trans hb9'.out⟩
      · have hR2 := Lib.hid (hR'.out.trans (if_neg hx))
        have hxb : (vx != 0) = true := by simpa using hx
        clear hx hR'
        go_wp2_with (refine storeOver _ w.heap.size _ rfl 35 _ _ rfl (vC 0 0 0 ⟨#[]⟩) 35 hz.out rfl rfl info_val rfl (val_one _ _ _ _) ?_; intro w9 hr9 hb9; have hr9' := Lib.hid hr9; have hb9' := Lib.hid hb9; clear hr9 hb9)
        exact bodyPost_ret (results_row_tmp2 rfl _ _ w.heap.size 35 _ _ _ rfl hr9'.out Tryz.underlying35 rfl info_val) rfl ⟨by rw [hR2.out]; rfl, hB7.out.trans hb9'.out⟩
    · have hlt := (Array.getElem?_eq_some_iff.1 hrow.out).1
      obtain ⟨hl0, hb7⟩ := fin4 (x0 := .int .u8 va) (x1 := .int .i64 vn) (x2 := .int .u64 (vb : Int)) (x3 := .string vs) hr6.out hb6.out (Nat.le_refl _)
      have hl := Lib.hid hl0
      have hz := Lib.hid (rowB hrow.out hb7 hlt)
      have hB7 := Lib.hid (hB.out.trans (hb7.mono hB.out.size))
      clear hb7 hlt hl0 k0 k1 k2 k3 l0 l1 l2 l3
      generalize (((w6.setCell _ _).setCell _ _).setCell _ _).setCell _ _ = w7 at *
      by_cases hx : vx = 0
      · have hR2 := Lib.hid (hR'.out.trans (if_pos hx))
        have hxb : (vx != 0) = false := by simpa using hx
        clear hx hR'
        go_wp2_with (first | (refine wpList_load_row_g rfl 35 _ rfl (W.heap.size) rfl 35 (vC va vn vb vs) (0, 0) _ hl.out Tryz.underlying35 rfl info_val ?_) | (refine storeOver _ w.heap.size _ rfl 35 _ _ rfl (vC va vn vb vs) 35 hz.out rfl rfl info_val rfl (val_one _ _ _ _) ?_; intro w9 hr9 hb9; have hr9' := Lib.hid hr9; have hb9' := Lib.hid hb9; clear hr9 hb9))
        exact bodyPost_ret (results_row_tmp2 rfl _ _ w.heap.size 35 _ _ _ rfl hr9'.out Tryz.underlying35 rfl info_val) rfl ⟨by rw [hR2.out]; rfl, hB7.out.trans hb9'.out⟩
      · have hR2 := Lib.hid (hR'.out.trans (if_neg hx))
        have hxb : (vx != 0) = true := by simpa using hx
        clear hx hR'
        go_wp2_with (refine storeOver _ w.heap.size _ rfl 35 _ _ rfl (vC 0 0 0 ⟨#[]⟩) 35 hz.out rfl rfl info_val rfl (val_one _ _ _ _) ?_; intro w9 hr9 hb9; have hr9' := Lib.hid hr9; have hb9' := Lib.hid hb9; clear hr9 hb9)
        exact bodyPost_ret (results_row_tmp2 rfl _ _ w.heap.size 35 _ _ _ rfl hr9'.out Tryz.underlying35 rfl info_val) rfl ⟨by rw [hR2.out]; rfl, hB7.out.trans hb9'.out⟩
/-- What a walk keeps: the world from which it began, and rows that it laid. -/
structure Inv (w : World) (rows : List (Nat × Obj)) (w9 : World) : Prop where
  b : Below w.heap.size w w9
  r : ∀ p ∈ rows, w9.heap[p.1]? = some p.2
theorem Inv.start (w : World) : Inv w [] w := ⟨Below.refl _ _, fun p h => by cases h⟩
theorem Inv.step0 {w : World} {rows : List (Nat × Obj)} {w9 w' : World} (h : Inv w rows w9) (hb : Below w9.heap.size w9 w') : Inv w rows w' :=
  ⟨h.b.trans (hb.mono h.b.size), fun p hp => rowB (h.r p hp) hb (Array.getElem?_eq_some_iff.1 (h.r p hp)).1⟩
theorem Inv.alloc {w : World} {rows : List (Nat × Obj)} {w9 : World} (h : Inv w rows w9) (o : Obj) : Inv w rows (w9.alloc o) := h.step0 (below_a w9 o)
theorem Inv.add {w : World} {rows : List (Nat × Obj)} {w9 : World} (h : Inv w rows w9) (o : Obj) : Inv w ((w9.heap.size, o) :: rows) (w9.alloc o) :=
  ⟨(h.alloc o).b, fun p hp => by
    rcases List.mem_cons.1 hp with rfl | hp
    · exact heap_alloc_new w9 o
    · exact (h.alloc o).r p hp⟩
theorem Inv.drew {w : World} {rows : List (Nat × Obj)} {w9 : World} (h : Inv w rows w9) : Inv w rows w9.drew := h.step0 (Below.refl _ _).drew
end Go.Proofs.YtfaojjleapenaabGreatDoor.wir.val
namespace Go.Proofs.YtfaojjleapenaabGreatDoor.wir
open Go.RowKit Go.YtfaojjleapenaabGreatDoor
set_option linter.unusedVariables false
end Go.Proofs.YtfaojjleapenaabGreatDoor.wir
namespace Go.Proofs.YtfaojjleapenaabGreatDoor.wir
open Go.RowKit Go.YtfaojjleapenaabGreatDoor
set_option linter.unusedVariables false
/-- The first bytes of an id, and zeros. -/
def xP (A : List Int) (j : Nat) : List Int := A.take j ++ zerosB (32 - j)
end Go.Proofs.YtfaojjleapenaabGreatDoor.wir
namespace Go
namespace YtfaojjleapenaabGreatDoor
open RowKit
def HeldI (base : Nat) (w : World) (v : Value) (n : Nat) (F : List Int) : Prop := ∀ wx : World, (∀ k, base ≤ k → k < w.heap.size → wx.heap[k]? = w.heap[k]?) → w.heap.size ≤ wx.heap.size → RdI wx v n F
theorem heldI_nil (base : Nat) (w : World) : HeldI base w (.slice none 0 0) 0 [] := fun _ _ _ => .inl ⟨none, 0, rfl, fun _ => rfl, rfl, rfl⟩
theorem heldI_mono {base : Nat} {w w' : World} {v : Value} {n : Nat} {F : List Int} (h : HeldI base w v n F) (hb : Below w.heap.size w w') : HeldI base w' v n F := fun wx h1 h2 =>
  h wx (fun k k1 k2 => (h1 k k1 (Nat.lt_of_lt_of_le k2 hb.size)).trans (hb.block k k2)) (Nat.le_trans hb.size h2)
theorem heldI_lower {base B : Nat} {w : World} {v : Value} {n : Nat} {F : List Int} (h : HeldI B w v n F) (hb : base ≤ B) : HeldI base w v n F := fun wx h1 h2 => h wx (fun k k1 k2 => h1 k (Nat.le_trans hb k1) k2) h2
end YtfaojjleapenaabGreatDoor
end Go
namespace Go.Proofs.YtfaojjleapenaabGreatDoor.wir
open Go.RowKit Go.YtfaojjleapenaabGreatDoor
set_option linter.unusedVariables false
theorem heldI_row {w : World} {g : Nat} {F : List Int} {E : TypeId} (hg : w.heap[g]? = some (.cells (u8s F) E (0, 0))) (n : Nat) (hF : F.length = 32 * n) (hn : n ≤ 1000000) {B : Nat} (hB : B ≤ g) : HeldI B w (.slice (some ⟨g, 0, none⟩) n n) n F := fun wx h1 h2 =>
  rdI_row ((h1 g hB (Array.getElem?_eq_some_iff.1 hg).1).trans hg) n hF hn
end Go.Proofs.YtfaojjleapenaabGreatDoor.wir

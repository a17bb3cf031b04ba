/- Layer 6: an operation is copied, signed and verified: contracts of package op. Layer 6: an operation is signed: contract of package op. Layer 6: the examples hold: the laws' own alive. Layer 6: OpSigned's walk. Layer 6: OpSigned's walk: a great operation. -/
import Derived.Test.YtnknkiiikeefgaaGreatDoorQ13
import Derived.Test.YtnknkiiikeefgaaGreatDoorS03c
import Derived.Test.YtnknkiiikeefgaaGreatDoorS03f
namespace Go.Proofs.YtnknkiiikeefgaaGreatDoor.wir.val
open Go.RowKit Go.YtnknkiiikeefgaaGreatDoor
set_option linter.unusedVariables false
theorem ownI_any (w : World) (B : Nat) : OwnI B 24 w (.slice none 0 0) 0 [] := OwnI.nil w B _
set_option maxHeartbeats 4000000 in
set_option maxRecDepth 100000 in
theorem copied_any (o : Od) (hn : o.n ≤ 20) (hk : o.key.size ≤ 1000000) (hv : o.v.s.size ≤ 1000000) (pv : Value) (w : World) (hp : RdI w pv o.n o.F) :
    Calls Tryz.prog 89 #[.agg (o.c pv)] w fun e w' => ∃ qv, e = .returned (.agg (o.c qv)) ∧ OwnI w.heap.size 24 w' qv o.n o.F ∧ Below w.heap.size w w' := by
  obtain ⟨W, hW⟩ : ∃ W, W = (w.alloc (.cells (o.c pv) 35)).alloc (.cells (zO.c (.slice none 0 0)) 35) := ⟨_, rfl⟩
  have hr0 : W.heap[w.heap.size]? = some (.cells (o.c pv) 35 (0, 0)) := by rw [hW]; exact rowB (heap_alloc_new w _) (below_a _ _) (by simp)
  have hr1 : W.heap[w.heap.size + 1]? = some (.cells (zO.c (.slice none 0 0)) 35 (0, 0)) := by rw [hW]; exact hn2 w _ _
  have hb0 : Below w.heap.size w W := by rw [hW]; exact ((Below.refl w.heap.size w).alloc (Nat.le_refl _) _).alloc (by simp) _
  obtain ⟨pa, pc, rfl⟩ := hp.slice
  have hb1 := Lib.hid hb0
  have hrow := Lib.hid hr0
  have hres := Lib.hid hr1
  have hlt := Lib.hid (Array.getElem?_eq_some_iff.1 hr0).1
  have hlt1 := Lib.hid (Array.getElem?_eq_some_iff.1 hr1).1
  have hp1 := Lib.hid (hp.mono hb0)
  have hc1 : W.cell? ⟨w.heap.size, 1, none⟩ = some (.slice pa o.n pc) := by rw [cell_of_row _ _ _ _ _ _ hr0]; rfl
  have hcl1 := Lib.hid (fun wz => clone_any o.key hk wz)
  have hcl2 := Lib.hid (fun wz => clone_any o.v.s hv wz)
  clear hr0 hr1 hb0 hp
  go_enter Tryz.func89, Tryz.ntmps89
  go_upto_region 1 with fail
  change Code.wp _ _ _ _ ((w.alloc (.cells (o.c (.slice pa o.n pc)) 35)).alloc (.cells (zO.c (.slice none 0 0)) 35))
  rw [← hW]
  clear hW
  go_wp2_with (refine appendIs rfl _ _ 26 rfl W.heap.size 24 Tryz.underlying26 (by kernel_rfl) _ rfl 0 [] (ownI_any W _) _ rfl o.n o.F hp1.out (by omega) (Nat.le_refl _) ?_)
  intro v2 w2 h1 h2
  have hB2 := Lib.hid ((ownI_any W W.heap.size).below h2 (Nat.le_refl _))
  have hq0 := Lib.hid (show OwnI W.heap.size 24 w2 v2 o.n o.F by simpa using h1)
  obtain ⟨qa, qc, rfl⟩ := hq0.out.rd.slice
  have hr2 := Lib.hid (rowB hrow.out hB2.out hlt.out)
  have hs2 := Lib.hid (rowB hres.out hB2.out hlt1.out)
  have f1 := frozen_of_row w2 w.heap.size 1 _ _ hr2.out
  have k1 : w2.cell? ⟨w.heap.size, 1, none⟩ = some (.slice pa o.n pc) := by rw [cell_of_row _ _ _ _ _ _ hr2.out]; rfl
  have hset := Lib.hid (show w2.setCell ⟨w.heap.size, 1, none⟩ (.slice qa o.n qc) = w2.setRow w.heap.size (o.c (.slice qa o.n qc)) from setCell_eq hr2.out 1 (.slice qa o.n qc))
  clear h1 h2
  refine Stop.go ?_
  go_upto_region 2 with fail
  rw [hset.out]
  have hr3 := Lib.hid (setRow_heap w2 w.heap.size _ (o.c (.slice qa o.n qc)) _ _ hr2.out)
  have hs3 := Lib.hid ((setRow_other w2 w.heap.size (w.heap.size + 1) (o.c (.slice qa o.n qc)) (by omega)).trans hs2.out)
  have hB3 := Lib.hid (show Below w.heap.size w (w2.setRow w.heap.size (o.c (.slice qa o.n qc))) from below_setRow' (hb1.out.trans (hB2.out.mono hb1.out.size)) (Nat.le_refl _) _)
  have hq := Lib.hid (ownI_setRow hq0.out hlt.out (o.c (.slice qa o.n qc)))
  clear hset hq0 f1 k1 hr2 hs2 hB2 hc1 hp1 hrow hres
  generalize w2.setRow w.heap.size (o.c (.slice qa o.n qc)) = w3 at *
  have c4 : w3.cell? ⟨w.heap.size, 4, none⟩ = some (.string o.key) := by rw [cell_of_row _ _ _ _ _ _ hr3.out]; rfl
  go_upto_region 3 with (go_at_call 100; (with_reducible refine (hcl1.out _).mono ?_); rintro e w4 ⟨rfl, q2⟩; replace hr3 := Lib.hid (rowB hr3.out q2 (Array.getElem?_eq_some_iff.1 hr3.out).1); replace hs3 := Lib.hid (rowB hs3.out q2 (Array.getElem?_eq_some_iff.1 hs3.out).1); replace hq := Lib.hid (hq.out.kept q2); replace hB3 := Lib.hid (hB3.out.trans (Below.mono q2 hB3.out.size)); have hsame := Lib.hid (show w4.setCell ⟨w.heap.size, 4, none⟩ (.string o.key) = w4 from (setCell_eq hr3.out 4 (.string o.key)).trans (setRow_self w4 w.heap.size (o.c (.slice qa o.n qc)) _ _ hr3.out)); have f1 := frozen_of_row w4 w.heap.size 4 _ _ hr3.out; have k1 := (cell_of_row w4 w.heap.size 4 _ _ _ hr3.out); clear q2)
  rw [hsame.out]
  clear c4 hsame f1 k1
  have c8 : w4.cell? ⟨w.heap.size, 8, none⟩ = some (.string o.v.s) := by rw [cell_of_row _ _ _ _ _ _ hr3.out]; rfl
  go_upto_region 4 with (go_at_call 100; (with_reducible refine (hcl2.out _).mono ?_); rintro e w4 ⟨rfl, q2⟩; replace hr3 := Lib.hid (rowB hr3.out q2 (Array.getElem?_eq_some_iff.1 hr3.out).1); replace hs3 := Lib.hid (rowB hs3.out q2 (Array.getElem?_eq_some_iff.1 hs3.out).1); replace hq := Lib.hid (hq.out.kept q2); replace hB3 := Lib.hid (hB3.out.trans (Below.mono q2 hB3.out.size)); have hsame := Lib.hid (show w4.setCell ⟨w.heap.size, 8, none⟩ (.string o.v.s) = w4 from (setCell_eq hr3.out 8 (.string o.v.s)).trans (setRow_self w4 w.heap.size (o.c (.slice qa o.n qc)) _ _ hr3.out)); have f1 := frozen_of_row w4 w.heap.size 8 _ _ hr3.out; have k1 := (cell_of_row w4 w.heap.size 8 _ _ _ hr3.out); clear q2)
  rw [hsame.out]
  clear c8 hsame f1 k1
  go_wp2_with (first
    | (refine wpList_load_row_g rfl 35 _ rfl w.heap.size rfl 35 (o.c (.slice qa o.n qc)) (0, 0) _ hr3.out Tryz.underlying35 rfl info_op ?_)
    | (refine wpList_store_row rfl 35 _ _ rfl (w.heap.size + 1) (o.c (.slice qa o.n qc)) rfl rfl 35 _ hs3.out info_op rfl (op_one _ _ _ _) ?_))
  exact bodyPost_ret (results_cell_row rfl _ _ (w.heap.size + 1) 35 _ _ _ rfl (setRow_heap _ _ _ _ _ _ hs3.out) Tryz.underlying35 rfl info_op) rfl ⟨_, rfl, (ownI_setRow hq.out hlt1.out _).mono hb1.out.size, below_setRow' hB3.out (by omega) _⟩
/-- What Verify answers. -/
def verO (o : Od) : Int := if chkO o = 0 then (if rightB o.au (msgB o) o.s o.e then 0 else 22) else chkO o
theorem chk_in {o : Od} (h : chkO o = 0) : grp.inG o.au = true := by
  unfold chkO at h
  by_cases h1 : 4 < o.n
  · rw [if_pos h1] at h; omega
  · rw [if_neg h1] at h
    by_cases h2 : riseF o.F o.n = true
    · rw [if_pos h2] at h
      by_cases h3 : okO o = true
      · unfold okO at h3
        simp only [Bool.and_eq_true] at h3
        exact h3.1
      · rw [if_neg h3] at h; omega
    · rw [if_neg h2] at h; omega
set_option maxHeartbeats 4000000 in
set_option maxRecDepth 100000 in
theorem opVerify_any (o : Od) (fo : o.Fit) (pv : Value) (w : World) (hp : RdI w pv o.n o.F) (hG : GlobW w) :
    Calls Tryz.prog 22 #[.agg (o.c pv)] w fun e w' => e = .returned (.int .i64 (verO o)) ∧ Below w.heap.size w w' := by
  obtain ⟨W, hW⟩ : ∃ W, W = w.alloc (.cells (o.c pv) 35) := ⟨_, rfl⟩
  have hr0 := heap_alloc_new w (.cells (o.c pv) 35)
  have hb0 := (Below.refl w.heap.size w).alloc (Nat.le_refl _) (.cells (o.c pv) 35)
  rw [← hW] at hr0 hb0
  have hlF := hp.len
  obtain ⟨pa, pc, rfl⟩ := hp.slice
  have hb1 := Lib.hid hb0
  have hlt := (Array.getElem?_eq_some_iff.1 hr0).1
  have hrows := Lib.hid (fun (wz : World) (h : Below W.heap.size W wz) => rowB hr0 h hlt)
  have hS := Lib.hid (fun (wz : World) (h : Below W.heap.size W wz) => cellsO (rowB hr0 h hlt))
  have hK := Lib.hid (fun (wz : World) (hb : Below W.heap.size W wz) => opCheck_any o fo (.slice pa o.n pc) wz ((hp.mono hb0).mono hb))
  by_cases h0 : chkO o = 0
  · have e := Lib.hid (show verO o = if rightB o.au (msgB o) o.s o.e then 0 else 22 by unfold verO; rw [if_pos h0])
    rw [h0] at hK
    have z := chk_zero h0
    have hM := Lib.hid (fun (wz : World) (hb : Below W.heap.size W wz) => message_any o fo z.1 z.2.1 z.2.2 (.slice pa o.n pc) wz ((hp.mono hb0).mono hb))
    have hV := Lib.hid (fun (wz : World) (v : Value) (hb : Below W.heap.size W wz) (hv : RdB wz v (msgB o)) => verify_any o.au (chk_in h0) o.s o.e fo.s fo.e v (msgB o) wz hv (msgB_bytes o fo z.1 z.2.2) (Nat.le_trans (msgB_short o fo z.1 hlF z.2.2) (by decide)) ((hG.mono hb0).mono hb))
    rw [e.out]
    generalize (if rightB o.au (msgB o) o.s o.e then (0 : Int) else 22) = R at *
    clear e hr0 hb0 hp fo h0 z hG hlF
    go_enter Tryz.func22, Tryz.ntmps22
    go_upto_region 1 with fail
    rw [← hW]
    clear hW
    have hB := Lib.hid (Below.refl W.heap.size W)
    go_upto_region 4 with (first | (refine wpList_load_row_g rfl 35 _ rfl w.heap.size rfl 35 (o.c (.slice pa o.n pc)) (0, 0) _ (hrows.out _ hB.out) Tryz.underlying35 rfl info_op ?_) | (go_at_call 56; (with_reducible refine (hK.out _ hB.out).mono ?_); rintro e w3 ⟨rfl, h3⟩; replace hB := Lib.hid (hB.out.trans (h3.mono hB.out.size)); clear h3))
    replace hB := Lib.hid (show Below W.heap.size W w3.drew from hB.out.drew)
    have hcc := Lib.hid (show ∀ (wz : World) (h : Below W.heap.size W wz), (fun wz => wz.cell? ⟨w.heap.size, 0, none⟩ = some (.int .u32 (o.au : Int)) ∧ wz.cell? ⟨w.heap.size, 1, none⟩ = some (.slice pa o.n pc) ∧ wz.cell? ⟨w.heap.size, 2, none⟩ = some (.int .u64 (o.st : Int)) ∧ wz.cell? ⟨w.heap.size, 3, none⟩ = some (.int .u8 o.k) ∧ wz.cell? ⟨w.heap.size, 4, none⟩ = some (.string o.key) ∧ wz.cell? ⟨w.heap.size, 5, none⟩ = some (.int .u8 o.v.k) ∧ wz.cell? ⟨w.heap.size, 6, none⟩ = some (.int .i64 o.v.n) ∧ wz.cell? ⟨w.heap.size, 7, none⟩ = some (.int .u64 (o.v.b : Int)) ∧ wz.cell? ⟨w.heap.size, 8, none⟩ = some (.string o.v.s) ∧ wz.cell? ⟨w.heap.size, 9, none⟩ = some (.int .u32 (o.e : Int)) ∧ wz.cell? ⟨w.heap.size, 10, none⟩ = some (.int .u32 (o.s : Int))) wz from fun wz h => cells11 (hrows.out wz h))
    obtain ⟨c0, c1, c2, c3, c4, c5, c6, c7, c8, c9, c10⟩ := hcc.out w3.drew hB.out
    simp only [World.cell?_drew] at c0 c1 c2 c3 c4 c5 c6 c7 c8 c9 c10
    go_region_held3 (fun wz => wz.cell? ⟨w.heap.size, 0, none⟩ = some (.int .u32 (o.au : Int)) ∧ wz.cell? ⟨w.heap.size, 1, none⟩ = some (.slice pa o.n pc) ∧ wz.cell? ⟨w.heap.size, 2, none⟩ = some (.int .u64 (o.st : Int)) ∧ wz.cell? ⟨w.heap.size, 3, none⟩ = some (.int .u8 o.k) ∧ wz.cell? ⟨w.heap.size, 4, none⟩ = some (.string o.key) ∧ wz.cell? ⟨w.heap.size, 5, none⟩ = some (.int .u8 o.v.k) ∧ wz.cell? ⟨w.heap.size, 6, none⟩ = some (.int .i64 o.v.n) ∧ wz.cell? ⟨w.heap.size, 7, none⟩ = some (.int .u64 (o.v.b : Int)) ∧ wz.cell? ⟨w.heap.size, 8, none⟩ = some (.string o.v.s) ∧ wz.cell? ⟨w.heap.size, 9, none⟩ = some (.int .u32 (o.e : Int)) ∧ wz.cell? ⟨w.heap.size, 10, none⟩ = some (.int .u32 (o.s : Int))) (first | (exact hcc.out _ hB.out) | go_keep)
      (first
        | (go_at_call 75; (with_reducible refine (hM.out _ hB.out).mono ?_); rintro e w4 ⟨sv, rfl, q1, q2⟩; replace hB := Lib.hid (hB.out.trans (q2.mono hB.out.size)); have hO := Lib.hid q1.rd; obtain ⟨ma, mc, hz⟩ := hO.out.slice; subst hz; clear q1 q2)
        | (go_at_call 74; (with_reducible refine (hV.out _ _ hB.out hO.out).mono ?_); rintro e w5 ⟨rfl, q2⟩; replace hB := Lib.hid (hB.out.trans (q2.mono hB.out.size)); clear q2))
    all_goals
      clear c0 c1 c2 c3 c4 c5 c6 c7 c8 c9 c10
      go_wp2
      go_ret
      exact ⟨rfl, hb1.out.trans (hB.out.mono hb1.out.size)⟩
  · have e := Lib.hid (show verO o = chkO o by unfold verO; rw [if_neg h0])
    rw [e.out]
    generalize chkO o = E at *
    have hE : (E != 0) = true := by simpa using h0
    clear e hr0 hb0 hp fo h0 hG hlF
    go_enter Tryz.func22, Tryz.ntmps22
    go_upto_region 1 with fail
    rw [← hW]
    clear hW
    have hB := Lib.hid (Below.refl W.heap.size W)
    go_wp2_with (first | (refine wpList_load_row_g rfl 35 _ rfl w.heap.size rfl 35 (o.c (.slice pa o.n pc)) (0, 0) _ (hrows.out _ hB.out) Tryz.underlying35 rfl info_op ?_) | (go_at_call 56; (with_reducible refine (hK.out _ hB.out).mono ?_); rintro e w3 ⟨rfl, h3⟩; replace hB := Lib.hid (hB.out.trans (h3.mono hB.out.size)); clear h3))
    go_ret
    exact ⟨rfl, hb1.out.trans (hB.out.mono hb1.out.size)⟩
end Go.Proofs.YtnknkiiikeefgaaGreatDoor.wir.val
namespace Go.Proofs.YtnknkiiikeefgaaGreatDoor.wir.val
open Go.RowKit Go.YtnknkiiikeefgaaGreatDoor
set_option linter.unusedVariables false
def Od.byA (o : Od) (y : Nat) : Od := { o with au := y }
def Od.sigd (o : Od) (y e s : Nat) : Od := { o with au := y, e := e, s := s }
theorem set_au {w : World} {g : Nat} {o : Od} {pv : Value} (h : w.heap[g]? = some (.cells (o.c pv) 35 (0, 0))) (y : Nat) :
    w.setCell ⟨g, 0, none⟩ (.int .u32 (y : Int)) = w.setRow g ((o.byA y).c pv) := setCell_eq h 0 _
theorem set_es {w : World} {g : Nat} {o : Od} {pv : Value} (y e s : Nat) (h : w.heap[g]? = some (.cells ((o.byA y).c pv) 35 (0, 0))) :
    (w.setCell ⟨g, 9, none⟩ (.int .u32 (e : Int))).setCell ⟨g, 10, none⟩ (.int .u32 (s : Int)) = w.setRow g ((o.sigd y e s).c pv) := set_sig h e s
theorem fit_by {o : Od} (h : o.Fit) (y : Nat) (hy : y < 4294967296) : (o.byA y).Fit := ⟨hy, h.F, h.n, h.st, h.k, h.key, h.v, h.e, h.s⟩
set_option maxHeartbeats 4000000 in
set_option maxRecDepth 100000 in
theorem opSign_arg (a : Nat) (h : ¬ (1 ≤ a ∧ a < 500000003)) (o : Od) (pv : Value) (w : World) (hp : RdI w pv o.n o.F) :
    Calls Tryz.prog 55 #[.int .u32 (a : Int), .agg (o.c pv)] w fun e w' => e = .returned (.tuple #[.agg (zO.c (.slice none 0 0)), .int .i64 2]) ∧ Below w.heap.size w w' := by
  obtain ⟨W, hW⟩ : ∃ W, W = (w.alloc (.cells (o.c pv) 35)).alloc (.cells (zO.c (.slice none 0 0)) 35) := ⟨_, rfl⟩
  have hr0 : W.heap[w.heap.size]? = some (.cells (o.c pv) 35 (0, 0)) := by rw [hW]; exact rowB (heap_alloc_new w _) (below_a _ _) (by simp)
  have hr1 : W.heap[w.heap.size + 1]? = some (.cells (zO.c (.slice none 0 0)) 35 (0, 0)) := by rw [hW]; exact hn2 w _ _
  have hb0 : Below w.heap.size w W := by rw [hW]; exact ((Below.refl w.heap.size w).alloc (Nat.le_refl _) _).alloc (by simp) _
  obtain ⟨pa, pc, rfl⟩ := hp.slice
  have hb1 := Lib.hid hb0
  have hrow := Lib.hid hr0
  have hres := Lib.hid hr1
  have hlt := Lib.hid (Array.getElem?_eq_some_iff.1 hr0).1
  have hlt1 := Lib.hid (Array.getElem?_eq_some_iff.1 hr1).1
  have hp1 := Lib.hid (hp.mono hb0)
  have hP := Lib.hid (fun wz => public_bad a h wz)
  clear hr0 hr1 hb0 hp h
  go_enter Tryz.func55, Tryz.ntmps55
  go_upto_region 1 with fail
  change Code.wp _ _ _ _ ((w.alloc (.cells (o.c (.slice pa o.n pc)) 35)).alloc (.cells (zO.c (.slice none 0 0)) 35))
  rw [← hW]
  clear hW
  go_wp2_with (first
    | (go_at_call 87; (with_reducible refine (hP.out _).mono ?_); rintro e w3 ⟨rfl, rfl⟩)
    | (refine storeOver _ (w.heap.size + 1) _ rfl 35 _ _ rfl (zO.c (.slice none 0 0)) 35 hres.out rfl rfl info_op rfl (op_one _ _ _ _) ?_; intro w5 hr5 hb5; have hr5' := Lib.hid hr5; have hb5' := Lib.hid hb5; clear hr5 hb5))
  exact bodyPost_ret (results_row_tmp rfl _ _ (w.heap.size + 1) 35 _ _ _ rfl hr5'.out Tryz.underlying35 rfl info_op) rfl ⟨rfl, hb1.out.trans (hb5'.out.mono (by omega))⟩
set_option maxHeartbeats 8000000 in
set_option maxRecDepth 100000 in
theorem opSign_bad (a : Nat) (h : 1 ≤ a ∧ a < 500000003) (o : Od) (fo : o.Fit) (pv : Value) (w : World) (hp : RdI w pv o.n o.F) (h0 : chkO (o.byA (grp.pw 4 a)).bare ≠ 0) :
    Calls Tryz.prog 55 #[.int .u32 (a : Int), .agg (o.c pv)] w fun e w' => e = .returned (.tuple #[.agg (zO.c (.slice none 0 0)), .int .i64 (chkO (o.byA (grp.pw 4 a)).bare)]) ∧ Below w.heap.size w w' := by
  obtain ⟨W, hW⟩ : ∃ W, W = (w.alloc (.cells (o.c pv) 35)).alloc (.cells (zO.c (.slice none 0 0)) 35) := ⟨_, rfl⟩
  have hr0 : W.heap[w.heap.size]? = some (.cells (o.c pv) 35 (0, 0)) := by rw [hW]; exact rowB (heap_alloc_new w _) (below_a _ _) (by simp)
  have hr1 : W.heap[w.heap.size + 1]? = some (.cells (zO.c (.slice none 0 0)) 35 (0, 0)) := by rw [hW]; exact hn2 w _ _
  have hb0 : Below w.heap.size w W := by rw [hW]; exact ((Below.refl w.heap.size w).alloc (Nat.le_refl _) _).alloc (by simp) _
  obtain ⟨pa, pc, rfl⟩ := hp.slice
  have hb1 := Lib.hid hb0
  have hrow := Lib.hid hr0
  have hres := Lib.hid hr1
  have hlt := Lib.hid (Array.getElem?_eq_some_iff.1 hr0).1
  have hlt1 := Lib.hid (Array.getElem?_eq_some_iff.1 hr1).1
  have hp1 := Lib.hid (hp.mono hb0)
  have hP := Lib.hid (fun wz => public_ok a h wz)
  have hpw := Lib.hid hp
  have hlF := Lib.hid hp.len
  generalize hy : grp.pw 4 a = y at *
  have hyu : y < 4294967296 := by rw [← hy]; exact pw_u32 4 a
  have hf0 := frozen_of_row W w.heap.size 0 _ _ hr0
  have hc0 : W.cell? ⟨w.heap.size, 0, none⟩ = some (.int .u32 (o.au : Int)) := by rw [cell_of_row _ _ _ _ _ _ hr0]; rfl
  have hM := Lib.hid (fun (wz : World) (hb : Below w.heap.size w wz) => (opMessage_any (o.byA y) (fit_by fo y hyu) (.slice pa o.n pc) wz (hpw.out.mono hb)).mono (fun e w' hq => show e = .returned (.tuple #[.slice none 0 0, .int .i64 (chkO (o.byA y).bare)]) ∧ Below wz.heap.size wz w' from ⟨by have h1 := hq.1; rw [if_neg h0] at h1; exact h1, hq.2⟩))
  generalize chkO (o.byA y).bare = CE at *
  have hE : (CE != 0) = true := by simpa using h0
  clear hr0 hr1 hb0 hp fo h hy h0
  go_enter Tryz.func55, Tryz.ntmps55
  go_upto_region 1 with fail
  change Code.wp _ _ _ _ ((w.alloc (.cells (o.c (.slice pa o.n pc)) 35)).alloc (.cells (zO.c (.slice none 0 0)) 35))
  rw [← hW]
  clear hW
  go_upto_region 4 with (go_at_call 87; (with_reducible refine (hP.out _).mono ?_); rintro e w3 ⟨rfl, q2⟩; have hB := Lib.hid (hb1.out.trans (Below.mono q2 hb1.out.size)); have hr := Lib.hid (rowB hrow.out q2 hlt.out); have hs := Lib.hid (rowB hres.out q2 hlt1.out); clear q2 hc0 hf0)
  have f0 := frozen_of_row w3 w.heap.size 0 _ _ hr.out
  have d0 : w3.cell? ⟨w.heap.size, 0, none⟩ = some (.int .u32 (o.au : Int)) := by rw [cell_of_row _ _ _ _ _ _ hr.out]; rfl
  have hset := Lib.hid (set_au hr.out y)
  go_upto_region 5 with fail
  rw [hset.out]
  clear hset f0 d0
  replace hs := Lib.hid ((setRow_other w3 w.heap.size (w.heap.size + 1) ((o.byA y).c (.slice pa o.n pc)) (by omega)).trans hs.out)
  replace hr := Lib.hid (setRow_heap w3 w.heap.size _ ((o.byA y).c (.slice pa o.n pc)) _ _ hr.out)
  replace hB := Lib.hid (show Below w.heap.size w (w3.setRow w.heap.size ((o.byA y).c (.slice pa o.n pc))) from below_setRow' hB.out (Nat.le_refl _) _)
  generalize w3.setRow w.heap.size ((o.byA y).c (.slice pa o.n pc)) = w4 at *
  go_wp2_with (first
    | (refine wpList_load_row_g rfl 35 _ rfl w.heap.size rfl 35 ((o.byA y).c (.slice pa o.n pc)) (0, 0) _ hr.out Tryz.underlying35 rfl info_op ?_)
    | (go_at_call 54; (with_reducible refine (hM.out _ hB.out).mono ?_); rintro e w5 ⟨rfl, q2⟩; replace hr := Lib.hid (rowB hr.out q2 (Array.getElem?_eq_some_iff.1 hr.out).1); replace hs := Lib.hid (rowB hs.out q2 (Array.getElem?_eq_some_iff.1 hs.out).1); replace hB := Lib.hid (hB.out.trans (Below.mono q2 hB.out.size)); clear q2)
    | (refine storeOver _ (w.heap.size + 1) _ rfl 35 _ _ rfl (zO.c (.slice none 0 0)) 35 hs.out rfl rfl info_op rfl (op_one _ _ _ _) ?_; intro w6 hr5 hb5; have hr5' := Lib.hid hr5; have hb5' := Lib.hid hb5; clear hr5 hb5))
  exact bodyPost_ret (results_row_tmp rfl _ _ (w.heap.size + 1) 35 _ _ _ rfl hr5'.out Tryz.underlying35 rfl info_op) rfl ⟨rfl, hB.out.trans (hb5'.out.mono (by omega))⟩
set_option maxHeartbeats 8000000 in
set_option maxRecDepth 100000 in
theorem opSign_ok (a : Nat) (h : 1 ≤ a ∧ a < 500000003) (o : Od) (fo : o.Fit) (pv : Value) (w : World) (hp : RdI w pv o.n o.F) (hG : GlobW w) (h0 : chkO (o.byA (grp.pw 4 a)).bare = 0) :
    Calls Tryz.prog 55 #[.int .u32 (a : Int), .agg (o.c pv)] w fun e w' => ∃ qv, e = .returned (.tuple #[.agg ((o.sigd (grp.pw 4 a) (eN a (msgB (o.byA (grp.pw 4 a)))) (sN a (msgB (o.byA (grp.pw 4 a))))).c qv), .int .i64 0]) ∧ RdI w' qv o.n o.F ∧ Below w.heap.size w w' := by
  obtain ⟨W, hW⟩ : ∃ W, W = (w.alloc (.cells (o.c pv) 35)).alloc (.cells (zO.c (.slice none 0 0)) 35) := ⟨_, rfl⟩
  have hr0 : W.heap[w.heap.size]? = some (.cells (o.c pv) 35 (0, 0)) := by rw [hW]; exact rowB (heap_alloc_new w _) (below_a _ _) (by simp)
  have hr1 : W.heap[w.heap.size + 1]? = some (.cells (zO.c (.slice none 0 0)) 35 (0, 0)) := by rw [hW]; exact hn2 w _ _
  have hb0 : Below w.heap.size w W := by rw [hW]; exact ((Below.refl w.heap.size w).alloc (Nat.le_refl _) _).alloc (by simp) _
  obtain ⟨pa, pc, rfl⟩ := hp.slice
  have hb1 := Lib.hid hb0
  have hrow := Lib.hid hr0
  have hres := Lib.hid hr1
  have hlt := Lib.hid (Array.getElem?_eq_some_iff.1 hr0).1
  have hlt1 := Lib.hid (Array.getElem?_eq_some_iff.1 hr1).1
  have hp1 := Lib.hid (hp.mono hb0)
  have hP := Lib.hid (fun wz => public_ok a h wz)
  have hpw := Lib.hid hp
  have hlF := Lib.hid hp.len
  generalize hy : grp.pw 4 a = y at *
  have hyu : y < 4294967296 := by rw [← hy]; exact pw_u32 4 a
  have hf0 := frozen_of_row W w.heap.size 0 _ _ hr0
  have hc0 : W.cell? ⟨w.heap.size, 0, none⟩ = some (.int .u32 (o.au : Int)) := by rw [cell_of_row _ _ _ _ _ _ hr0]; rfl
  have hM := Lib.hid (fun (wz : World) (hb : Below w.heap.size w wz) => (opMessage_any (o.byA y) (fit_by fo y hyu) (.slice pa o.n pc) wz (hpw.out.mono hb)).mono (fun e w' hq => show ∃ sv, e = .returned (.tuple #[sv, .int .i64 0]) ∧ RdB w' sv (msgB (o.byA y)) ∧ Below wz.heap.size wz w' from by have h1 := hq.1; rw [if_pos h0] at h1; obtain ⟨sv, h2, h3⟩ := h1; exact ⟨sv, h2, h3.rd, hq.2⟩))
  have hSg := Lib.hid (fun (wz : World) (v : Value) (hb : Below w.heap.size w wz) (hv : RdB wz v (msgB (o.byA y))) => sign_ok a h v (msgB (o.byA y)) wz hv (msgB_bytes (o.byA y) (fit_by fo y hyu) (chk_zero h0).1 (chk_zero h0).2.2) (Nat.le_trans (msgB_short (o.byA y) (fit_by fo y hyu) (chk_zero h0).1 hlF.out (chk_zero h0).2.2) (by decide)) (hG.mono hb))
  have hn20 : o.n ≤ 20 := Nat.le_trans (chk_zero h0).1 (by decide)
  have hCp := Lib.hid (fun (e s : Nat) (wz : World) (hb : Below w.heap.size w wz) => copied_any (o.sigd y e s) hn20 fo.key fo.v.s (.slice pa o.n pc) wz (hpw.out.mono hb))
  have hml := Lib.hid (show ∃ N, (msgB (o.byA y)).length = N from ⟨_, rfl⟩)
  generalize eN a (msgB (o.byA y)) = E at *
  generalize sN a (msgB (o.byA y)) = S at *
  generalize msgB (o.byA y) = MB at *
  clear hr0 hr1 hb0 hp fo hG h hy h0 hn20 hlF
  go_enter Tryz.func55, Tryz.ntmps55
  go_upto_region 1 with fail
  change Code.wp _ _ _ _ ((w.alloc (.cells (o.c (.slice pa o.n pc)) 35)).alloc (.cells (zO.c (.slice none 0 0)) 35))
  rw [← hW]
  clear hW
  go_upto_region 4 with (go_at_call 87; (with_reducible refine (hP.out _).mono ?_); rintro e w3 ⟨rfl, q2⟩; have hB := Lib.hid (hb1.out.trans (Below.mono q2 hb1.out.size)); have hr := Lib.hid (rowB hrow.out q2 hlt.out); have hs := Lib.hid (rowB hres.out q2 hlt1.out); clear q2 hc0 hf0)
  have f0 := frozen_of_row w3 w.heap.size 0 _ _ hr.out
  have d0 : w3.cell? ⟨w.heap.size, 0, none⟩ = some (.int .u32 (o.au : Int)) := by rw [cell_of_row _ _ _ _ _ _ hr.out]; rfl
  have hset := Lib.hid (set_au hr.out y)
  go_upto_region 5 with fail
  rw [hset.out]
  clear hset f0 d0
  replace hs := Lib.hid ((setRow_other w3 w.heap.size (w.heap.size + 1) ((o.byA y).c (.slice pa o.n pc)) (by omega)).trans hs.out)
  replace hr := Lib.hid (setRow_heap w3 w.heap.size _ ((o.byA y).c (.slice pa o.n pc)) _ _ hr.out)
  replace hB := Lib.hid (show Below w.heap.size w (w3.setRow w.heap.size ((o.byA y).c (.slice pa o.n pc))) from below_setRow' hB.out (Nat.le_refl _) _)
  generalize w3.setRow w.heap.size ((o.byA y).c (.slice pa o.n pc)) = w4 at *
  go_upto_region 8 with (first
    | (refine wpList_load_row_g rfl 35 _ rfl w.heap.size rfl 35 ((o.byA y).c (.slice pa o.n pc)) (0, 0) _ hr.out Tryz.underlying35 rfl info_op ?_)
    | (go_at_call 54; (with_reducible refine (hM.out _ hB.out).mono ?_); rintro e w5 ⟨sv, rfl, q1, q2⟩; replace hr := Lib.hid (rowB hr.out q2 (Array.getElem?_eq_some_iff.1 hr.out).1); replace hs := Lib.hid (rowB hs.out q2 (Array.getElem?_eq_some_iff.1 hs.out).1); replace hB := Lib.hid (hB.out.trans (Below.mono q2 hB.out.size)); have hO := Lib.hid q1; obtain ⟨ma, mc, hz⟩ := hO.out.slice; subst hz; clear q1 q2))
  go_wp2_with (go_at_call 88; (with_reducible refine (hSg.out _ _ hB.out hO.out).mono ?_); rintro e w6 ⟨rfl, q2⟩; replace hr := Lib.hid (rowB hr.out q2 (Array.getElem?_eq_some_iff.1 hr.out).1); replace hs := Lib.hid (rowB hs.out q2 (Array.getElem?_eq_some_iff.1 hs.out).1); replace hB := Lib.hid (hB.out.trans (Below.mono q2 hB.out.size)); have g9 := frozen_of_row w6 w.heap.size 9 _ _ hr.out; have g10 := frozen_of_row w6 w.heap.size 10 _ _ hr.out; have hx := (cellsO hr.out); have x9 := hx.2.2.2.2.2.1; have x10 := hx.2.2.2.2.2.2; have hset := Lib.hid (set_es (o := o) y E S hr.out); clear q2 hx; refine Stop.go'' _ ?_)
  refine StopP.go ?_
  go_upto_region 9 with fail
  rw [hset.out]
  clear hset g9 g10 x9 x10
  replace hs := Lib.hid ((setRow_other w6 w.heap.size (w.heap.size + 1) ((o.sigd y E S).c (.slice pa o.n pc)) (by omega)).trans hs.out)
  replace hr := Lib.hid (setRow_heap w6 w.heap.size _ ((o.sigd y E S).c (.slice pa o.n pc)) _ _ hr.out)
  replace hB := Lib.hid (show Below w.heap.size w (w6.setRow w.heap.size ((o.sigd y E S).c (.slice pa o.n pc))) from below_setRow' hB.out (Nat.le_refl _) _)
  generalize w6.setRow w.heap.size ((o.sigd y E S).c (.slice pa o.n pc)) = w7 at *
  have hl7 := Lib.hid (Array.getElem?_eq_some_iff.1 hs.out).1
  go_wp2_with (first
    | (refine wpList_load_row_g rfl 35 _ rfl w.heap.size rfl 35 ((o.sigd y E S).c (.slice pa o.n pc)) (0, 0) _ hr.out Tryz.underlying35 rfl info_op ?_)
    | (go_at_call 89; (with_reducible refine (hCp.out E S _ hB.out).mono ?_); rintro e w8 ⟨qv, rfl, q1, q2⟩; replace hr := Lib.hid (rowB hr.out q2 (Array.getElem?_eq_some_iff.1 hr.out).1); replace hs := Lib.hid (rowB hs.out q2 (Array.getElem?_eq_some_iff.1 hs.out).1); replace hB := Lib.hid (hB.out.trans (Below.mono q2 hB.out.size)); have hq := Lib.hid q1; obtain ⟨qa, qc, hz⟩ := hq.out.rd.slice; subst hz; clear q1 q2)
    | (refine wpList_store_row rfl 35 _ _ rfl (w.heap.size + 1) ((o.sigd y E S).c (.slice qa o.n qc)) rfl rfl 35 _ hs.out info_op rfl (op_one (o.sigd y E S) _ _ _) ?_))
  exact bodyPost_ret (results_row_tmp rfl _ _ (w.heap.size + 1) 35 _ _ _ rfl (setRow_heap _ _ _ _ _ _ hs.out) Tryz.underlying35 rfl info_op) rfl ⟨_, rfl, (ownI_setRow hq.out hl7.out _).rd, below_setRow' hB.out (by omega) _⟩
end Go.Proofs.YtnknkiiikeefgaaGreatDoor.wir.val
namespace Go.Proofs.YtnknkiiikeefgaaGreatDoor.wir.val
open Go.RowKit Go.YtnknkiiikeefgaaGreatDoor
set_option linter.unusedVariables false
/-- The operation of the examples. -/
def gO : Od := ⟨4, 0, [], 7, 2, ⟨#[97]⟩, ⟨0, 0, 0, ⟨#[]⟩⟩, 5, 6⟩
theorem gO_fit : gO.Fit := ⟨by decide, bytes_nil, by decide, by decide, by decide, by decide, ⟨by decide, by decide, by decide, by decide⟩, by decide, by decide⟩
theorem gO_rd (w : World) : RdI w (.slice none 0 0) gO.n gO.F := .inl ⟨none, 0, rfl, fun _ => rfl, rfl, rfl⟩
theorem gO_rest : (decide ((gO.st : Int) ≤ 1000000000000) && (actB gO.k gO.key gO.v && sigB (gO.e : Int) (gO.s : Int))) = true := by decide +kernel
theorem gO_act : actB gO.k gO.key gO.v = true := by decide +kernel
theorem gO_ok2 : (decide ((gO.st : Int) ≤ 1000000000000) && actB gO.k gO.key gO.v) = true := by decide +kernel
theorem okO_of (o : Od) (h1 : grp.inG o.au = true) (h2 : (decide ((o.st : Int) ≤ 1000000000000) && actB o.k o.key o.v) = true) (h3 : sigB (o.e : Int) (o.s : Int) = true) : okO o = true := by
  unfold okO
  rw [h1, h3, Bool.and_true, h2]; rfl
theorem gO_sig : sigB 5 6 = true := by decide +kernel
theorem gO_sig0 : sigB 0 0 = true := by decide +kernel
theorem gO_chk : chkO gO = 0 := chk_ok (by decide) rfl (okO_of gO grp.in4 gO_ok2 gO_sig)
theorem gO_bare : chkO gO.bare = 0 := chk_ok (by decide) rfl (okO_of gO.bare grp.in4 gO_ok2 gO_sig0)
theorem gO_msg : msgB gO = [111, 4, 0, 7, 2, 1, 97] := by decide +kernel
theorem gO_enc : encO gO = [111, 4, 0, 7, 2, 1, 97, 5, 6] := by decide +kernel
theorem gW_chk : chkO (gO.byA 5) = 8 := chk_bad (by decide) rfl (by unfold okO; rw [show grp.inG (gO.byA 5).au = false from grp.in5]; exact Bool.false_and _)
theorem gS_bare : chkO (gO.byA 16).bare = 0 := chk_ok (by decide) rfl (okO_of (gO.byA 16).bare in16 gO_ok2 gO_sig0)
theorem sigB_nat (e s : Nat) (he : e < 500000003) (hs : s < 500000003) : sigB (e : Int) (s : Int) = true := by
  show (decide ((e : Int) < 500000003) && decide ((s : Int) < 500000003)) = true
  rw [← nat_int_lt, ← nat_int_lt, decide_eq_true he, decide_eq_true hs]; rfl
theorem gS_chk (e s : Nat) (he : e < 500000003) (hs : s < 500000003) : chkO (gO.sigd 16 e s) = 0 := chk_ok (show ¬ 4 < 0 by decide) rfl (okO_of (gO.sigd 16 e s) in16 gO_ok2 (sigB_nat e s he hs))
theorem ver_sigd (o : Od) (y e s : Nat) : verO (o.sigd y e s) = if chkO (o.sigd y e s) = 0 then (if rightB y (msgB (o.byA y)) s e then 0 else 22) else chkO (o.sigd y e s) := rfl
theorem ver_zero (o : Od) (y e s : Nat) (h1 : chkO (o.sigd y e s) = 0) (h2 : rightB y (msgB (o.byA y)) s e = true) : verO (o.sigd y e s) = 0 := by
  rw [ver_sigd, if_pos h1, h2]; exact if_pos rfl
theorem gS_right (m : List Int) : rightB 16 m (sN 2 m) (eN 2 m) = true := by
  have h := signed_right 2 m
  rw [pw42] at h
  exact h
theorem opSign_ok' (a y : Nat) (hy : grp.pw 4 a = y) (h : 1 ≤ a ∧ a < 500000003) (o : Od) (fo : o.Fit) (pv : Value) (w : World) (hp : RdI w pv o.n o.F) (hG : GlobW w) (h0 : chkO (o.byA y).bare = 0) :
    Calls Tryz.prog 55 #[.int .u32 (a : Int), .agg (o.c pv)] w fun e w' => ∃ qv, e = .returned (.tuple #[.agg ((o.sigd y (eN a (msgB (o.byA y))) (sN a (msgB (o.byA y)))).c qv), .int .i64 0]) ∧ RdI w' qv o.n o.F ∧ Below w.heap.size w w' := by
  subst hy
  exact opSign_ok a h o fo pv w hp hG h0
/-- What the example's signature is. -/
structure SigG where
  E : Nat
  S : Nat
  sign : ∀ w, GlobW w → Calls Tryz.prog 55 #[.int .u32 2, .agg (gO.c (.slice none 0 0))] w fun e w' => ∃ qv, e = .returned (.tuple #[.agg ((gO.sigd 16 E S).c qv), .int .i64 0]) ∧ RdI w' qv gO.n gO.F ∧ Below w.heap.size w w'
  ver : ∀ w v, GlobW w → RdI w v gO.n gO.F → Calls Tryz.prog 22 #[.agg ((gO.sigd 16 E S).c v)] w fun e w' => e = .returned (.int .i64 0) ∧ Below w.heap.size w w'
theorem fit_sigd {o : Od} (h : o.Fit) (y e s : Nat) (hy : y < 4294967296) (he : e < 500000003) (hs : s < 500000003) : (o.sigd y e s).Fit := ⟨hy, h.F, h.n, h.st, h.k, h.key, h.v, Nat.lt_trans he (by decide), Nat.lt_trans hs (by decide)⟩
theorem ver_of (e s : Nat) (he : e < 500000003) (hs : s < 500000003) (h2 : rightB 16 (msgB (gO.byA 16)) s e = true) (w : World) (v : Value) (hg : GlobW w) (hv : RdI w v gO.n gO.F) : Calls Tryz.prog 22 #[.agg ((gO.sigd 16 e s).c v)] w fun e w' => e = .returned (.int .i64 0) ∧ Below w.heap.size w w' := by
  have h := opVerify_any (gO.sigd 16 e s) (fit_sigd gO_fit 16 e s (by decide) he hs) v w hv hg
  rw [ver_zero gO 16 e s (gS_chk e s he hs) h2] at h
  exact h
theorem mkSig (e s : Nat) (hE : eN 2 (msgB (gO.byA 16)) = e) (hS : sN 2 (msgB (gO.byA 16)) = s) : Nonempty SigG := ⟨{
  E := e
  S := s
  sign := fun w hg => by
    have h := opSign_ok' 2 16 pw42 ⟨by decide, by decide⟩ gO gO_fit (.slice none 0 0) w (gO_rd w) hg gS_bare
    rw [hE, hS] at h
    exact h
  ver := fun w v hg hv => ver_of e s (by rw [← hE]; exact eN_lt _ _) (by rw [← hS]; exact sN_lt _ _) (by have h := gS_right (msgB (gO.byA 16)); rw [hE, hS] at h; exact h) w v hg hv }⟩
theorem sigG : Nonempty SigG := mkSig _ _ rfl rfl
theorem msg_ok (o : Od) (fo : o.Fit) (pv : Value) (w : World) (hp : RdI w pv o.n o.F) (h0 : chkO o.bare = 0) (M : List Int) (hM : msgB o = M) :
    Calls Tryz.prog 54 #[.agg (o.c pv)] w fun e w' => ∃ sv, e = .returned (.tuple #[sv, .int .i64 0]) ∧ RdB w' sv M ∧ Below w.heap.size w w' :=
  (opMessage_any o fo pv w hp).mono (fun e w' hq => by
    have h1 := hq.1
    rw [if_pos h0] at h1
    obtain ⟨sv, h2, h3⟩ := h1
    rw [hM] at h3
    exact ⟨sv, h2, h3.rd, hq.2⟩)
theorem enc_okO (o : Od) (fo : o.Fit) (pv : Value) (w : World) (hp : RdI w pv o.n o.F) (h0 : chkO o = 0) (E : List Int) (hE : encO o = E) :
    Calls Tryz.prog 50 #[.agg (o.c pv)] w fun e w' => ∃ sv, e = .returned (.tuple #[sv, .int .i64 0]) ∧ RdB w' sv E ∧ Below w.heap.size w w' :=
  (opEncode_ok o fo pv w hp h0).mono (fun e w' ⟨sv, h2, h3, h4⟩ => by
    rw [hE] at h3
    exact ⟨sv, h2, h3.rd, h4⟩)
theorem given_any (w : World) : Calls Tryz.prog 57 #[] w fun e w' => e = .returned (.agg (gO.c (.slice none 0 0))) ∧ Below w.heap.size w w' := by
  go_enter Tryz.func57, Tryz.ntmps57
  go_wp2
  exact bodyPost_ret (results_cell_row rfl _ _ w.heap.size 35 _ _ _ rfl (heap_alloc_new w _) Tryz.underlying35 rfl info_op) rfl ⟨rfl, (Below.refl _ _).alloc (Nat.le_refl _) _⟩
set_option maxHeartbeats 8000000 in
set_option maxRecDepth 100000 in
theorem alive6 (w : World) (hG0 : GlobW w) : Calls Tryz.prog 58 #[] w fun e w' => e = .returned (.bool true) ∧ Below w.heap.size w w' := by
  have hG := Lib.hid hG0
  have hS := Lib.hid (Below.refl w.heap.size w)
  have hM := Lib.hid (fun wz => msg_ok gO gO_fit (.slice none 0 0) wz (gO_rd wz) gO_bare _ gO_msg)
  have hE := Lib.hid (fun wz => enc_okO gO gO_fit (.slice none 0 0) wz (gO_rd wz) gO_chk _ gO_enc)
  have hW := Lib.hid (fun wz => opCheck_any (gO.byA 5) (fit_by gO_fit 5 (by decide)) (.slice none 0 0) wz (gO_rd wz))
  rw [gW_chk] at hW
  obtain ⟨⟨E, S, hSg0, hV0⟩⟩ := sigG
  have hSg := Lib.hid hSg0
  have hV := Lib.hid hV0
  clear hG0 hSg0 hV0
  go_enter Tryz.func58, Tryz.ntmps58
  go_upto_region 2 with (first | (go_at_call 57; (with_reducible refine (given_any _).mono ?_); rintro e w4 ⟨rfl, q2⟩; (try replace r5 := Lib.hid (rowB r5.out q2 (Array.getElem?_eq_some_iff.1 r5.out).1)); (try replace r6 := Lib.hid (rowB r6.out q2 (Array.getElem?_eq_some_iff.1 r6.out).1)); (try replace hq := Lib.hid (hq.out.mono q2)); (try replace hG := Lib.hid (hG.out.mono q2)); (try replace x1 := Lib.hid (x1.out.mono q2)); (try replace x3 := Lib.hid (x3.out.mono q2)); replace hS := Lib.hid (hS.out.trans (Below.mono q2 hS.out.size)); clear q2) | (go_at_call 54; (with_reducible refine (hM.out _).mono ?_); rintro e w4 ⟨sv, rfl, q1, q2⟩; (try replace r5 := Lib.hid (rowB r5.out q2 (Array.getElem?_eq_some_iff.1 r5.out).1)); (try replace r6 := Lib.hid (rowB r6.out q2 (Array.getElem?_eq_some_iff.1 r6.out).1)); (try replace hq := Lib.hid (hq.out.mono q2)); (try replace hG := Lib.hid (hG.out.mono q2)); (try replace x1 := Lib.hid (x1.out.mono q2)); (try replace x3 := Lib.hid (x3.out.mono q2)); replace hS := Lib.hid (hS.out.trans (Below.mono q2 hS.out.size)); have x1 := Lib.hid q1; obtain ⟨sx1, tx1, hz4⟩ := x1.out.slice; subst hz4; clear q1 q2))
  go_upto_region 3 with (first | (go_at_call 57; (with_reducible refine (given_any _).mono ?_); rintro e w4 ⟨rfl, q2⟩; (try replace r5 := Lib.hid (rowB r5.out q2 (Array.getElem?_eq_some_iff.1 r5.out).1)); (try replace r6 := Lib.hid (rowB r6.out q2 (Array.getElem?_eq_some_iff.1 r6.out).1)); (try replace hq := Lib.hid (hq.out.mono q2)); (try replace hG := Lib.hid (hG.out.mono q2)); (try replace x1 := Lib.hid (x1.out.mono q2)); (try replace x3 := Lib.hid (x3.out.mono q2)); replace hS := Lib.hid (hS.out.trans (Below.mono q2 hS.out.size)); clear q2) | (go_at_call 50; (with_reducible refine (hE.out _).mono ?_); rintro e w4 ⟨sv, rfl, q1, q2⟩; (try replace r5 := Lib.hid (rowB r5.out q2 (Array.getElem?_eq_some_iff.1 r5.out).1)); (try replace r6 := Lib.hid (rowB r6.out q2 (Array.getElem?_eq_some_iff.1 r6.out).1)); (try replace hq := Lib.hid (hq.out.mono q2)); (try replace hG := Lib.hid (hG.out.mono q2)); (try replace x1 := Lib.hid (x1.out.mono q2)); (try replace x3 := Lib.hid (x3.out.mono q2)); replace hS := Lib.hid (hS.out.trans (Below.mono q2 hS.out.size)); have x3 := Lib.hid q1; obtain ⟨sx3, tx3, hz4⟩ := x3.out.slice; subst hz4; clear q1 q2))
  go_upto_region 4 with (go_at_call 57; (with_reducible refine (given_any _).mono ?_); rintro e w4 ⟨rfl, q2⟩; (try replace r5 := Lib.hid (rowB r5.out q2 (Array.getElem?_eq_some_iff.1 r5.out).1)); (try replace r6 := Lib.hid (rowB r6.out q2 (Array.getElem?_eq_some_iff.1 r6.out).1)); (try replace hq := Lib.hid (hq.out.mono q2)); (try replace hG := Lib.hid (hG.out.mono q2)); (try replace x1 := Lib.hid (x1.out.mono q2)); (try replace x3 := Lib.hid (x3.out.mono q2)); replace hS := Lib.hid (hS.out.trans (Below.mono q2 hS.out.size)); clear q2)
  go_upto_region 5 with fail
  change Code.wp _ _ _ _ (w4.alloc (.cells ((gO.byA 5).c (.slice none 0 0)) 35))
  have q2 := below_a w4 (.cells ((gO.byA 5).c (.slice none 0 0)) 35)
  have r5 := Lib.hid (heap_alloc_new w4 (.cells ((gO.byA 5).c (.slice none 0 0)) 35))
  replace hG := Lib.hid (hG.out.mono q2); replace x1 := Lib.hid (x1.out.mono q2); replace x3 := Lib.hid (x3.out.mono q2); replace hS := Lib.hid (hS.out.trans (Below.mono q2 hS.out.size))
  clear q2
  generalize w4.alloc (.cells ((gO.byA 5).c (.slice none 0 0)) 35) = w5 at *
  generalize w4.heap.size = g5 at *
  go_upto_region 6 with (first | (go_at_call 57; (with_reducible refine (given_any _).mono ?_); rintro e w4 ⟨rfl, q2⟩; (try replace r5 := Lib.hid (rowB r5.out q2 (Array.getElem?_eq_some_iff.1 r5.out).1)); (try replace r6 := Lib.hid (rowB r6.out q2 (Array.getElem?_eq_some_iff.1 r6.out).1)); (try replace hq := Lib.hid (hq.out.mono q2)); (try replace hG := Lib.hid (hG.out.mono q2)); (try replace x1 := Lib.hid (x1.out.mono q2)); (try replace x3 := Lib.hid (x3.out.mono q2)); replace hS := Lib.hid (hS.out.trans (Below.mono q2 hS.out.size)); clear q2) | (go_at_call 55; (with_reducible refine (hSg.out _ hG.out).mono ?_); rintro e w4 ⟨qv, rfl, q1, q2⟩; (try replace r5 := Lib.hid (rowB r5.out q2 (Array.getElem?_eq_some_iff.1 r5.out).1)); (try replace r6 := Lib.hid (rowB r6.out q2 (Array.getElem?_eq_some_iff.1 r6.out).1)); (try replace hq := Lib.hid (hq.out.mono q2)); (try replace hG := Lib.hid (hG.out.mono q2)); (try replace x1 := Lib.hid (x1.out.mono q2)); (try replace x3 := Lib.hid (x3.out.mono q2)); replace hS := Lib.hid (hS.out.trans (Below.mono q2 hS.out.size)); have hq := Lib.hid q1; obtain ⟨qa, qc, hz4⟩ := hq.out.slice; subst hz4; clear q1 q2))
  have q2 := below_a w4 (.cells ((gO.sigd 16 E S).c (.slice qa gO.n qc)) 35)
  have r6 := Lib.hid (heap_alloc_new w4 (.cells ((gO.sigd 16 E S).c (.slice qa gO.n qc)) 35))
  replace r5 := Lib.hid (rowB r5.out q2 (Array.getElem?_eq_some_iff.1 r5.out).1); replace hq := Lib.hid (hq.out.mono q2); replace hG := Lib.hid (hG.out.mono q2); replace x1 := Lib.hid (x1.out.mono q2); replace x3 := Lib.hid (x3.out.mono q2); replace hS := Lib.hid (hS.out.trans (Below.mono q2 hS.out.size))
  clear q2
  change Code.wp _ _ _ _ (w4.alloc (.cells ((gO.sigd 16 E S).c (.slice qa gO.n qc)) 35))
  generalize w4.alloc (.cells ((gO.sigd 16 E S).c (.slice qa gO.n qc)) 35) = w6 at *
  generalize w4.heap.size = g6 at *
  replace x1 := Lib.hid (show RdB w6 (.slice sx1 7 tx1) [111, 4, 0, 7, 2, 1, 97] from x1.out)
  replace x3 := Lib.hid (show RdB w6 (.slice sx3 9 tx3) [111, 4, 0, 7, 2, 1, 97, 5, 6] from x3.out)
  go_wp2_with (first | (go_at_call 46; (with_reducible refine (same_true _ _ [111, 4, 0, 7, 2, 1, 97] _ (by decide) (x1.out.mono (below_a _ (.cells #[.int .u8 111, .int .u8 4, .int .u8 0, .int .u8 7, .int .u8 2, .int .u8 1, .int .u8 97] 5))) (rdB_row (cs := [111, 4, 0, 7, 2, 1, 97]) (heap_alloc_new _ (.cells #[.int .u8 111, .int .u8 4, .int .u8 0, .int .u8 7, .int .u8 2, .int .u8 1, .int .u8 97] 5)) 7 rfl (by decide))).mono ?_); rintro e w7 ⟨rfl, q3⟩; have q2 := (below_a _ (.cells #[.int .u8 111, .int .u8 4, .int .u8 0, .int .u8 7, .int .u8 2, .int .u8 1, .int .u8 97] 5)).trans (Below.mono q3 (by simp)); replace r5 := Lib.hid (rowB r5.out q2 (Array.getElem?_eq_some_iff.1 r5.out).1); replace r6 := Lib.hid (rowB r6.out q2 (Array.getElem?_eq_some_iff.1 r6.out).1); replace hq := Lib.hid (hq.out.mono q2); replace hG := Lib.hid (hG.out.mono q2); replace x1 := Lib.hid (x1.out.mono q2); replace x3 := Lib.hid (x3.out.mono q2); replace hS := Lib.hid (hS.out.trans (Below.mono q2 hS.out.size)); clear q2 q3) | (go_at_call 46; (with_reducible refine (same_true _ _ [111, 4, 0, 7, 2, 1, 97, 5, 6] _ (by decide) (x3.out.mono (below_a _ (.cells #[.int .u8 111, .int .u8 4, .int .u8 0, .int .u8 7, .int .u8 2, .int .u8 1, .int .u8 97, .int .u8 5, .int .u8 6] 5))) (rdB_row (cs := [111, 4, 0, 7, 2, 1, 97, 5, 6]) (heap_alloc_new _ (.cells #[.int .u8 111, .int .u8 4, .int .u8 0, .int .u8 7, .int .u8 2, .int .u8 1, .int .u8 97, .int .u8 5, .int .u8 6] 5)) 9 rfl (by decide))).mono ?_); rintro e w7 ⟨rfl, q3⟩; have q2 := (below_a _ (.cells #[.int .u8 111, .int .u8 4, .int .u8 0, .int .u8 7, .int .u8 2, .int .u8 1, .int .u8 97, .int .u8 5, .int .u8 6] 5)).trans (Below.mono q3 (by simp)); replace r5 := Lib.hid (rowB r5.out q2 (Array.getElem?_eq_some_iff.1 r5.out).1); replace r6 := Lib.hid (rowB r6.out q2 (Array.getElem?_eq_some_iff.1 r6.out).1); replace hq := Lib.hid (hq.out.mono q2); replace hG := Lib.hid (hG.out.mono q2); replace x1 := Lib.hid (x1.out.mono q2); replace x3 := Lib.hid (x3.out.mono q2); replace hS := Lib.hid (hS.out.trans (Below.mono q2 hS.out.size)); clear q2 q3) | (refine wpList_load_row_g rfl 35 _ rfl g5 rfl 35 ((gO.byA 5).c (.slice none 0 0)) (0, 0) _ r5.out Tryz.underlying35 rfl info_op ?_) | (go_at_call 56; (with_reducible refine (hW.out _).mono ?_); rintro e w7 ⟨rfl, q2⟩; replace r5 := Lib.hid (rowB r5.out q2 (Array.getElem?_eq_some_iff.1 r5.out).1); replace r6 := Lib.hid (rowB r6.out q2 (Array.getElem?_eq_some_iff.1 r6.out).1); replace hq := Lib.hid (hq.out.mono q2); replace hG := Lib.hid (hG.out.mono q2); replace x1 := Lib.hid (x1.out.mono q2); replace x3 := Lib.hid (x3.out.mono q2); replace hS := Lib.hid (hS.out.trans (Below.mono q2 hS.out.size)); clear q2; have a6 := (cellsO r6.out).1) | (refine wpList_load_row_g rfl 35 _ rfl g6 rfl 35 ((gO.sigd 16 E S).c (.slice qa gO.n qc)) (0, 0) _ r6.out Tryz.underlying35 rfl info_op ?_) | (go_at_call 22; (with_reducible refine (hV.out _ _ hG.out hq.out).mono ?_); rintro e w8 ⟨rfl, q2⟩; replace r5 := Lib.hid (rowB r5.out q2 (Array.getElem?_eq_some_iff.1 r5.out).1); replace r6 := Lib.hid (rowB r6.out q2 (Array.getElem?_eq_some_iff.1 r6.out).1); replace hq := Lib.hid (hq.out.mono q2); replace hG := Lib.hid (hG.out.mono q2); replace x1 := Lib.hid (x1.out.mono q2); replace x3 := Lib.hid (x3.out.mono q2); replace hS := Lib.hid (hS.out.trans (Below.mono q2 hS.out.size)); clear q2))
  go_ret
  exact ⟨rfl, hS.out⟩
end Go.Proofs.YtnknkiiikeefgaaGreatDoor.wir.val
namespace Go.Proofs.YtnknkiiikeefgaaGreatDoor.wir.val
open Go.RowKit Go.YtnknkiiikeefgaaGreatDoor
set_option linter.unusedVariables false
theorem chk_vals (o : Od) : chkO o = 0 ∨ chkO o = 4 ∨ chkO o = 32 ∨ chkO o = 8 := by
  unfold chkO
  split
  · exact .inr (.inl rfl)
  · split
    · split
      · exact .inl rfl
      · exact .inr (.inr (.inr rfl))
    · exact .inr (.inr (.inl rfl))
theorem chk_parts {o : Od} (h : chkO o = 0) : ¬ 4 < o.n ∧ riseF o.F o.n = true ∧ okO o = true := by
  unfold chkO at h
  by_cases h1 : 4 < o.n
  · rw [if_pos h1] at h; omega
  · rw [if_neg h1] at h
    by_cases h2 : riseF o.F o.n = true
    · rw [if_pos h2] at h
      by_cases h3 : okO o = true
      · exact ⟨h1, h2, h3⟩
      · rw [if_neg h3] at h; omega
    · rw [if_neg h2] at h; omega
theorem okO_parts {o : Od} (h : okO o = true) : grp.inG o.au = true ∧ (decide ((o.st : Int) ≤ 1000000000000) && actB o.k o.key o.v) = true ∧ sigB (o.e : Int) (o.s : Int) = true := by
  unfold okO at h
  rw [Bool.and_eq_true, Bool.and_eq_true, Bool.and_eq_true] at h
  exact ⟨h.1, by rw [Bool.and_eq_true]; exact ⟨h.2.1, h.2.2.1⟩, h.2.2.2⟩
theorem chk_bare {o : Od} (h : chkO o = 0) : chkO o.bare = 0 := by
  obtain ⟨h1, h2, h3⟩ := chk_parts h
  obtain ⟨k1, k2, _⟩ := okO_parts h3
  exact chk_ok (o := o.bare) h1 h2 (okO_of o.bare k1 k2 gO_sig0)
theorem chk_sigd {o : Od} {y e s : Nat} (h : chkO (o.byA y).bare = 0) (he : e < 500000003) (hs : s < 500000003) : chkO (o.sigd y e s) = 0 := by
  obtain ⟨h1, h2, h3⟩ := chk_parts h
  obtain ⟨k1, k2, _⟩ := okO_parts h3
  exact chk_ok (o := o.sigd y e s) h1 h2 (okO_of (o.sigd y e s) k1 k2 (sigB_nat e s he hs))
end Go.Proofs.YtnknkiiikeefgaaGreatDoor.wir.val
namespace Go.Proofs.YtnknkiiikeefgaaGreatDoor.wir.val
open Go.RowKit Go.YtnknkiiikeefgaaGreatDoor
set_option linter.unusedVariables false
theorem raw_fit {o : Od} (fr : o.Raw) (hg : greatB o = false) : o.Fit := by
  have hsz : o.n ≤ 20 ∧ o.key.size ≤ 100 ∧ o.v.s.size ≤ 100 := by
    unfold greatB at hg
    simp only [Bool.or_eq_false_iff, decide_eq_false_iff_not] at hg
    omega
  exact ⟨fr.au, fr.F, by omega, fr.st, fr.k, by omega, ⟨fr.vk, fr.vn, fr.vb, by omega⟩, fr.e, fr.s⟩
end Go.Proofs.YtnknkiiikeefgaaGreatDoor.wir.val

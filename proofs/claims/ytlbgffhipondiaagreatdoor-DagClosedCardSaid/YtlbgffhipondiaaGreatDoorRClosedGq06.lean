/- Texts that the row stands on, part 6. -/
import Derived.Test.YtlbgffhipondiaaGreatDoorRClosedGq05
import Derived.BigRegion
namespace Go.Proofs.YtlbgffhipondiaaGreatDoor
open Go.RowKit Go.YtlbgffhipondiaaGreatDoor
set_option linter.unusedVariables false
namespace grp
theorem signed_made (a K E : Nat) : pw 4 ((K + E * a % 500000003) % 500000003) = pw 4 K * pw (pw 4 a) E % GP := by
  have h4 := ((inG_iff 4).1 in4).2.2
  rw [← pw_rem 4 h4, pw_add, ← pw_rem 4 h4 (E * a), Nat.mul_comm E a, pw_mul]
theorem signed_r (a K E : Nat) : pw 4 ((K + E * a % 500000003) % 500000003) * pw (pw (pw 4 a) E) 500000002 % GP = pw 4 K := by
  have hX := inG_pw (pw 4 a) E (inG_pw 4 a in4)
  have hi := inv_mul _ hX
  have hK := pw_lt 4 K
  rw [signed_made]
  generalize pw (pw 4 a) E = X at *
  generalize pw X 500000002 = I at *
  generalize pw 4 K = k at *
  rw [Nat.mod_mul_mod, Nat.mul_assoc, ← Nat.mul_mod_mod, hi, Nat.mul_one, Nat.mod_eq_of_lt hK]
end grp
theorem signed_right (a : Nat) (m : List Int) : rightB (grp.pw 4 a) m (sN a m) (eN a m) = true := by
  have h1 : eN a m < 500000003 := chalN_lt _ _ _
  have h2 : sN a m < 500000003 := Nat.mod_lt _ (by decide)
  have h3 : rN (grp.pw 4 a) (sN a m) (eN a m) = grp.pw 4 (nonceN a m) := grp.signed_r a (nonceN a m) (eN a m)
  simp only [rightB, h1, h2, h3, decide_true, Bool.true_and]
  exact decide_eq_true rfl
def msg : List Int := [109, 101, 115, 115, 97, 103, 101]
/-- What a world has: a row at a place. -/
def Has (w : World) (g : Nat) (cs : Array Value) (T : TypeId) : Prop := w.heap[g]? = some (.cells cs T (0, 0))
theorem Has.lt {w : World} {g : Nat} {cs : Array Value} {T : TypeId} (h : Has w g cs T) : g < w.heap.size := (Array.getElem?_eq_some_iff.1 h).1
theorem Has.step {w w' : World} {g : Nat} {cs : Array Value} {T : TypeId} (h : Has w g cs T) (hb : Below w.heap.size w w') : Has w' g cs T := (hb.block _ h.lt).trans h
theorem Has.two {w : World} {g : Nat} {a b : Value} {T : TypeId} (h : Has w g #[a, b] T) : w.cell? ⟨g, 0, none⟩ = some a ∧ w.cell? ⟨g, 1, none⟩ = some b := ⟨cell_of_row _ _ _ _ _ _ h, cell_of_row _ _ _ _ _ _ h⟩
def Live (w wz : World) (mv : Value) (g : Nat) (cs : Array Value) : Prop := Below w.heap.size w wz ∧ GlobW wz ∧ RdB wz mv msg ∧ Has wz g cs 33
theorem Live.gl {w wz : World} {mv : Value} {g : Nat} {cs : Array Value} (h : Live w wz mv g cs) : GlobW wz := h.2.1
theorem Live.rd {w wz : World} {mv : Value} {g : Nat} {cs : Array Value} (h : Live w wz mv g cs) : RdB wz mv msg := h.2.2.1
theorem Live.step {w wz wy : World} {mv : Value} {g : Nat} {cs : Array Value} (h : Live w wz mv g cs) (hb : Below wz.heap.size wz wy) : Live w wy mv g cs :=
  ⟨h.1.trans (hb.mono h.1.size), h.2.1.mono hb, h.2.2.1.mono hb, h.2.2.2.step hb⟩
theorem eN_lt (a : Nat) (m : List Int) : eN a m < 500000003 := chalN_lt _ _ _
theorem sN_lt (a : Nat) (m : List Int) : sN a m < 500000003 := Nat.mod_lt _ (by decide)
end Go.Proofs.YtlbgffhipondiaaGreatDoor
namespace Go.Proofs.YtlbgffhipondiaaGreatDoor.wir.val
open Go.RowKit Go.YtlbgffhipondiaaGreatDoor
set_option linter.unusedVariables false
theorem ownI_any (w : World) (B : Nat) : OwnI B 24 w (.slice none 0 0) 0 [] := OwnI.nil w B _
set_option maxHeartbeats 4000000 in
set_option maxRecDepth 100000 in
theorem copied_any (o : Od) (hn : o.n ≤ 20) (hk : o.key.size ≤ 1000000) (hv : o.v.s.size ≤ 1000000) (pv : Value) (w : World) (hp : RdI w pv o.n o.F) :
    Calls Tryz.prog 112 #[.agg (o.c pv)] w fun e w' => ∃ qv, e = .returned (.agg (o.c qv)) ∧ OwnI w.heap.size 24 w' qv o.n o.F ∧ Below w.heap.size w w' := by
  obtain ⟨W, hW⟩ : ∃ W, W = (w.alloc (.cells (o.c pv) 35)).alloc (.cells (zO.c (.slice none 0 0)) 35) := ⟨_, rfl⟩
  have hr0 : W.heap[w.heap.size]? = some (.cells (o.c pv) 35 (0, 0)) := by rw [hW]; exact rowB (heap_alloc_new w _) (below_a _ _) (by simp)
  have hr1 : W.heap[w.heap.size + 1]? = some (.cells (zO.c (.slice none 0 0)) 35 (0, 0)) := by rw [hW]; exact hn2 w _ _
  have hb0 : Below w.heap.size w W := by rw [hW]; exact ((Below.refl w.heap.size w).alloc (Nat.le_refl _) _).alloc (by simp) _
  obtain ⟨pa, pc, rfl⟩ := hp.slice
  have hb1 := Lib.hid hb0
  have hrow := Lib.hid hr0
  have hres := Lib.hid hr1
  have hlt := Lib.hid (Array.getElem?_eq_some_iff.1 hr0).1
  have hlt1 := Lib.hid (Array.getElem?_eq_some_iff.1 hr1).1
  have hp1 := Lib.hid (hp.mono hb0)
  have hc1 : W.cell? ⟨w.heap.size, 1, none⟩ = some (.slice pa o.n pc) := by rw [cell_of_row _ _ _ _ _ _ hr0]; rfl
  have hcl1 := Lib.hid (fun wz => clone_any o.key hk wz)
  have hcl2 := Lib.hid (fun wz => clone_any o.v.s hv wz)
  clear hr0 hr1 hb0 hp
  go_enter Tryz.func112, Tryz.ntmps112
  go_upto_region 1 with fail
  change Code.wp _ _ _ _ ((w.alloc (.cells (o.c (.slice pa o.n pc)) 35)).alloc (.cells (zO.c (.slice none 0 0)) 35))
  rw [← hW]
  clear hW
  go_wp2_with (refine appendIs rfl _ _ 26 rfl W.heap.size 24 Tryz.underlying26 (by kernel_rfl) _ rfl 0 [] (ownI_any W _) _ rfl o.n o.F hp1.out (by omega) (Nat.le_refl _) ?_)
  intro v2 w2 h1 h2
  have hB2 := Lib.hid ((ownI_any W W.heap.size).below h2 (Nat.le_refl _))
  have hq0 := Lib.hid (show OwnI W.heap.size 24 w2 v2 o.n o.F by simpa using h1)
  obtain ⟨qa, qc, rfl⟩ := hq0.out.rd.slice
  have hr2 := Lib.hid (rowB hrow.out hB2.out hlt.out)
  have hs2 := Lib.hid (rowB hres.out hB2.out hlt1.out)
  have f1 := frozen_of_row w2 w.heap.size 1 _ _ hr2.out
  have k1 : w2.cell? ⟨w.heap.size, 1, none⟩ = some (.slice pa o.n pc) := by rw [cell_of_row _ _ _ _ _ _ hr2.out]; rfl
  have hset := Lib.hid (show w2.setCell ⟨w.heap.size, 1, none⟩ (.slice qa o.n qc) = w2.setRow w.heap.size (o.c (.slice qa o.n qc)) from setCell_eq hr2.out 1 (.slice qa o.n qc))
  clear h1 h2
  refine Stop.go ?_
  go_upto_region 2 with fail
  rw [hset.out]
  have hr3 := Lib.hid (setRow_heap w2 w.heap.size _ (o.c (.slice qa o.n qc)) _ _ hr2.out)
  have hs3 := Lib.hid ((setRow_other w2 w.heap.size (w.heap.size + 1) (o.c (.slice qa o.n qc)) (by omega)).trans hs2.out)
  have hB3 := Lib.hid (show Below w.heap.size w (w2.setRow w.heap.size (o.c (.slice qa o.n qc))) from below_setRow' (hb1.out.trans (hB2.out.mono hb1.out.size)) (Nat.le_refl _) _)
  have hq := Lib.hid (ownI_setRow hq0.out hlt.out (o.c (.slice qa o.n qc)))
  clear hset hq0 f1 k1 hr2 hs2 hB2 hc1 hp1 hrow hres
  generalize w2.setRow w.heap.size (o.c (.slice qa o.n qc)) = w3 at *
  have c4 : w3.cell? ⟨w.heap.size, 4, none⟩ = some (.string o.key) := by rw [cell_of_row _ _ _ _ _ _ hr3.out]; rfl
  go_upto_region 3 with (go_at_call 120; (with_reducible refine (hcl1.out _).mono ?_); rintro e w4 ⟨rfl, q2⟩; replace hr3 := Lib.hid (rowB hr3.out q2 (Array.getElem?_eq_some_iff.1 hr3.out).1); replace hs3 := Lib.hid (rowB hs3.out q2 (Array.getElem?_eq_some_iff.1 hs3.out).1); replace hq := Lib.hid (hq.out.kept q2); replace hB3 := Lib.hid (hB3.out.trans (Below.mono q2 hB3.out.size)); have hsame := Lib.hid (show w4.setCell ⟨w.heap.size, 4, none⟩ (.string o.key) = w4 from (setCell_eq hr3.out 4 (.string o.key)).trans (setRow_self w4 w.heap.size (o.c (.slice qa o.n qc)) _ _ hr3.out)); have f1 := frozen_of_row w4 w.heap.size 4 _ _ hr3.out; have k1 := (cell_of_row w4 w.heap.size 4 _ _ _ hr3.out); clear q2)
  rw [hsame.out]
  clear c4 hsame f1 k1
  have c8 : w4.cell? ⟨w.heap.size, 8, none⟩ = some (.string o.v.s) := by rw [cell_of_row _ _ _ _ _ _ hr3.out]; rfl
  go_upto_region 4 with (go_at_call 120; (with_reducible refine (hcl2.out _).mono ?_); rintro e w4 ⟨rfl, q2⟩; replace hr3 := Lib.hid (rowB hr3.out q2 (Array.getElem?_eq_some_iff.1 hr3.out).1); replace hs3 := Lib.hid (rowB hs3.out q2 (Array.getElem?_eq_some_iff.1 hs3.out).1); replace hq := Lib.hid (hq.out.kept q2); replace hB3 := Lib.hid (hB3.out.trans (Below.mono q2 hB3.out.size)); have hsame := Lib.hid (show w4.setCell ⟨w.heap.size, 8, none⟩ (.string o.v.s) = w4 from (setCell_eq hr3.out 8 (.string o.v.s)).trans (setRow_self w4 w.heap.size (o.c (.slice qa o.n qc)) _ _ hr3.out)); have f1 := frozen_of_row w4 w.heap.size 8 _ _ hr3.out; have k1 := (cell_of_row w4 w.heap.size 8 _ _ _ hr3.out); clear q2)
  rw [hsame.out]
  clear c8 hsame f1 k1
  go_wp2_with (first
    | (refine wpList_load_row_g rfl 35 _ rfl w.heap.size rfl 35 (o.c (.slice qa o.n qc)) (0, 0) _ hr3.out Tryz.underlying35 rfl info_op ?_)
    | (refine wpList_store_row rfl 35 _ _ rfl (w.heap.size + 1) (o.c (.slice qa o.n qc)) rfl rfl 35 _ hs3.out info_op rfl (op_one _ _ _ _) ?_))
  exact bodyPost_ret (results_cell_row rfl _ _ (w.heap.size + 1) 35 _ _ _ rfl (setRow_heap _ _ _ _ _ _ hs3.out) Tryz.underlying35 rfl info_op) rfl ⟨_, rfl, (ownI_setRow hq.out hlt1.out _).mono hb1.out.size, below_setRow' hB3.out (by omega) _⟩
/-- What Verify answers. -/
def verO (o : Od) : Int := if chkO o = 0 then (if rightB o.au (msgB o) o.s o.e then 0 else 22) else chkO o
theorem chk_in {o : Od} (h : chkO o = 0) : grp.inG o.au = true := by
  unfold chkO at h
  by_cases h1 : 4 < o.n
  · rw [if_pos h1] at h; omega
  · rw [if_neg h1] at h
    by_cases h2 : riseF o.F o.n = true
    · rw [if_pos h2] at h
      by_cases h3 : okO o = true
      · unfold okO at h3
        simp only [Bool.and_eq_true] at h3
        exact h3.1
      · rw [if_neg h3] at h; omega
    · rw [if_neg h2] at h; omega
set_option maxHeartbeats 4000000 in
set_option maxRecDepth 100000 in
theorem opVerify_any (o : Od) (fo : o.Fit) (pv : Value) (w : World) (hp : RdI w pv o.n o.F) (hG : GlobW w) :
    Calls Tryz.prog 25 #[.agg (o.c pv)] w fun e w' => e = .returned (.int .i64 (verO o)) ∧ Below w.heap.size w w' := by
  obtain ⟨W, hW⟩ : ∃ W, W = w.alloc (.cells (o.c pv) 35) := ⟨_, rfl⟩
  have hr0 := heap_alloc_new w (.cells (o.c pv) 35)
  have hb0 := (Below.refl w.heap.size w).alloc (Nat.le_refl _) (.cells (o.c pv) 35)
  rw [← hW] at hr0 hb0
  have hlF := hp.len
  obtain ⟨pa, pc, rfl⟩ := hp.slice
  have hb1 := Lib.hid hb0
  have hlt := (Array.getElem?_eq_some_iff.1 hr0).1
  have hrows := Lib.hid (fun (wz : World) (h : Below W.heap.size W wz) => rowB hr0 h hlt)
  have hS := Lib.hid (fun (wz : World) (h : Below W.heap.size W wz) => cellsO (rowB hr0 h hlt))
  have hK := Lib.hid (fun (wz : World) (hb : Below W.heap.size W wz) => opCheck_any o fo (.slice pa o.n pc) wz ((hp.mono hb0).mono hb))
  by_cases h0 : chkO o = 0
  · have e := Lib.hid (show verO o = if rightB o.au (msgB o) o.s o.e then 0 else 22 by unfold verO; rw [if_pos h0])
    rw [h0] at hK
    have z := chk_zero h0
    have hM := Lib.hid (fun (wz : World) (hb : Below W.heap.size W wz) => message_any o fo z.1 z.2.1 z.2.2 (.slice pa o.n pc) wz ((hp.mono hb0).mono hb))
    have hV := Lib.hid (fun (wz : World) (v : Value) (hb : Below W.heap.size W wz) (hv : RdB wz v (msgB o)) => verify_any o.au (chk_in h0) o.s o.e fo.s fo.e v (msgB o) wz hv (msgB_bytes o fo z.1 z.2.2) (Nat.le_trans (msgB_short o fo z.1 hlF z.2.2) (by decide)) ((hG.mono hb0).mono hb))
    rw [e.out]
    generalize (if rightB o.au (msgB o) o.s o.e then (0 : Int) else 22) = R at *
    clear e hr0 hb0 hp fo h0 z hG hlF
    go_enter Tryz.func25, Tryz.ntmps25
    go_upto_region 1 with fail
    rw [← hW]
    clear hW
    have hB := Lib.hid (Below.refl W.heap.size W)
    go_upto_region 4 with (first | (refine wpList_load_row_g rfl 35 _ rfl w.heap.size rfl 35 (o.c (.slice pa o.n pc)) (0, 0) _ (hrows.out _ hB.out) Tryz.underlying35 rfl info_op ?_) | (go_at_call 80; (with_reducible refine (hK.out _ hB.out).mono ?_); rintro e w3 ⟨rfl, h3⟩; replace hB := Lib.hid (hB.out.trans (h3.mono hB.out.size)); clear h3))
    replace hB := Lib.hid (show Below W.heap.size W w3.drew from hB.out.drew)
    have hcc := Lib.hid (show ∀ (wz : World) (h : Below W.heap.size W wz), (fun wz => wz.cell? ⟨w.heap.size, 0, none⟩ = some (.int .u32 (o.au : Int)) ∧ wz.cell? ⟨w.heap.size, 1, none⟩ = some (.slice pa o.n pc) ∧ wz.cell? ⟨w.heap.size, 2, none⟩ = some (.int .u64 (o.st : Int)) ∧ wz.cell? ⟨w.heap.size, 3, none⟩ = some (.int .u8 o.k) ∧ wz.cell? ⟨w.heap.size, 4, none⟩ = some (.string o.key) ∧ wz.cell? ⟨w.heap.size, 5, none⟩ = some (.int .u8 o.v.k) ∧ wz.cell? ⟨w.heap.size, 6, none⟩ = some (.int .i64 o.v.n) ∧ wz.cell? ⟨w.heap.size, 7, none⟩ = some (.int .u64 (o.v.b : Int)) ∧ wz.cell? ⟨w.heap.size, 8, none⟩ = some (.string o.v.s) ∧ wz.cell? ⟨w.heap.size, 9, none⟩ = some (.int .u32 (o.e : Int)) ∧ wz.cell? ⟨w.heap.size, 10, none⟩ = some (.int .u32 (o.s : Int))) wz from fun wz h => cells11 (hrows.out wz h))
    obtain ⟨c0, c1, c2, c3, c4, c5, c6, c7, c8, c9, c10⟩ := hcc.out w3.drew hB.out
    simp only [World.cell?_drew] at c0 c1 c2 c3 c4 c5 c6 c7 c8 c9 c10
    go_region_held3 (fun wz => wz.cell? ⟨w.heap.size, 0, none⟩ = some (.int .u32 (o.au : Int)) ∧ wz.cell? ⟨w.heap.size, 1, none⟩ = some (.slice pa o.n pc) ∧ wz.cell? ⟨w.heap.size, 2, none⟩ = some (.int .u64 (o.st : Int)) ∧ wz.cell? ⟨w.heap.size, 3, none⟩ = some (.int .u8 o.k) ∧ wz.cell? ⟨w.heap.size, 4, none⟩ = some (.string o.key) ∧ wz.cell? ⟨w.heap.size, 5, none⟩ = some (.int .u8 o.v.k) ∧ wz.cell? ⟨w.heap.size, 6, none⟩ = some (.int .i64 o.v.n) ∧ wz.cell? ⟨w.heap.size, 7, none⟩ = some (.int .u64 (o.v.b : Int)) ∧ wz.cell? ⟨w.heap.size, 8, none⟩ = some (.string o.v.s) ∧ wz.cell? ⟨w.heap.size, 9, none⟩ = some (.int .u32 (o.e : Int)) ∧ wz.cell? ⟨w.heap.size, 10, none⟩ = some (.int .u32 (o.s : Int))) (first | (exact hcc.out _ hB.out) | go_keep)
      (first
        | (go_at_call 82; (with_reducible refine (hM.out _ hB.out).mono ?_); rintro e w4 ⟨sv, rfl, q1, q2⟩; replace hB := Lib.hid (hB.out.trans (q2.mono hB.out.size)); have hO := Lib.hid q1.rd; obtain ⟨ma, mc, hz⟩ := hO.out.slice; subst hz; clear q1 q2)
        | (go_at_call 81; (with_reducible refine (hV.out _ _ hB.out hO.out).mono ?_); rintro e w5 ⟨rfl, q2⟩; replace hB := Lib.hid (hB.out.trans (q2.mono hB.out.size)); clear q2))
    all_goals
      clear c0 c1 c2 c3 c4 c5 c6 c7 c8 c9 c10
      go_wp2
      go_ret
      exact ⟨rfl, hb1.out.trans (hB.out.mono hb1.out.size)⟩
  · have e := Lib.hid (show verO o = chkO o by unfold verO; rw [if_neg h0])
    rw [e.out]
    generalize chkO o = E at *
    have hE : (E != 0) = true := by simpa using h0
    clear e hr0 hb0 hp fo h0 hG hlF
    go_enter Tryz.func25, Tryz.ntmps25
    go_upto_region 1 with fail
    rw [← hW]
    clear hW
    have hB := Lib.hid (Below.refl W.heap.size W)
    go_wp2_with (first | (refine wpList_load_row_g rfl 35 _ rfl w.heap.size rfl 35 (o.c (.slice pa o.n pc)) (0, 0) _ (hrows.out _ hB.out) Tryz.underlying35 rfl info_op ?_) | (go_at_call 80; (with_reducible refine (hK.out _ hB.out).mono ?_); rintro e w3 ⟨rfl, h3⟩; replace hB := Lib.hid (hB.out.trans (h3.mono hB.out.size)); clear h3))
    go_ret
    exact ⟨rfl, hb1.out.trans (hB.out.mono hb1.out.size)⟩
end Go.Proofs.YtlbgffhipondiaaGreatDoor.wir.val
namespace Go.Proofs.YtlbgffhipondiaaGreatDoor.wir.val
open Go.RowKit Go.YtlbgffhipondiaaGreatDoor
set_option linter.unusedVariables false
def Od.byA (o : Od) (y : Nat) : Od := { o with au := y }
def Od.sigd (o : Od) (y e s : Nat) : Od := { o with au := y, e := e, s := s }
theorem set_au {w : World} {g : Nat} {o : Od} {pv : Value} (h : w.heap[g]? = some (.cells (o.c pv) 35 (0, 0))) (y : Nat) :
    w.setCell ⟨g, 0, none⟩ (.int .u32 (y : Int)) = w.setRow g ((o.byA y).c pv) := setCell_eq h 0 _
theorem set_es {w : World} {g : Nat} {o : Od} {pv : Value} (y e s : Nat) (h : w.heap[g]? = some (.cells ((o.byA y).c pv) 35 (0, 0))) :
    (w.setCell ⟨g, 9, none⟩ (.int .u32 (e : Int))).setCell ⟨g, 10, none⟩ (.int .u32 (s : Int)) = w.setRow g ((o.sigd y e s).c pv) := set_sig h e s
theorem fit_by {o : Od} (h : o.Fit) (y : Nat) (hy : y < 4294967296) : (o.byA y).Fit := ⟨hy, h.F, h.n, h.st, h.k, h.key, h.v, h.e, h.s⟩
set_option maxHeartbeats 8000000 in
set_option maxRecDepth 100000 in
theorem opSign_ok (a : Nat) (h : 1 ≤ a ∧ a < 500000003) (o : Od) (fo : o.Fit) (pv : Value) (w : World) (hp : RdI w pv o.n o.F) (hG : GlobW w) (h0 : chkO (o.byA (grp.pw 4 a)).bare = 0) :
    Calls Tryz.prog 63 #[.int .u32 (a : Int), .agg (o.c pv)] w fun e w' => ∃ qv, e = .returned (.tuple #[.agg ((o.sigd (grp.pw 4 a) (eN a (msgB (o.byA (grp.pw 4 a)))) (sN a (msgB (o.byA (grp.pw 4 a))))).c qv), .int .i64 0]) ∧ RdI w' qv o.n o.F ∧ Below w.heap.size w w' := by
  obtain ⟨W, hW⟩ : ∃ W, W = (w.alloc (.cells (o.c pv) 35)).alloc (.cells (zO.c (.slice none 0 0)) 35) := ⟨_, rfl⟩
  have hr0 : W.heap[w.heap.size]? = some (.cells (o.c pv) 35 (0, 0)) := by rw [hW]; exact rowB (heap_alloc_new w _) (below_a _ _) (by simp)
  have hr1 : W.heap[w.heap.size + 1]? = some (.cells (zO.c (.slice none 0 0)) 35 (0, 0)) := by rw [hW]; exact hn2 w _ _
  have hb0 : Below w.heap.size w W := by rw [hW]; exact ((Below.refl w.heap.size w).alloc (Nat.le_refl _) _).alloc (by simp) _
  obtain ⟨pa, pc, rfl⟩ := hp.slice
  have hb1 := Lib.hid hb0
  have hrow := Lib.hid hr0
  have hres := Lib.hid hr1
  have hlt := Lib.hid (Array.getElem?_eq_some_iff.1 hr0).1
  have hlt1 := Lib.hid (Array.getElem?_eq_some_iff.1 hr1).1
  have hp1 := Lib.hid (hp.mono hb0)
  have hP := Lib.hid (fun wz => public_ok a h wz)
  have hpw := Lib.hid hp
  have hlF := Lib.hid hp.len
  generalize hy : grp.pw 4 a = y at *
  have hyu : y < 4294967296 := by rw [← hy]; exact pw_u32 4 a
  have hf0 := frozen_of_row W w.heap.size 0 _ _ hr0
  have hc0 : W.cell? ⟨w.heap.size, 0, none⟩ = some (.int .u32 (o.au : Int)) := by rw [cell_of_row _ _ _ _ _ _ hr0]; rfl
  have hM := Lib.hid (fun (wz : World) (hb : Below w.heap.size w wz) => (opMessage_any (o.byA y) (fit_by fo y hyu) (.slice pa o.n pc) wz (hpw.out.mono hb)).mono (fun e w' hq => show ∃ sv, e = .returned (.tuple #[sv, .int .i64 0]) ∧ RdB w' sv (msgB (o.byA y)) ∧ Below wz.heap.size wz w' from by have h1 := hq.1; rw [if_pos h0] at h1; obtain ⟨sv, h2, h3⟩ := h1; exact ⟨sv, h2, h3.rd, hq.2⟩))
  have hSg := Lib.hid (fun (wz : World) (v : Value) (hb : Below w.heap.size w wz) (hv : RdB wz v (msgB (o.byA y))) => sign_ok a h v (msgB (o.byA y)) wz hv (msgB_bytes (o.byA y) (fit_by fo y hyu) (chk_zero h0).1 (chk_zero h0).2.2) (Nat.le_trans (msgB_short (o.byA y) (fit_by fo y hyu) (chk_zero h0).1 hlF.out (chk_zero h0).2.2) (by decide)) (hG.mono hb))
  have hn20 : o.n ≤ 20 := Nat.le_trans (chk_zero h0).1 (by decide)
  have hCp := Lib.hid (fun (e s : Nat) (wz : World) (hb : Below w.heap.size w wz) => copied_any (o.sigd y e s) hn20 fo.key fo.v.s (.slice pa o.n pc) wz (hpw.out.mono hb))
  have hml := Lib.hid (show ∃ N, (msgB (o.byA y)).length = N from ⟨_, rfl⟩)
  generalize eN a (msgB (o.byA y)) = E at *
  generalize sN a (msgB (o.byA y)) = S at *
  generalize msgB (o.byA y) = MB at *
  clear hr0 hr1 hb0 hp fo hG h hy h0 hn20 hlF
  go_enter Tryz.func63, Tryz.ntmps63
  go_upto_region 1 with fail
  change Code.wp _ _ _ _ ((w.alloc (.cells (o.c (.slice pa o.n pc)) 35)).alloc (.cells (zO.c (.slice none 0 0)) 35))
  rw [← hW]
  clear hW
  go_upto_region 4 with (go_at_call 109; (with_reducible refine (hP.out _).mono ?_); rintro e w3 ⟨rfl, q2⟩; have hB := Lib.hid (hb1.out.trans (Below.mono q2 hb1.out.size)); have hr := Lib.hid (rowB hrow.out q2 hlt.out); have hs := Lib.hid (rowB hres.out q2 hlt1.out); clear q2 hc0 hf0)
  have f0 := frozen_of_row w3 w.heap.size 0 _ _ hr.out
  have d0 : w3.cell? ⟨w.heap.size, 0, none⟩ = some (.int .u32 (o.au : Int)) := by rw [cell_of_row _ _ _ _ _ _ hr.out]; rfl
  have hset := Lib.hid (set_au hr.out y)
  go_upto_region 5 with fail
  rw [hset.out]
  clear hset f0 d0
  replace hs := Lib.hid ((setRow_other w3 w.heap.size (w.heap.size + 1) ((o.byA y).c (.slice pa o.n pc)) (by omega)).trans hs.out)
  replace hr := Lib.hid (setRow_heap w3 w.heap.size _ ((o.byA y).c (.slice pa o.n pc)) _ _ hr.out)
  replace hB := Lib.hid (show Below w.heap.size w (w3.setRow w.heap.size ((o.byA y).c (.slice pa o.n pc))) from below_setRow' hB.out (Nat.le_refl _) _)
  generalize w3.setRow w.heap.size ((o.byA y).c (.slice pa o.n pc)) = w4 at *
  go_upto_region 8 with (first
    | (refine wpList_load_row_g rfl 35 _ rfl w.heap.size rfl 35 ((o.byA y).c (.slice pa o.n pc)) (0, 0) _ hr.out Tryz.underlying35 rfl info_op ?_)
    | (go_at_call 110; (with_reducible refine (hM.out _ hB.out).mono ?_); rintro e w5 ⟨sv, rfl, q1, q2⟩; replace hr := Lib.hid (rowB hr.out q2 (Array.getElem?_eq_some_iff.1 hr.out).1); replace hs := Lib.hid (rowB hs.out q2 (Array.getElem?_eq_some_iff.1 hs.out).1); replace hB := Lib.hid (hB.out.trans (Below.mono q2 hB.out.size)); have hO := Lib.hid q1; obtain ⟨ma, mc, hz⟩ := hO.out.slice; subst hz; clear q1 q2))
  go_wp2_with (go_at_call 111; (with_reducible refine (hSg.out _ _ hB.out hO.out).mono ?_); rintro e w6 ⟨rfl, q2⟩; replace hr := Lib.hid (rowB hr.out q2 (Array.getElem?_eq_some_iff.1 hr.out).1); replace hs := Lib.hid (rowB hs.out q2 (Array.getElem?_eq_some_iff.1 hs.out).1); replace hB := Lib.hid (hB.out.trans (Below.mono q2 hB.out.size)); have g9 := frozen_of_row w6 w.heap.size 9 _ _ hr.out; have g10 := frozen_of_row w6 w.heap.size 10 _ _ hr.out; have hx := (cellsO hr.out); have x9 := hx.2.2.2.2.2.1; have x10 := hx.2.2.2.2.2.2; have hset := Lib.hid (set_es (o := o) y E S hr.out); clear q2 hx; refine Stop.go'' _ ?_)
  refine StopP.go ?_
  go_upto_region 9 with fail
  rw [hset.out]
  clear hset g9 g10 x9 x10
  replace hs := Lib.hid ((setRow_other w6 w.heap.size (w.heap.size + 1) ((o.sigd y E S).c (.slice pa o.n pc)) (by omega)).trans hs.out)
  replace hr := Lib.hid (setRow_heap w6 w.heap.size _ ((o.sigd y E S).c (.slice pa o.n pc)) _ _ hr.out)
  replace hB := Lib.hid (show Below w.heap.size w (w6.setRow w.heap.size ((o.sigd y E S).c (.slice pa o.n pc))) from below_setRow' hB.out (Nat.le_refl _) _)
  generalize w6.setRow w.heap.size ((o.sigd y E S).c (.slice pa o.n pc)) = w7 at *
  have hl7 := Lib.hid (Array.getElem?_eq_some_iff.1 hs.out).1
  go_wp2_with (first
    | (refine wpList_load_row_g rfl 35 _ rfl w.heap.size rfl 35 ((o.sigd y E S).c (.slice pa o.n pc)) (0, 0) _ hr.out Tryz.underlying35 rfl info_op ?_)
    | (go_at_call 112; (with_reducible refine (hCp.out E S _ hB.out).mono ?_); rintro e w8 ⟨qv, rfl, q1, q2⟩; replace hr := Lib.hid (rowB hr.out q2 (Array.getElem?_eq_some_iff.1 hr.out).1); replace hs := Lib.hid (rowB hs.out q2 (Array.getElem?_eq_some_iff.1 hs.out).1); replace hB := Lib.hid (hB.out.trans (Below.mono q2 hB.out.size)); have hq := Lib.hid q1; obtain ⟨qa, qc, hz⟩ := hq.out.rd.slice; subst hz; clear q1 q2)
    | (refine wpList_store_row rfl 35 _ _ rfl (w.heap.size + 1) ((o.sigd y E S).c (.slice qa o.n qc)) rfl rfl 35 _ hs.out info_op rfl (op_one (o.sigd y E S) _ _ _) ?_))
  exact bodyPost_ret (results_row_tmp rfl _ _ (w.heap.size + 1) 35 _ _ _ rfl (setRow_heap _ _ _ _ _ _ hs.out) Tryz.underlying35 rfl info_op) rfl ⟨_, rfl, (ownI_setRow hq.out hl7.out _).rd, below_setRow' hB.out (by omega) _⟩
end Go.Proofs.YtlbgffhipondiaaGreatDoor.wir.val
namespace Go.Proofs.YtlbgffhipondiaaGreatDoor.wir.val
open Go.RowKit Go.YtlbgffhipondiaaGreatDoor
set_option linter.unusedVariables false
theorem okO_of (o : Od) (h1 : grp.inG o.au = true) (h2 : (decide ((o.st : Int) ≤ 1000000000000) && actB o.k o.key o.v) = true) (h3 : sigB (o.e : Int) (o.s : Int) = true) : okO o = true := by
  unfold okO
  rw [h1, h3, Bool.and_true, h2]; rfl
theorem gO_sig0 : sigB 0 0 = true := by decide +kernel
theorem sigB_nat (e s : Nat) (he : e < 500000003) (hs : s < 500000003) : sigB (e : Int) (s : Int) = true := by
  show (decide ((e : Int) < 500000003) && decide ((s : Int) < 500000003)) = true
  rw [← nat_int_lt, ← nat_int_lt, decide_eq_true he, decide_eq_true hs]; rfl
theorem ver_sigd (o : Od) (y e s : Nat) : verO (o.sigd y e s) = if chkO (o.sigd y e s) = 0 then (if rightB y (msgB (o.byA y)) s e then 0 else 22) else chkO (o.sigd y e s) := rfl
theorem ver_zero (o : Od) (y e s : Nat) (h1 : chkO (o.sigd y e s) = 0) (h2 : rightB y (msgB (o.byA y)) s e = true) : verO (o.sigd y e s) = 0 := by
  rw [ver_sigd, if_pos h1, h2]; exact if_pos rfl
theorem fit_sigd {o : Od} (h : o.Fit) (y e s : Nat) (hy : y < 4294967296) (he : e < 500000003) (hs : s < 500000003) : (o.sigd y e s).Fit := ⟨hy, h.F, h.n, h.st, h.k, h.key, h.v, Nat.lt_trans he (by decide), Nat.lt_trans hs (by decide)⟩
end Go.Proofs.YtlbgffhipondiaaGreatDoor.wir.val
namespace Go.Proofs.YtlbgffhipondiaaGreatDoor.wir.val
open Go.RowKit Go.YtlbgffhipondiaaGreatDoor
set_option linter.unusedVariables false
theorem chk_parts {o : Od} (h : chkO o = 0) : ¬ 4 < o.n ∧ riseF o.F o.n = true ∧ okO o = true := by
  unfold chkO at h
  by_cases h1 : 4 < o.n
  · rw [if_pos h1] at h; omega
  · rw [if_neg h1] at h
    by_cases h2 : riseF o.F o.n = true
    · rw [if_pos h2] at h
      by_cases h3 : okO o = true
      · exact ⟨h1, h2, h3⟩
      · rw [if_neg h3] at h; omega
    · rw [if_neg h2] at h; omega
theorem okO_parts {o : Od} (h : okO o = true) : grp.inG o.au = true ∧ (decide ((o.st : Int) ≤ 1000000000000) && actB o.k o.key o.v) = true ∧ sigB (o.e : Int) (o.s : Int) = true := by
  unfold okO at h
  rw [Bool.and_eq_true, Bool.and_eq_true, Bool.and_eq_true] at h
  exact ⟨h.1, by rw [Bool.and_eq_true]; exact ⟨h.2.1, h.2.2.1⟩, h.2.2.2⟩
theorem chk_sigd {o : Od} {y e s : Nat} (h : chkO (o.byA y).bare = 0) (he : e < 500000003) (hs : s < 500000003) : chkO (o.sigd y e s) = 0 := by
  obtain ⟨h1, h2, h3⟩ := chk_parts h
  obtain ⟨k1, k2, _⟩ := okO_parts h3
  exact chk_ok (o := o.sigd y e s) h1 h2 (okO_of (o.sigd y e s) k1 k2 (sigB_nat e s he hs))
end Go.Proofs.YtlbgffhipondiaaGreatDoor.wir.val
namespace Go.Proofs.YtlbgffhipondiaaGreatDoor.wir.val
open Go.RowKit Go.YtlbgffhipondiaaGreatDoor
set_option linter.unusedVariables false
theorem raw_fit {o : Od} (fr : o.Raw) (hg : greatB o = false) : o.Fit := by
  have hsz : o.n ≤ 20 ∧ o.key.size ≤ 100 ∧ o.v.s.size ≤ 100 := by
    unfold greatB at hg
    simp only [Bool.or_eq_false_iff, decide_eq_false_iff_not] at hg
    omega
  exact ⟨fr.au, fr.F, by omega, fr.st, fr.k, by omega, ⟨fr.vk, fr.vn, fr.vb, by omega⟩, fr.e, fr.s⟩
end Go.Proofs.YtlbgffhipondiaaGreatDoor.wir.val
namespace Go.Proofs.YtlbgffhipondiaaGreatDoor.wir.val
open Go.RowKit Go.YtlbgffhipondiaaGreatDoor
set_option linter.unusedVariables false
end Go.Proofs.YtlbgffhipondiaaGreatDoor.wir.val
namespace Go.Proofs.YtlbgffhipondiaaGreatDoor.wir.val
open Go.RowKit Go.YtlbgffhipondiaaGreatDoor
set_option linter.unusedVariables false
end Go.Proofs.YtlbgffhipondiaaGreatDoor.wir.val
namespace Go.Proofs.YtlbgffhipondiaaGreatDoor.wir.val
open Go.RowKit Go.YtlbgffhipondiaaGreatDoor
set_option linter.unusedVariables false
/-- An operation with another Sig. -/
def Od.sg (o : Od) (e s : Nat) : Od := { o with e := e, s := s }
end Go.Proofs.YtlbgffhipondiaaGreatDoor.wir.val
namespace Go.Proofs.YtlbgffhipondiaaGreatDoor.wir.val
open Go.RowKit Go.YtlbgffhipondiaaGreatDoor
set_option linter.unusedVariables false
def Ac.B (c : Ac) : List Int := ([c.k] ++ (if c.k = 1 then [] else textB (sI c.key))) ++ (if c.k = 4 then encB c.v.k c.v.n c.v.b c.v.s else [])
theorem bytes_tail {a m : List Int} (h : Bytes (a ++ m)) : Bytes m := by
  have := bytes_drop _ a.length h
  rwa [List.drop_left' rfl] at this
end Go.Proofs.YtlbgffhipondiaaGreatDoor.wir.val
namespace Go.Proofs.YtlbgffhipondiaaGreatDoor.wir.val
open Go.RowKit Go.YtlbgffhipondiaaGreatDoor
set_option linter.unusedVariables false
end Go.Proofs.YtlbgffhipondiaaGreatDoor.wir.val
namespace Go.Proofs.YtlbgffhipondiaaGreatDoor.wir.val
open Go.RowKit Go.YtlbgffhipondiaaGreatDoor
set_option linter.unusedVariables false
theorem results_row_row_tmp {P : Program} {fn : Func} {p q u : Tmp} {ty ty2 : TypeId} (h : fn.results = #[.cell p ty, .cell q ty2, .tmp u]) (tmps : Array Value) (w : World) (g : Nat) (t : TypeId) (cs : Array Value) (fr : Nat × Nat) (d : TypeDesc)
    (g2 : Nat) (t2 : TypeId) (cs2 : Array Value) (fr2 : Nat × Nat) (d2 : TypeDesc)
    (hp : tmps.getD p undef = .pointer (some ⟨g, 0, none⟩)) (hg : w.heap[g]? = some (.cells cs t fr))
    (hu : P.underlying ty = some d) (hd : (match d with | .struct _ | .array _ _ => true | _ => false) = true) (hi : (P.info? ty).map (·.size) = some cs.size)
    (hp2 : tmps.getD q undef = .pointer (some ⟨g2, 0, none⟩)) (hg2 : w.heap[g2]? = some (.cells cs2 t2 fr2))
    (hu2 : P.underlying ty2 = some d2) (hd2 : (match d2 with | .struct _ | .array _ _ => true | _ => false) = true) (hi2 : (P.info? ty2).map (·.size) = some cs2.size) :
    (results fn tmps).run P w = .ok (.tuple #[.agg cs, .agg cs2, tmps.getD u undef]) w := by
  have hc : (results fn tmps).run P w =
      ((asAddr (tmps.getD p undef)).run P w).andThen fun a w₁ => ((loadVar ty a).run P w₁).andThen fun x w₂ => ((asAddr (tmps.getD q undef)).run P w₂).andThen fun b w₃ => ((loadVar ty2 b).run P w₃).andThen fun y w₄ => .ok (.tuple #[x, y, tmps.getD u undef]) w₄ := by
    simp only [results, h]
    simp [Sem.run_bind, Result.andThen]
  rw [hc, hp, hp2]
  have hl := run_loadVar_row (P := P) w g t ty cs fr d hg hu hd hi
  have hl2 := run_loadVar_row (P := P) w g2 t2 ty2 cs2 fr2 d2 hg2 hu2 hd2 hi2
  simp [asAddr, hl, hl2]
end Go.Proofs.YtlbgffhipondiaaGreatDoor.wir.val
namespace Go.Proofs.YtlbgffhipondiaaGreatDoor.wir.val
open Go.RowKit Go.YtlbgffhipondiaaGreatDoor
set_option linter.unusedVariables false
theorem rowA (w : World) (A B : Obj) : ((w.alloc A).alloc B).heap[w.heap.size]? = some A := rowB (heap_alloc_new w A) (below_a _ _) (by simp)
def kO : Od := ⟨0, 0, [], 1, 2, ⟨#[107]⟩, ⟨0, 0, 0, ⟨#[]⟩⟩, 0, 0⟩
end Go.Proofs.YtlbgffhipondiaaGreatDoor.wir.val
namespace Go.Proofs.YtlbgffhipondiaaGreatDoor
open Go.RowKit Go.YtlbgffhipondiaaGreatDoor
set_option linter.unusedVariables false
/-- The world is behind 'w', and the listed variables are there. -/
def Since (w wi : World) : Prop := Below w.heap.size w wi ∧ GlobW wi
theorem Since.start {w : World} (h : GlobW w) : Since w w := ⟨Below.refl _ _, h⟩
theorem Since.step {w wi wj : World} (h : Since w wi) (hb : Below wi.heap.size wi wj) : Since w wj := ⟨h.1.trans (hb.mono h.1.size), h.2.mono hb⟩
theorem Since.gl {w wi : World} (h : Since w wi) : GlobW wi := h.2
end Go.Proofs.YtlbgffhipondiaaGreatDoor
namespace Go.Proofs.YtlbgffhipondiaaGreatDoor
open Go.RowKit Go.YtlbgffhipondiaaGreatDoor
set_option linter.unusedVariables false
end Go.Proofs.YtlbgffhipondiaaGreatDoor
namespace Go.Proofs.YtlbgffhipondiaaGreatDoor
open Go.RowKit Go.YtlbgffhipondiaaGreatDoor
set_option linter.unusedVariables false
end Go.Proofs.YtlbgffhipondiaaGreatDoor
namespace Go.Proofs.YtlbgffhipondiaaGreatDoor
open Go.RowKit Go.YtlbgffhipondiaaGreatDoor
set_option linter.unusedVariables false
theorem rexp_any (a : Nat) (ha : a < 4294967296) (b : Bool) (hb : decide (a < 500000003) = b) (w : World) : Calls Tryz.prog 177 #[.int .u32 (a : Int)] w fun e w' => e = .returned (.bool b) ∧ w' = w := by
  subst hb; exact grp.exponent_any a ha w
end Go.Proofs.YtlbgffhipondiaaGreatDoor
namespace Go.Proofs.YtlbgffhipondiaaGreatDoor
open Go.RowKit Go.YtlbgffhipondiaaGreatDoor
set_option linter.unusedVariables false
def NSt (Z : List Int) (g1 : Nat) (w wi : World) : Prop := Below w.heap.size w wi ∧ GlobW wi ∧ RdB wi (.slice (some ⟨g1, 0, none⟩) 9991 9992) Z
theorem NSt.step {Z : List Int} {g1 : Nat} {w wi wj : World} (h : NSt Z g1 w wi) (hb : Below wi.heap.size wi wj) : NSt Z g1 w wj := ⟨h.1.trans (hb.mono h.1.size), h.2.1.mono hb, h.2.2.mono hb⟩
theorem NSt.gl {Z : List Int} {g1 : Nat} {w wi : World} (h : NSt Z g1 w wi) : GlobW wi := h.2.1
theorem NSt.rd {Z : List Int} {g1 : Nat} {w wi : World} (h : NSt Z g1 w wi) : RdB wi (.slice (some ⟨g1, 0, none⟩) 9991 9992) Z := h.2.2
def NC (Z : List Int) (g1 : Nat) (w : World) (g20 g22 : Nat) (c20 c22 : Array Value) (wi : World) : Prop := NSt Z g1 w wi ∧ Has wi g20 c20 33 ∧ Has wi g22 c22 33
theorem NC.step {Z : List Int} {g1 : Nat} {w : World} {g20 g22 : Nat} {c20 c22 : Array Value} {wi wj : World} (h : NC Z g1 w g20 g22 c20 c22 wi) (hb : Below wi.heap.size wi wj) : NC Z g1 w g20 g22 c20 c22 wj := ⟨h.1.step hb, h.2.1.step hb, h.2.2.step hb⟩
abbrev Ans (f : FuncId) (args : Array Value) (v : Value) : Prop := ∀ w, Calls Tryz.prog f args w fun e w' => e = .returned v ∧ Below w.heap.size w w'
theorem Ans.mk {f : FuncId} {args : Array Value} {v : Value} (h : ∀ w, Calls Tryz.prog f args w fun e w' => e = .returned v ∧ w' = w) : ∀ w, Calls Tryz.prog f args w fun e w' => e = .returned v ∧ Below w.heap.size w w' :=
  fun w => (h w).mono fun e w' ⟨h1, h2⟩ => ⟨h1, by subst h2; exact Below.refl _ _⟩
end Go.Proofs.YtlbgffhipondiaaGreatDoor
namespace Go.Proofs.YtlbgffhipondiaaGreatDoor
open Go.RowKit Go.YtlbgffhipondiaaGreatDoor
set_option linter.unusedVariables false
theorem rfour_any (a : Nat) (ha : a < 4294967296) (w : World) :
    Calls Tryz.prog 236 #[.int .u32 (a : Int)] w fun e w' => e = .returned (.slice (some ⟨w.heap.size, 0, none⟩) 4 4) ∧ w' = w.alloc (.cells (u8s (be4 (a : Int))) 5) := by
  go_enter Tryz.func236, Tryz.ntmps236
  go_wp2
  go_ret
  exact ⟨rfl, rfl⟩
theorem rd_rfour (w : World) (a : Nat) : RdB (w.alloc (.cells (u8s (be4 (a : Int))) 5)) (.slice (some ⟨w.heap.size, 0, none⟩) 4 4) (be4 (a : Int)) := rd_rowM (heap_alloc_new w _) 4 4 rfl (Nat.le_refl _) (by decide)
set_option maxRecDepth 100000 in
theorem rnumber_any (bv : Value) (l D : List Int) (w : World) (hr : RdB w bv l) (hl : Bytes l) (hlm : l.length ≤ 200000) (hD : shaF l = D) :
    Calls Tryz.prog 237 #[bv] w fun e w' => e = .returned (.int .u64 (numN D 8)) ∧ Below w.heap.size w w' := by
  obtain ⟨ba, bc, rfl⟩ := hr.slice
  have hof := Lib.hid (rof_any (.slice ba l.length bc) l D w hr hl hlm hD)
  have hDl : D.length = 32 := by rw [← hD]; exact shaF_length l
  have hDb := Lib.hid (show Bytes D by rw [← hD]; exact shaF_bytes l)
  have hi := Lib.hid (show (Tryz.prog.info? 24).map (·.size) = some (u8s D).size from by rw [u8s_size, hDl]; kernel_rfl)
  have hs := Lib.hid (show 32 = (u8s D).size from by rw [u8s_size, hDl])
  have hDl' := Lib.hid hDl
  clear hr hl hD hDl hlm
  generalize l.length = n at *
  go_enter Tryz.func237, Tryz.ntmps237
  go_wp2_with (first | (go_at_call 133; refine (hof.out).mono ?_; rintro e w1 ⟨rfl, hb1⟩; have hb1' := Lib.hid hb1; have hz1 := hb1.size; clear hb1) | (refine storeNew w1 rfl 24 _ _ rfl (u8s D) 24 rfl rfl hi.out (Eq.trans (by kernel_rfl) hs.out) (u8s_one _) ?_; intro wx hr hb2; have kx := Lib.hid hr; have hBx := Lib.hid (hb1'.out.trans (hb2.mono hz1)); clear hr hb2; refine Stop.go'' _ ?_))
  refine StopP.go ?_
  generalize w1.heap.size = g at *
  have hck := Lib.hid (fun k (hk : k < 32) => (show wx.cell? ⟨g, k, none⟩ = some (.int .u8 (ith D k)) from by rw [cell_of_row _ _ _ _ _ _ kx.out]; exact u8s_get _ _ (by rw [hDl'.out]; exact hk)))
  clear hb1' hz1 kx hi hs hof
  go_wp2
  go_loop [4, 5] (fun n i => ∃ k : Nat, k ≤ 8 ∧ i = .int .i64 (k : Int) ∧ n = .int .u64 (numN D k)) (fun _ i => 8 - (intOf i).toNat)
  case atStart => exact ⟨0, by omega, rfl, rfl⟩
  case round =>
    obtain ⟨k, hk, rfl, rfl⟩ := hrel
    by_cases hlt : k < 8
    · have hc := hck.out k (by omega)
      obtain ⟨b0, b1⟩ := hDb.out k
      obtain ⟨x0, x1⟩ := numN_7 D hDb.out k (by omega)
      have hnx : numN D (k + 1) = numN D k * 256 + ith D k := rfl
      have i1 : (0 : Int) ≤ (k : Int) := by omega
      have i2 : (k : Int) < 32 := by omega
      have hnx' := Lib.hid hnx
      clear hnx
      generalize hX : numN D k = x at *
      generalize ith D k = b at *
      have hX' := Lib.hid hX; clear hX
      go_wp2
      go_round
      case rel => exact ⟨k + 1, by omega, by go_num, by rw [hnx'.out]; go_num⟩
      case measure => simp [intOf]; omega
    · obtain rfl : k = 8 := by omega
      go_wp2
      go_ret
      exact ⟨rfl, hBx.out⟩
end Go.Proofs.YtlbgffhipondiaaGreatDoor
namespace Go.Proofs.YtlbgffhipondiaaGreatDoor
open Go.RowKit Go.YtlbgffhipondiaaGreatDoor
set_option linter.unusedVariables false
theorem own_one (w : World) (x : Int) : OwnB w.heap.size 5 (w.alloc (.cells #[.int .u8 x] 5)) (.slice (some ⟨w.heap.size, 0, none⟩) 1 1) [x] :=
  ⟨rfl, .inr ⟨w.heap.size, 1, _, rfl, Nat.le_refl _, heap_alloc_new w _, Nat.le_refl _, by decide, rfl, rfl⟩⟩
theorem below_a (w : World) (o : Obj) : Below w.heap.size w (w.alloc o) := (Below.refl _ _).alloc (Nat.le_refl _) o
theorem be4_length (x : Int) : (be4 x).length = 4 := rfl
theorem hN_lt64 (mark : Int) (nums m : List Int) : (hN mark nums m : Int) < 18446744073709551616 := by
  rw [← hN_eq]
  exact (numN_in (shaF (headF mark nums nums.length ++ m)) (shaF_bytes _) 8).2
set_option maxRecDepth 100000 in
theorem rchal_any (r y : Nat) (hr : r < 4294967296) (hy : y < 4294967296) (mv : Value) (m : List Int) (w : World) (hm : RdB w mv m) (hmb : Bytes m) (hml : m.length ≤ 9991) :
    Calls Tryz.prog 210 #[.int .u32 (r : Int), .int .u32 (y : Int), mv] w fun e w' => e = .returned (.int .u32 (chalN r y m : Int)) ∧ Below w.heap.size w w' := by
  obtain ⟨ma, mc, rfl⟩ := hm.slice
  obtain ⟨X, hX⟩ : ∃ X, numN (shaF ((([99] ++ be4 (r : Int)) ++ be4 (y : Int)) ++ m)) 8 = (X : Nat) := ⟨_, hN_eq 99 [(r : Int), (y : Int)] m⟩
  have hXc : chalN r y m = X % 500000003 := by
    have h := hN_eq 99 [(r : Int), (y : Int)] m
    unfold chalN
    congr 1
    have : (hN 99 [(r : Int), (y : Int)] m : Int) = (X : Int) := by rw [← h]; exact hX
    omega
  have hX64 : X < 18446744073709551616 := by
    have h := hN_lt64 99 [(r : Int), (y : Int)] m
    have h2 := hN_eq 99 [(r : Int), (y : Int)] m
    have : (hN 99 [(r : Int), (y : Int)] m : Int) = (X : Int) := by rw [← h2]; exact hX
    omega
  have hbb := Lib.hid (bytes_append _ _ (bytes_append _ _ (bytes_append [99] _ (bytes_one 99 (by omega)) (be4_bytes (r : Int) ⟨by omega, by omega⟩)) (be4_bytes (y : Int) ⟨by omega, by omega⟩)) hmb)
  have hX' := Lib.hid hX; have hXc' := Lib.hid hXc; have hm' := Lib.hid hm
  have f1 := Lib.hid (rfour_any r hr); have f2 := Lib.hid (rfour_any y hy)
  clear hX hXc hm hmb hr hy
  generalize hml2 : m.length = ml at *
  have hml' := Lib.hid hml2; clear hml2
  go_enter Tryz.func210, Tryz.ntmps210
  go_wp2_with (go_at_call 236; (with_reducible refine (f1.out _).mono ?_); rintro e w1 ⟨rfl, hw1⟩; have hw1' := Lib.hid hw1; clear hw1; refine Stop.go'' _ ?_)
  refine StopP.go ?_
  have rd1 := Lib.hid (show RdB w1 (.slice (some ⟨w.heap.size + 1, 0, none⟩) 4 4) (be4 (r : Int)) by rw [hw1'.out]; have h := rd_rfour (w.alloc (.cells #[.int .u8 99] 5)) r; rw [World.size_alloc] at h; exact h)
  have ow1 := Lib.hid (show OwnB w.heap.size 5 w1 _ _ by rw [hw1'.out]; exact (own_one w 99).kept (below_a _ _))
  have hB1 := Lib.hid (show Below w.heap.size w w1 by rw [hw1'.out]; exact (below_a w _).trans ((below_a _ _).mono (by simp)))
  have hz1 := hB1.out.size
  clear hw1'
  go_wp2_with (refine appendB rfl _ _ 101 rfl w.heap.size 5 Tryz.underlying101 (by kernel_rfl) _ rfl _ ow1.out _ rfl _ rd1.out (by simp [be4_length]) hz1 ?_)
  intro v' w2 h1 h2
  have hB2 := Lib.hid (hB1.out.trans (ow1.out.below h2 hz1))
  have ow2 := Lib.hid (show OwnB w.heap.size 5 w2 v' ([99] ++ be4 (r : Int)) from h1)
  have hz2 := hB2.out.size
  obtain ⟨pa, pc, rfl⟩ := h1.rd.slice
  clear h1 h2 ow1 rd1 hB1 hz1
  refine Stop.go ?_
  go_wp2_with (go_at_call 236; (with_reducible refine (f2.out _).mono ?_); rintro e w3 ⟨rfl, hw3⟩; have hw3' := Lib.hid hw3; clear hw3; refine Stop.go'' _ ?_)
  refine StopP.go ?_
  have rd3 := Lib.hid (show RdB w3 _ _ by rw [hw3'.out]; exact rd_rfour w2 y)
  have ow3 := Lib.hid (show OwnB w.heap.size 5 w3 _ _ by rw [hw3'.out]; exact ow2.out.kept (below_a _ _))
  have hB3 := Lib.hid (show Below w.heap.size w w3 by rw [hw3'.out]; exact hB2.out.trans ((below_a _ _).mono hz2))
  have hz3 := hB3.out.size
  clear hw3' ow2 hB2
  go_wp2_with (refine appendB rfl _ _ 101 rfl w.heap.size 5 Tryz.underlying101 (by kernel_rfl) _ rfl _ ow3.out _ rfl _ rd3.out (by simp [be4_length]) hz3 ?_)
  intro v' w4 h1 h2
  have hB4 := Lib.hid (hB3.out.trans (ow3.out.below h2 hz3))
  have ow4 := Lib.hid (show OwnB w.heap.size 5 w4 v' (([99] ++ be4 (r : Int)) ++ be4 (y : Int)) from h1)
  have hz4 := hB4.out.size
  obtain ⟨qa, qc, rfl⟩ := h1.rd.slice
  have rm4 := Lib.hid (hm'.out.mono hB4.out)
  clear h1 h2 ow3 rd3 hB3 hz3
  refine Stop.go ?_
  go_wp2_with (refine appendB rfl _ _ 101 rfl w.heap.size 5 Tryz.underlying101 (by kernel_rfl) _ rfl _ ow4.out _ rfl _ rm4.out (by rw [hml'.out]; simp [be4_length]; omega) hz4 ?_)
  intro v' w5 h1 h2
  have hB5 := Lib.hid (hB4.out.trans (ow4.out.below h2 hz4))
  have rd5 := Lib.hid (show RdB w5 v' ((([99] ++ be4 (r : Int)) ++ be4 (y : Int)) ++ m) from h1.rd)
  have hz5 := hB5.out.size
  have hnum := rnumber_any v' _ _ w5 rd5.out hbb.out (by rw [List.length_append, hml'.out]; simp [be4_length]; omega) rfl
  rw [hX'.out] at hnum
  have hnum' := Lib.hid hnum
  obtain ⟨sa, sc, hv⟩ := rd5.out.slice
  rw [show List.length (α := Int) ((([99] ++ be4 (r : Int)) ++ be4 (y : Int)) ++ m) = ml + 9 by rw [List.length_append, hml'.out]; simp [be4_length]; omega] at hv
  subst hv
  clear h1 h2 ow4 rm4 hB4 hz4 hnum rd5 hX'
  refine Stop.go ?_
  go_wp2_with (go_at_call 237; (with_reducible refine (hnum'.out).mono ?_); rintro e w6 ⟨rfl, hb6⟩; have hb6' := Lib.hid hb6; clear hb6)
  go_ret
  exact ⟨by rw [hXc'.out]; exact ret_int (by omega), hB5.out.trans (hb6'.out.mono hz5)⟩
theorem rkey_any (a : Nat) (ha : a < 4294967296) (w : World) : Calls Tryz.prog 212 #[.int .u32 (a : Int)] w fun e w' => e = .returned (.int .u32 (grp.pw 4 a : Int)) ∧ w' = w := by
  have hb := Lib.hid (grp.rbase_any a (by omega))
  go_enter Tryz.func212, Tryz.ntmps212
  go_wp2_with (go_at_call 238; (with_reducible refine (hb.out _).mono ?_); rintro e w' ⟨rfl, rfl⟩)
  go_ret
  exact ⟨rfl, rfl⟩
end Go.Proofs.YtlbgffhipondiaaGreatDoor
namespace Go.Proofs.YtlbgffhipondiaaGreatDoor
open Go.RowKit Go.YtlbgffhipondiaaGreatDoor
set_option linter.unusedVariables false
set_option maxRecDepth 100000 in
set_option maxHeartbeats 1000000 in
theorem rright_any (y : Nat) (hy : grp.inG y = true) (S E : Nat) (hS : S < 4294967296) (hE : E < 4294967296) (mv : Value) (m : List Int) (w : World) (hm : RdB w mv m) (hmb : Bytes m) (hml : m.length ≤ 9991) :
    Calls Tryz.prog 178 #[.int .u32 (y : Int), mv, .agg #[.int .u32 (E : Int), .int .u32 (S : Int)]] w fun e w' => e = .returned (.bool (rightB y m S E)) ∧ Below w.heap.size w w' := by
  have xE := Lib.hid (rexp_any E hE _ rfl); have xS := Lib.hid (rexp_any S hS _ rfl)
  obtain ⟨ma, mc, rfl⟩ := hm.slice
  by_cases h1 : E < 500000003
  · rw [decide_eq_true h1] at xE
    by_cases h2 : S < 500000003
    · rw [decide_eq_true h2] at xS
      have hr : rightB y m S E = decide (chalN (rN y S E) y m = E) := by simp [rightB, h1, h2]
      rw [hr]
      have hC := Lib.hid (fun wi (o : Below w.heap.size w wi) => rchal_any (rN y S E) y (grp.GP_u32 (Nat.mod_lt _ grp.GP_pos)) (grp.inG_u32 hy) _ m wi (hm.mono o) hmb hml)
      have yGP := ((grp.inG_iff y).1 hy).2.1
      have hPo := Lib.hid (grp.raised_any y E yGP (by omega))
      have gP := grp.inG_pw y E hy
      unfold rN at hC ⊢
      generalize grp.pw y E = P at *
      have hIn := Lib.hid (grp.rinv_ok P gP)
      have gI := grp.inG_pw P 500000002 gP
      generalize grp.pw P 500000002 = I at *
      have hBa := Lib.hid (rkey_any S hS)
      have gB := grp.inG_pw 4 S grp.in4
      generalize grp.pw 4 S = B at *
      have hMu := Lib.hid (grp.product_any B I (((grp.inG_iff B).1 gB).2.1) (((grp.inG_iff I).1 gI).2.1))
      generalize B * I % grp.GP = R at *
      generalize chalN R y m = C at *
      have hc : Hid (∀ wi, Below (w.heap.size + 1) (w.alloc (.cells #[.int .u32 (E : Int), .int .u32 (S : Int)] 33)) wi → wi.cell? ⟨w.heap.size, 0, none⟩ = some (.int .u32 (E : Int)) ∧ wi.cell? ⟨w.heap.size, 1, none⟩ = some (.int .u32 (S : Int))) := Lib.hid fun wi o => ⟨(o.cell (p := ⟨w.heap.size, 0, none⟩) (Nat.lt_succ_self _)).trans (cell_of_row _ _ _ _ _ _ (heap_alloc_new w _)), (o.cell (p := ⟨w.heap.size, 1, none⟩) (Nat.lt_succ_self _)).trans (cell_of_row _ _ _ _ _ _ (heap_alloc_new w _))⟩
      obtain ⟨c0, c1⟩ := hc.out _ (Below.refl _ _)
      have hBs := Lib.hid (below_a w (.cells #[.int .u32 (E : Int), .int .u32 (S : Int)] 33))
      generalize m.length = n at *
      clear hm hmb hy yGP gP gI gB hr hS hE
      go_enter Tryz.func178, Tryz.ntmps178
      go_wp2_with (first | (go_at_call 177; (first | (with_reducible refine (xE.out _).mono ?_) | (with_reducible refine (xS.out _).mono ?_)); rintro e w' ⟨rfl, rfl⟩) | (go_at_call 209; (with_reducible refine (hPo.out _).mono ?_); rintro e w' ⟨rfl, rfl⟩) | (go_at_call 208; (with_reducible refine (hIn.out _).mono ?_); rintro e w' ⟨rfl, rfl⟩))
      go_region_held3 (fun w' => w'.cell? ⟨w.heap.size, 0, none⟩ = some (.int .u32 (E : Int)) ∧ w'.cell? ⟨w.heap.size, 1, none⟩ = some (.int .u32 (S : Int))) (first | go_keep | (exact hc.out _ hb6'.out))
        (first | (go_at_call 212; (with_reducible refine (hBa.out _).mono ?_); rintro e w' ⟨rfl, rfl⟩) | (go_at_call 211; (with_reducible refine (hMu.out _).mono ?_); rintro e w' ⟨rfl, rfl⟩) | (go_at_call 210; (with_reducible refine (hC.out _ hBs.out.drew).mono ?_); rintro e w6 ⟨rfl, hb6⟩; have hb6' := Lib.hid (show Below (w.heap.size + 1) (w.alloc (.cells #[.int .u32 (E : Int), .int .u32 (S : Int)] 33)) w6 from (Below.refl _ _).drew.trans (by simpa using hb6)); clear hb6))
      go_wp2
      go_ret
      have hBf := hBs.out.trans (hb6'.out.mono (by omega))
      first | exact ⟨ret_bool (dec_eq C E), hBf⟩ | exact ⟨ret_bool (dec_eq' C E), hBf⟩
    · rw [decide_eq_false h2] at xS
      have hr : rightB y m S E = false := by simp [rightB, h2]
      rw [hr]
      generalize m.length = n at *
      clear hm hmb hy hr h1 h2 hS hE
      go_enter Tryz.func178, Tryz.ntmps178
      go_wp2_with (go_at_call 177; (first | (with_reducible refine (xE.out _).mono ?_) | (with_reducible refine (xS.out _).mono ?_)); rintro e w' ⟨rfl, rfl⟩)
      go_ret
      exact ⟨rfl, below_a _ _⟩
  · rw [decide_eq_false h1] at xE
    have hr : rightB y m S E = false := by simp [rightB, h1]
    rw [hr]
    generalize m.length = n at *
    clear hm hmb hy hr h1 hS hE
    go_enter Tryz.func178, Tryz.ntmps178
    go_wp2_with (go_at_call 177; (first | (with_reducible refine (xE.out _).mono ?_) | (with_reducible refine (xS.out _).mono ?_)); rintro e w' ⟨rfl, rfl⟩)
    go_ret
    exact ⟨rfl, below_a _ _⟩
end Go.Proofs.YtlbgffhipondiaaGreatDoor
namespace Go.Proofs.YtlbgffhipondiaaGreatDoor.wir.val
open Go.RowKit Go.YtlbgffhipondiaaGreatDoor
set_option linter.unusedVariables false
set_option maxHeartbeats 4000000 in
set_option maxRecDepth 100000 in
theorem rSigned_any (o : Od) (fo : o.Fit) (h0 : chkO o = 0) (pv : Value) (w : World) (hp : RdI w pv o.n o.F) :
    Calls Tryz.prog 132 #[.agg (o.c pv)] w fun e w' => e = .returned (.bool (rightB o.au (msgB o) o.s o.e)) ∧ Below w.heap.size w w' := by
  obtain ⟨hn, _, hA⟩ := chk_zero h0
  obtain ⟨W, hW⟩ : ∃ W, W = w.alloc (.cells (o.c pv) 35) := ⟨_, rfl⟩
  have hr0 := heap_alloc_new w (.cells (o.c pv) 35)
  have hb0 := (Below.refl w.heap.size w).alloc (Nat.le_refl _) (.cells (o.c pv) 35)
  rw [← hW] at hr0 hb0
  have hms := Lib.hid (msgB_short o fo hn hp.len hA)
  have hmb := Lib.hid (msgB_bytes o fo hn hA)
  obtain ⟨pa, pc, rfl⟩ := hp.slice
  have hb1 := Lib.hid hb0
  have hrow := Lib.hid hr0
  have hlt := (Array.getElem?_eq_some_iff.1 hr0).1
  have hS := Lib.hid (show ∀ (wz : World) (h : Below W.heap.size W wz), (fun wz => wz.cell? ⟨w.heap.size, 0, none⟩ = some (.int .u32 (o.au : Int)) ∧ wz.cell? ⟨w.heap.size, 1, none⟩ = some (.slice pa o.n pc) ∧ wz.cell? ⟨w.heap.size, 2, none⟩ = some (.int .u64 (o.st : Int)) ∧ wz.cell? ⟨w.heap.size, 3, none⟩ = some (.int .u8 o.k) ∧ wz.cell? ⟨w.heap.size, 4, none⟩ = some (.string o.key) ∧ wz.cell? ⟨w.heap.size, 5, none⟩ = some (.int .u8 o.v.k) ∧ wz.cell? ⟨w.heap.size, 6, none⟩ = some (.int .i64 o.v.n) ∧ wz.cell? ⟨w.heap.size, 7, none⟩ = some (.int .u64 (o.v.b : Int)) ∧ wz.cell? ⟨w.heap.size, 8, none⟩ = some (.string o.v.s) ∧ wz.cell? ⟨w.heap.size, 9, none⟩ = some (.int .u32 (o.e : Int)) ∧ wz.cell? ⟨w.heap.size, 10, none⟩ = some (.int .u32 (o.s : Int))) wz from fun wz h => cells11 (rowB hrow.out h hlt))
  have hM := Lib.hid (fun (wz : World) (hb : Below W.heap.size W wz) => rmsg_any o fo hn hA (.slice pa o.n pc) wz ((hp.mono hb0).mono hb))
  have hR := Lib.hid (fun (wz : World) (v : Value) (h : RdB wz v (msgB o)) => rright_any o.au (chk_in h0) o.s o.e fo.s fo.e v (msgB o) wz h hmb.out (Nat.le_trans hms.out (by decide)))
  generalize rightB o.au (msgB o) o.s o.e = RB at *
  generalize hme : msgB o = MB at *
  clear hr0 hb0 hp fo hn hA hme h0
  go_enter Tryz.func132, Tryz.ntmps132
  go_upto_region 1 with fail
  rw [← hW]
  clear hW
  have hB := Lib.hid (show Below W.heap.size W W.drew from (Below.refl _ _).drew)
  obtain ⟨c0, c1, c2, c3, c4, c5, c6, c7, c8, c9, c10⟩ := hS.out W (Below.refl _ _)
  go_region_held3 (fun wz => wz.cell? ⟨w.heap.size, 0, none⟩ = some (.int .u32 (o.au : Int)) ∧ wz.cell? ⟨w.heap.size, 1, none⟩ = some (.slice pa o.n pc) ∧ wz.cell? ⟨w.heap.size, 2, none⟩ = some (.int .u64 (o.st : Int)) ∧ wz.cell? ⟨w.heap.size, 3, none⟩ = some (.int .u8 o.k) ∧ wz.cell? ⟨w.heap.size, 4, none⟩ = some (.string o.key) ∧ wz.cell? ⟨w.heap.size, 5, none⟩ = some (.int .u8 o.v.k) ∧ wz.cell? ⟨w.heap.size, 6, none⟩ = some (.int .i64 o.v.n) ∧ wz.cell? ⟨w.heap.size, 7, none⟩ = some (.int .u64 (o.v.b : Int)) ∧ wz.cell? ⟨w.heap.size, 8, none⟩ = some (.string o.v.s) ∧ wz.cell? ⟨w.heap.size, 9, none⟩ = some (.int .u32 (o.e : Int)) ∧ wz.cell? ⟨w.heap.size, 10, none⟩ = some (.int .u32 (o.s : Int))) (first | (exact hS.out _ hB.out) | go_keep)
    (first
      | (go_at_call 179; (with_reducible refine (hM.out _ hB.out).mono ?_); rintro e w4 ⟨z4, rfl, q1, q2⟩; replace hB := Lib.hid (hB.out.trans (Below.mono q2 hB.out.size)); have hO := Lib.hid q1.rd; obtain ⟨ma, mc, hz4⟩ := hO.out.slice; subst hz4; clear q1 q2)
      | (go_at_call 178; (with_reducible refine (hR.out _ _ hO.out).mono ?_); rintro e w4 ⟨rfl, q2⟩; replace hB := Lib.hid (hB.out.trans (Below.mono q2 hB.out.size)); clear q2))
  all_goals
    clear c0 c1 c2 c3 c4 c5 c6 c7 c8 c9 c10
    go_wp2
    go_ret
    exact ⟨rfl, hb1.out.trans (hB.out.mono hb1.out.size)⟩
theorem ver_right {o : Od} (h0 : chkO o = 0) : verO o = if rightB o.au (msgB o) o.s o.e = true then 0 else 22 := by unfold verO; rw [if_pos h0]
set_option maxHeartbeats 4000000 in
set_option maxRecDepth 100000 in
theorem rVerify_any (o : Od) (fo : o.Fit) (pv : Value) (w : World) (hp : RdI w pv o.n o.F) :
    Calls Tryz.prog 83 #[.agg (o.c pv)] w fun e w' => e = .returned (.int .i64 (verO o)) ∧ Below w.heap.size w w' := by
  obtain ⟨pa, pc, rfl⟩ := hp.slice
  obtain ⟨W, hW⟩ : ∃ W, W = w.alloc (.cells (o.c (.slice pa o.n pc)) 35) := ⟨_, rfl⟩
  have hS := Lib.hid (show Below w.heap.size w W by rw [hW]; exact below_a w _)
  have r0 := Lib.hid (show W.heap[w.heap.size]? = some (.cells (o.c (.slice pa o.n pc)) 35 (0, 0)) by rw [hW]; exact heap_alloc_new w _)
  have pw := Lib.hid hp
  have hck := Lib.hid (fun (wz : World) (h : RdI wz (.slice pa o.n pc) o.n o.F) => ropCheck_any o fo (.slice pa o.n pc) wz h)
  clear hp
  by_cases h0 : chkO o = 0
  · have hsg := Lib.hid (fun (wz : World) (h : RdI wz (.slice pa o.n pc) o.n o.F) => rSigned_any o fo h0 (.slice pa o.n pc) wz h)
    rw [ver_right h0]
    rw [h0] at hck
    generalize rightB o.au (msgB o) o.s o.e = RB at *
    clear fo h0
    cases RB
    · skip
      go_enter Tryz.func83, Tryz.ntmps83
      go_upto_region 1 with fail
      rw [← hW]
      clear hW
      go_wp2_with (first | (refine wpList_load_row_g rfl 35 _ rfl w.heap.size rfl 35 (o.c (.slice pa o.n pc)) (0, 0) _ r0.out Tryz.underlying35 rfl info_op ?_) | (go_at_call 131; (with_reducible refine (hck.out _ (pw.out.mono hS.out)).mono ?_); rintro e9 w4 ⟨rfl, q2⟩; (try replace r0 := Lib.hid (rowB r0.out q2 (Array.getElem?_eq_some_iff.1 r0.out).1)); replace hS := Lib.hid (hS.out.trans (Below.mono q2 hS.out.size)); clear q2) | (go_at_call 132; (with_reducible refine (hsg.out _ (pw.out.mono hS.out)).mono ?_); rintro e9 w4 ⟨rfl, q2⟩; (try replace r0 := Lib.hid (rowB r0.out q2 (Array.getElem?_eq_some_iff.1 r0.out).1)); replace hS := Lib.hid (hS.out.trans (Below.mono q2 hS.out.size)); clear q2))
      go_ret
      exact ⟨rfl, hS.out⟩
    · skip
      go_enter Tryz.func83, Tryz.ntmps83
      go_upto_region 1 with fail
      rw [← hW]
      clear hW
      go_wp2_with (first | (refine wpList_load_row_g rfl 35 _ rfl w.heap.size rfl 35 (o.c (.slice pa o.n pc)) (0, 0) _ r0.out Tryz.underlying35 rfl info_op ?_) | (go_at_call 131; (with_reducible refine (hck.out _ (pw.out.mono hS.out)).mono ?_); rintro e9 w4 ⟨rfl, q2⟩; (try replace r0 := Lib.hid (rowB r0.out q2 (Array.getElem?_eq_some_iff.1 r0.out).1)); replace hS := Lib.hid (hS.out.trans (Below.mono q2 hS.out.size)); clear q2) | (go_at_call 132; (with_reducible refine (hsg.out _ (pw.out.mono hS.out)).mono ?_); rintro e9 w4 ⟨rfl, q2⟩; (try replace r0 := Lib.hid (rowB r0.out q2 (Array.getElem?_eq_some_iff.1 r0.out).1)); replace hS := Lib.hid (hS.out.trans (Below.mono q2 hS.out.size)); clear q2))
      go_ret
      exact ⟨rfl, hS.out⟩
  · have hv : verO o = chkO o := if_neg h0
    rw [hv]
    have hx : (chkO o != 0) = true := by simpa using h0
    generalize chkO o = E at *
    clear hv fo h0
    go_enter Tryz.func83, Tryz.ntmps83
    go_upto_region 1 with fail
    rw [← hW]
    clear hW
    go_wp2_with (first | (refine wpList_load_row_g rfl 35 _ rfl w.heap.size rfl 35 (o.c (.slice pa o.n pc)) (0, 0) _ r0.out Tryz.underlying35 rfl info_op ?_) | (go_at_call 131; (with_reducible refine (hck.out _ (pw.out.mono hS.out)).mono ?_); rintro e9 w4 ⟨rfl, q2⟩; (try replace r0 := Lib.hid (rowB r0.out q2 (Array.getElem?_eq_some_iff.1 r0.out).1)); replace hS := Lib.hid (hS.out.trans (Below.mono q2 hS.out.size)); clear q2))
    go_ret
    exact ⟨rfl, hS.out⟩
end Go.Proofs.YtlbgffhipondiaaGreatDoor.wir.val
namespace Go.Proofs.YtlbgffhipondiaaGreatDoor.wir.val
open Go.RowKit Go.YtlbgffhipondiaaGreatDoor
set_option linter.unusedVariables false
end Go.Proofs.YtlbgffhipondiaaGreatDoor.wir.val

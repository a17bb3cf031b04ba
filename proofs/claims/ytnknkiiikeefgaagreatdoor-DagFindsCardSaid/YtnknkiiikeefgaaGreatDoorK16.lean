/- Layers 6 and 8: the reference: what is signed, and verdicts. JudgeFinds' walk. -/
import Derived.Test.YtnknkiiikeefgaaGreatDoorK13
import Derived.Test.YtnknkiiikeefgaaGreatDoorK07
import Derived.Test.YtnknkiiikeefgaaGreatDoorS03x
namespace Go.Proofs.YtnknkiiikeefgaaGreatDoor.wir.val
open Go.RowKit Go.YtnknkiiikeefgaaGreatDoor
set_option linter.unusedVariables false
set_option maxHeartbeats 4000000 in
set_option maxRecDepth 100000 in
theorem rSigned_any (o : Od) (fo : o.Fit) (h0 : chkO o = 0) (pv : Value) (w : World) (hp : RdI w pv o.n o.F) :
    Calls Tryz.prog 108 #[.agg (o.c pv)] w fun e w' => e = .returned (.bool (rightB o.au (msgB o) o.s o.e)) ∧ Below w.heap.size w w' := by
  obtain ⟨hn, _, hA⟩ := chk_zero h0
  obtain ⟨W, hW⟩ : ∃ W, W = w.alloc (.cells (o.c pv) 35) := ⟨_, rfl⟩
  have hr0 := heap_alloc_new w (.cells (o.c pv) 35)
  have hb0 := (Below.refl w.heap.size w).alloc (Nat.le_refl _) (.cells (o.c pv) 35)
  rw [← hW] at hr0 hb0
  have hms := Lib.hid (msgB_short o fo hn hp.len hA)
  have hmb := Lib.hid (msgB_bytes o fo hn hA)
  obtain ⟨pa, pc, rfl⟩ := hp.slice
  have hb1 := Lib.hid hb0
  have hrow := Lib.hid hr0
  have hlt := (Array.getElem?_eq_some_iff.1 hr0).1
  have hS := Lib.hid (show ∀ (wz : World) (h : Below W.heap.size W wz), (fun wz => wz.cell? ⟨w.heap.size, 0, none⟩ = some (.int .u32 (o.au : Int)) ∧ wz.cell? ⟨w.heap.size, 1, none⟩ = some (.slice pa o.n pc) ∧ wz.cell? ⟨w.heap.size, 2, none⟩ = some (.int .u64 (o.st : Int)) ∧ wz.cell? ⟨w.heap.size, 3, none⟩ = some (.int .u8 o.k) ∧ wz.cell? ⟨w.heap.size, 4, none⟩ = some (.string o.key) ∧ wz.cell? ⟨w.heap.size, 5, none⟩ = some (.int .u8 o.v.k) ∧ wz.cell? ⟨w.heap.size, 6, none⟩ = some (.int .i64 o.v.n) ∧ wz.cell? ⟨w.heap.size, 7, none⟩ = some (.int .u64 (o.v.b : Int)) ∧ wz.cell? ⟨w.heap.size, 8, none⟩ = some (.string o.v.s) ∧ wz.cell? ⟨w.heap.size, 9, none⟩ = some (.int .u32 (o.e : Int)) ∧ wz.cell? ⟨w.heap.size, 10, none⟩ = some (.int .u32 (o.s : Int))) wz from fun wz h => cells11 (rowB hrow.out h hlt))
  have hM := Lib.hid (fun (wz : World) (hb : Below W.heap.size W wz) => rmsg_any o fo hn hA (.slice pa o.n pc) wz ((hp.mono hb0).mono hb))
  have hR := Lib.hid (fun (wz : World) (v : Value) (h : RdB wz v (msgB o)) => rright_any o.au (chk_in h0) o.s o.e fo.s fo.e v (msgB o) wz h hmb.out (Nat.le_trans hms.out (by decide)))
  generalize rightB o.au (msgB o) o.s o.e = RB at *
  generalize hme : msgB o = MB at *
  clear hr0 hb0 hp fo hn hA hme h0
  go_enter Tryz.func108, Tryz.ntmps108
  go_upto_region 1 with fail
  rw [← hW]
  clear hW
  have hB := Lib.hid (show Below W.heap.size W W.drew from (Below.refl _ _).drew)
  obtain ⟨c0, c1, c2, c3, c4, c5, c6, c7, c8, c9, c10⟩ := hS.out W (Below.refl _ _)
  go_region_held3 (fun wz => wz.cell? ⟨w.heap.size, 0, none⟩ = some (.int .u32 (o.au : Int)) ∧ wz.cell? ⟨w.heap.size, 1, none⟩ = some (.slice pa o.n pc) ∧ wz.cell? ⟨w.heap.size, 2, none⟩ = some (.int .u64 (o.st : Int)) ∧ wz.cell? ⟨w.heap.size, 3, none⟩ = some (.int .u8 o.k) ∧ wz.cell? ⟨w.heap.size, 4, none⟩ = some (.string o.key) ∧ wz.cell? ⟨w.heap.size, 5, none⟩ = some (.int .u8 o.v.k) ∧ wz.cell? ⟨w.heap.size, 6, none⟩ = some (.int .i64 o.v.n) ∧ wz.cell? ⟨w.heap.size, 7, none⟩ = some (.int .u64 (o.v.b : Int)) ∧ wz.cell? ⟨w.heap.size, 8, none⟩ = some (.string o.v.s) ∧ wz.cell? ⟨w.heap.size, 9, none⟩ = some (.int .u32 (o.e : Int)) ∧ wz.cell? ⟨w.heap.size, 10, none⟩ = some (.int .u32 (o.s : Int))) (first | (exact hS.out _ hB.out) | go_keep)
    (first
      | (go_at_call 148; (with_reducible refine (hM.out _ hB.out).mono ?_); rintro e w4 ⟨z4, rfl, q1, q2⟩; replace hB := Lib.hid (hB.out.trans (Below.mono q2 hB.out.size)); have hO := Lib.hid q1.rd; obtain ⟨ma, mc, hz4⟩ := hO.out.slice; subst hz4; clear q1 q2)
      | (go_at_call 147; (with_reducible refine (hR.out _ _ hO.out).mono ?_); rintro e w4 ⟨rfl, q2⟩; replace hB := Lib.hid (hB.out.trans (Below.mono q2 hB.out.size)); clear q2))
  all_goals
    clear c0 c1 c2 c3 c4 c5 c6 c7 c8 c9 c10
    go_wp2
    go_ret
    exact ⟨rfl, hb1.out.trans (hB.out.mono hb1.out.size)⟩
theorem ver_right {o : Od} (h0 : chkO o = 0) : verO o = if rightB o.au (msgB o) o.s o.e = true then 0 else 22 := by unfold verO; rw [if_pos h0]
set_option maxHeartbeats 4000000 in
set_option maxRecDepth 100000 in
theorem rVerify_any (o : Od) (fo : o.Fit) (pv : Value) (w : World) (hp : RdI w pv o.n o.F) :
    Calls Tryz.prog 77 #[.agg (o.c pv)] w fun e w' => e = .returned (.int .i64 (verO o)) ∧ Below w.heap.size w w' := by
  obtain ⟨pa, pc, rfl⟩ := hp.slice
  obtain ⟨W, hW⟩ : ∃ W, W = w.alloc (.cells (o.c (.slice pa o.n pc)) 35) := ⟨_, rfl⟩
  have hS := Lib.hid (show Below w.heap.size w W by rw [hW]; exact below_a w _)
  have r0 := Lib.hid (show W.heap[w.heap.size]? = some (.cells (o.c (.slice pa o.n pc)) 35 (0, 0)) by rw [hW]; exact heap_alloc_new w _)
  have pw := Lib.hid hp
  have hck := Lib.hid (fun (wz : World) (h : RdI wz (.slice pa o.n pc) o.n o.F) => ropCheck_any o fo (.slice pa o.n pc) wz h)
  clear hp
  by_cases h0 : chkO o = 0
  · have hsg := Lib.hid (fun (wz : World) (h : RdI wz (.slice pa o.n pc) o.n o.F) => rSigned_any o fo h0 (.slice pa o.n pc) wz h)
    rw [ver_right h0]
    rw [h0] at hck
    generalize rightB o.au (msgB o) o.s o.e = RB at *
    clear fo h0
    cases RB
    · skip
      go_enter Tryz.func77, Tryz.ntmps77
      go_upto_region 1 with fail
      rw [← hW]
      clear hW
      go_wp2_with (first | (refine wpList_load_row_g rfl 35 _ rfl w.heap.size rfl 35 (o.c (.slice pa o.n pc)) (0, 0) _ r0.out Tryz.underlying35 rfl info_op ?_) | (go_at_call 107; (with_reducible refine (hck.out _ (pw.out.mono hS.out)).mono ?_); rintro e9 w4 ⟨rfl, q2⟩; (try replace r0 := Lib.hid (rowB r0.out q2 (Array.getElem?_eq_some_iff.1 r0.out).1)); replace hS := Lib.hid (hS.out.trans (Below.mono q2 hS.out.size)); clear q2) | (go_at_call 108; (with_reducible refine (hsg.out _ (pw.out.mono hS.out)).mono ?_); rintro e9 w4 ⟨rfl, q2⟩; (try replace r0 := Lib.hid (rowB r0.out q2 (Array.getElem?_eq_some_iff.1 r0.out).1)); replace hS := Lib.hid (hS.out.trans (Below.mono q2 hS.out.size)); clear q2))
      go_ret
      exact ⟨rfl, hS.out⟩
    · skip
      go_enter Tryz.func77, Tryz.ntmps77
      go_upto_region 1 with fail
      rw [← hW]
      clear hW
      go_wp2_with (first | (refine wpList_load_row_g rfl 35 _ rfl w.heap.size rfl 35 (o.c (.slice pa o.n pc)) (0, 0) _ r0.out Tryz.underlying35 rfl info_op ?_) | (go_at_call 107; (with_reducible refine (hck.out _ (pw.out.mono hS.out)).mono ?_); rintro e9 w4 ⟨rfl, q2⟩; (try replace r0 := Lib.hid (rowB r0.out q2 (Array.getElem?_eq_some_iff.1 r0.out).1)); replace hS := Lib.hid (hS.out.trans (Below.mono q2 hS.out.size)); clear q2) | (go_at_call 108; (with_reducible refine (hsg.out _ (pw.out.mono hS.out)).mono ?_); rintro e9 w4 ⟨rfl, q2⟩; (try replace r0 := Lib.hid (rowB r0.out q2 (Array.getElem?_eq_some_iff.1 r0.out).1)); replace hS := Lib.hid (hS.out.trans (Below.mono q2 hS.out.size)); clear q2))
      go_ret
      exact ⟨rfl, hS.out⟩
  · have hv : verO o = chkO o := if_neg h0
    rw [hv]
    have hx : (chkO o != 0) = true := by simpa using h0
    generalize chkO o = E at *
    clear hv fo h0
    go_enter Tryz.func77, Tryz.ntmps77
    go_upto_region 1 with fail
    rw [← hW]
    clear hW
    go_wp2_with (first | (refine wpList_load_row_g rfl 35 _ rfl w.heap.size rfl 35 (o.c (.slice pa o.n pc)) (0, 0) _ r0.out Tryz.underlying35 rfl info_op ?_) | (go_at_call 107; (with_reducible refine (hck.out _ (pw.out.mono hS.out)).mono ?_); rintro e9 w4 ⟨rfl, q2⟩; (try replace r0 := Lib.hid (rowB r0.out q2 (Array.getElem?_eq_some_iff.1 r0.out).1)); replace hS := Lib.hid (hS.out.trans (Below.mono q2 hS.out.size)); clear q2))
    go_ret
    exact ⟨rfl, hS.out⟩
end Go.Proofs.YtnknkiiikeefgaaGreatDoor.wir.val
namespace Go.Proofs.YtnknkiiikeefgaaGreatDoor.wir.val
open Go.RowKit Go.YtnknkiiikeefgaaGreatDoor
set_option linter.unusedVariables false
/-- The bytes that the law changes: each cell is a byte, and nothing else has turned. -/
def Churned (g LB : Nat) (T : TypeId) (w wr : World) : Prop := (∀ j, j ≠ g → wr.heap[j]? = w.heap[j]?) ∧ wr.heap.size = w.heap.size ∧ ∃ cs, wr.heap[g]? = some (.cells cs T (0, 0)) ∧ ∀ i, i < LB → ∃ x, cs[i]? = some (.int .u8 x)
theorem churned_set {g LB : Nat} {T : TypeId} {w wr : World} (h : Churned g LB T w wr) (k : Nat) (y : Int) : Churned g LB T w (wr.setCell ⟨g, k, none⟩ (.int .u8 y)) := by
  obtain ⟨h1, h2, cs, h3, h4⟩ := h
  refine ⟨fun j hj => (setCell_rows _ _ _ _ hj).trans (h1 j hj), by simp [World.setCell, h2], _, setCell_row h3 k _, fun i hi => ?_⟩
  obtain ⟨x, hx⟩ := h4 i hi
  rw [Array.getElem?_setIfInBounds]
  split
  · split
    · exact ⟨y, rfl⟩
    · rename_i h5 h6
      subst h5
      rw [Array.getElem?_eq_none (by omega)] at hx; cases hx
  · exact ⟨x, hx⟩
theorem eqIds (D : List Int) (hD : D.length = 32) (w : World) : (binOp .eql 24 (.agg (u8s D)) (.agg (u8s D))).run Tryz.prog w = .ok (.bool true) w := by
  have he := run_equalArr (P := Tryz.prog) w 9998 24 5 32 Tryz.underlying24 Tryz.underlying5 (by kernel_rfl) D D hD hD
  simp [go_sem, he]
theorem idGuard : Tryz.prog.eqGuardType Tryz.prog.depth 24 = false := by kernel_rfl
theorem of_no {b : List Int} (h : vd b ≠ 0) {w w' : World} {e : Ending} (hp : ofPost w b e w') : ∃ ia ic, e = .returned (.tuple #[.agg (zO.c (.slice ia zO.n ic)), .agg (u8s (zerosB 32)), .int .u8 (vd b)]) ∧ HeldI w.heap.size w' (.slice ia zO.n ic) zO.n zO.F ∧ Below w.heap.size w w' := by
  rcases hp.2 with ⟨_, he⟩ | ⟨o, a, c, h0, _⟩
  · exact ⟨none, 0, he, heldI_nil _ _, hp.1⟩
  · exact absurd h0 h
theorem of_yes {b : List Int} {o : Od} (h : vd b = 0) (hd : decO b = some o) {w w' : World} {e : Ending} (hp : ofPost w b e w') : ∃ ia ic, e = .returned (.tuple #[.agg (o.c (.slice ia o.n ic)), .agg (u8s (shaF b)), .int .u8 0]) ∧ HeldI w.heap.size w' (.slice ia o.n ic) o.n o.F ∧ Below w.heap.size w w' := by
  rcases hp.2 with ⟨h0, _⟩ | ⟨p, a, c, _, _, hq, _, he, hi⟩
  · exact absurd h h0
  · rw [hd] at hq
    obtain rfl := Option.some.inj hq
    exact ⟨a, c, he, hi, hp.1⟩
end Go.Proofs.YtnknkiiikeefgaaGreatDoor.wir.val

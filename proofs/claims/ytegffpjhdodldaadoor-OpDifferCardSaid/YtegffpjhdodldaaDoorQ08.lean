/- Layer 6: messages and bytes: contracts of package op. Layer 6: bytes: contract of package op's Encode. -/
import Derived.Test.YtegffpjhdodldaaDoorQ07
namespace Go.Proofs.YtegffpjhdodldaaDoor.wir.val
open Go.RowKit Go.YtegffpjhdodldaaDoor
set_option linter.unusedVariables false
def Od.bare (o : Od) : Od := { o with e := 0, s := 0 }
theorem Od.Fit.bare {o : Od} (h : o.Fit) : o.bare.Fit := ⟨h.au, h.F, h.n, h.st, h.k, h.key, h.v, (show 0 < 4294967296 by decide), (show 0 < 4294967296 by decide)⟩
theorem msgB_bare (o : Od) : msgB o.bare = msgB o := rfl
theorem chk_zero {o : Od} (h : chkO o = 0) : o.n ≤ 4 ∧ riseF o.F o.n = true ∧ actB o.k o.key o.v = true := by
  unfold chkO at h
  by_cases h1 : 4 < o.n
  · rw [if_pos h1] at h; omega
  · rw [if_neg h1] at h
    by_cases h2 : riseF o.F o.n = true
    · rw [if_pos h2] at h
      by_cases h3 : okO o = true
      · unfold okO at h3
        simp only [Bool.and_eq_true] at h3
        exact ⟨by omega, h2, h3.2.2.1⟩
      · rw [if_neg h3] at h; omega
    · rw [if_neg h2] at h; omega
/-- The bytes of an operation. -/
def encO (o : Od) : List Int := (msgB o ++ numB o.e) ++ numB o.s
theorem op_one (o : Od) (a : Option Addr) (n c : Nat) : (o.c (.slice a n c)).all (·.oneCell') = true := by simp [Od.c, Value.oneCell']
theorem set_sig {w : World} {g : Nat} {o : Od} {pv : Value} (h : w.heap[g]? = some (.cells (o.c pv) 32 (0, 0))) (e s : Int) :
    (w.setCell ⟨g, 9, none⟩ (.int .u32 e)).setCell ⟨g, 10, none⟩ (.int .u32 s) = w.setRow g #[.int .u32 (o.au : Int), pv, .int .u64 (o.st : Int), .int .u8 o.k, .string o.key, .int .u8 o.v.k, .int .i64 o.v.n, .int .u64 (o.v.b : Int), .string o.v.s, .int .u32 e, .int .u32 s] := by
  have h1 := fun c => setRow_heap w g (o.c pv) c _ (0, 0) h
  rw [setCell_eq h]
  rw [setCell_eq (h1 _), setRow2 h]
  simp only [List.setIfInBounds_toArray, List.set_cons_succ, List.set_cons_zero]
set_option maxHeartbeats 4000000 in
set_option maxRecDepth 100000 in
theorem opMessage_any (o : Od) (fo : o.Fit) (pv : Value) (w : World) (hp : RdI w pv o.n o.F) :
    Calls Tryd.prog 10 #[.agg (o.c pv)] w fun e w' => (if chkO o.bare = 0 then ∃ sv, e = .returned (.tuple #[sv, .int .i64 0]) ∧ OwnB w.heap.size 5 w' sv (msgB o) else e = .returned (.tuple #[.slice none 0 0, .int .i64 (chkO o.bare)])) ∧ Below w.heap.size w w' := by
  obtain ⟨W, hW⟩ : ∃ W, W = w.alloc (.cells (o.c pv) 32) := ⟨_, rfl⟩
  have hr0 := heap_alloc_new w (.cells (o.c pv) 32)
  have hb0 := (Below.refl w.heap.size w).alloc (Nat.le_refl _) (.cells (o.c pv) 32)
  rw [← hW] at hr0 hb0
  obtain ⟨pa, pc, rfl⟩ := hp.slice
  have hsz := Lib.hid (Array.getElem?_eq_some_iff.1 hr0).1
  have hp1 := Lib.hid (hp.mono hb0)
  have hb1 := Lib.hid hb0
  have hf := fun i => frozen_of_row W w.heap.size i (o.c (.slice pa o.n pc)) 32 hr0
  have f9 := hf 9
  have f10 := hf 10
  have hcs := cellsO hr0
  obtain ⟨_, _, _, _, _, c9, c10⟩ := hcs
  have hset := Lib.hid (set_sig hr0 0 0)
  have hrow0 := Lib.hid hr0
  clear hr0 hb0 hf
  go_enter Tryd.func10, Tryd.ntmps10
  go_upto_region 1 with fail
  rw [← hW]
  clear hW
  go_upto_region 2 with fail
  rw [hset.out]
  have hrow := Lib.hid (show (W.setRow w.heap.size (o.bare.c (.slice pa o.n pc))).heap[w.heap.size]? = some (.cells (o.bare.c (.slice pa o.n pc)) 32 (0, 0)) from setRow_heap _ _ _ _ _ _ hrow0.out)
  have hbW := Lib.hid (show Below w.heap.size w (W.setRow w.heap.size (o.bare.c (.slice pa o.n pc))) from below_setRow' hb1.out (Nat.le_refl _) _)
  clear hset
  change Code.wp _ _ _ _ (W.setRow w.heap.size (o.bare.c (.slice pa o.n pc)))
  generalize W.setRow w.heap.size (o.bare.c (.slice pa o.n pc)) = W2 at *
  have hp2 := Lib.hid (hp.mono hbW.out)
  have hK := Lib.hid (opCheck_any o.bare fo.bare (.slice pa o.n pc) W2 hp2.out)
  have hM := Lib.hid (fun (h : chkO o.bare = 0) (wz : World) (hb : Below W2.heap.size W2 wz) => message_any o.bare fo.bare (chk_zero h).1 (chk_zero h).2.1 (chk_zero h).2.2 (.slice pa o.n pc) wz (hp2.out.mono hb))
  clear hp1 hp hrow0 c9 c10 f9 f10 fo hb1
  generalize hE : chkO o.bare = E at *
  by_cases h0 : E = 0
  · have hb0 : (E != 0) = false := by rw [h0]; rfl
    have hM' := Lib.hid (hM.out h0)
    have hE' := Lib.hid (hE.trans h0)
    clear hM hE
    go_wp2_with (first
      | (refine wpList_load_row_g rfl 32 _ rfl w.heap.size rfl 32 (o.bare.c (.slice pa o.n pc)) (0, 0) _ hrow.out Tryd.underlying32 rfl info_op ?_)
      | (go_at_call 22; (with_reducible refine (hK.out).mono ?_); rintro e w3 ⟨rfl, h3⟩; have hb3 := Lib.hid h3; have hrow3 := Lib.hid (rowB hrow.out h3 (Array.getElem?_eq_some_iff.1 hrow.out).1); clear h3)
      | (refine wpList_load_row_g rfl 32 _ rfl w.heap.size rfl 32 (o.bare.c (.slice pa o.n pc)) (0, 0) _ hrow3.out Tryd.underlying32 rfl info_op ?_)
      | (go_at_call 27; (with_reducible refine (hM'.out _ hb3.out).mono ?_); rintro e w4 ⟨sv, rfl, h4, h5⟩; have hO := Lib.hid h4; have hb4 := Lib.hid (hbW.out.trans ((hb3.out.mono hbW.out.size).trans (h5.mono (Nat.le_trans hbW.out.size hb3.out.size)))); have hle := Lib.hid (Nat.le_trans hbW.out.size hb3.out.size); clear h4 h5))
    go_ret2
    exact ⟨⟨_, rfl, hO.out.mono hle.out⟩, hb4.out⟩
  · have hb0 : (E != 0) = true := by simpa using h0
    have hE' := Lib.hid (show ¬ chkO o.bare = 0 from fun h => h0 (hE ▸ h))
    have hEE := Lib.hid hE
    clear hM hE
    go_wp2_with (first
      | (refine wpList_load_row_g rfl 32 _ rfl w.heap.size rfl 32 (o.bare.c (.slice pa o.n pc)) (0, 0) _ hrow.out Tryd.underlying32 rfl info_op ?_)
      | (go_at_call 22; (with_reducible refine (hK.out).mono ?_); rintro e w3 ⟨rfl, h3⟩; have hb3 := Lib.hid h3; clear h3))
    go_ret2
    exact ⟨by first | (rw [if_neg hE'.out, hEE.out]; rfl) | (rw [hEE.out]; rfl) | rfl, hbW.out.trans (hb3.out.mono hbW.out.size)⟩
theorem cells11 {w : World} {g : Nat} {x0 x1 x2 x3 x4 x5 x6 x7 x8 x9 x10 : Value} {T : TypeId} (h : w.heap[g]? = some (.cells #[x0, x1, x2, x3, x4, x5, x6, x7, x8, x9, x10] T (0, 0))) :
    w.cell? ⟨g, 0, none⟩ = some x0 ∧ w.cell? ⟨g, 1, none⟩ = some x1 ∧ w.cell? ⟨g, 2, none⟩ = some x2 ∧ w.cell? ⟨g, 3, none⟩ = some x3 ∧ w.cell? ⟨g, 4, none⟩ = some x4 ∧ w.cell? ⟨g, 5, none⟩ = some x5 ∧ w.cell? ⟨g, 6, none⟩ = some x6 ∧ w.cell? ⟨g, 7, none⟩ = some x7 ∧ w.cell? ⟨g, 8, none⟩ = some x8 ∧ w.cell? ⟨g, 9, none⟩ = some x9 ∧ w.cell? ⟨g, 10, none⟩ = some x10 :=
  ⟨cell_of_row _ _ _ _ _ _ h, cell_of_row _ _ _ _ _ _ h, cell_of_row _ _ _ _ _ _ h, cell_of_row _ _ _ _ _ _ h, cell_of_row _ _ _ _ _ _ h, cell_of_row _ _ _ _ _ _ h, cell_of_row _ _ _ _ _ _ h, cell_of_row _ _ _ _ _ _ h, cell_of_row _ _ _ _ _ _ h, cell_of_row _ _ _ _ _ _ h, cell_of_row _ _ _ _ _ _ h⟩
theorem msgB_short (o : Od) (fo : o.Fit) (hn : o.n ≤ 4) (hl : o.F.length = 32 * o.n) (hA : actB o.k o.key o.v = true) : (msgB o).length ≤ 380 := by
  have h1 := numL_le o.au (by have := fo.au; omega)
  have h2 := numL_le o.st fo.st
  have h3 := numL_le o.n (by omega)
  have hT : o.key.size ≤ 20 → (textB (sI o.key)).length ≤ 30 := fun h => by rw [textB_length, sI_length]; have := numL_le o.key.size (by omega); omega
  unfold msgB
  simp only [List.length_append, numB_length, hl, List.length_cons, List.length_nil]
  rcases act_kinds hA with hk | ⟨hk, hs⟩ | ⟨hk, hs, hv⟩
  · rw [if_pos hk, if_neg (by rw [hk]; decide)]; simp; omega
  · have := hT hs
    rw [if_neg (by rcases hk with hk | hk <;> (rw [hk]; decide)), if_neg (by rcases hk with hk | hk <;> (rw [hk]; decide))]
    simp; omega
  · have := hT hs
    have := encB_short fo.v hv
    rw [if_neg (by rw [hk]; decide), if_pos hk]
    omega
end Go.Proofs.YtegffpjhdodldaaDoor.wir.val
namespace Go.Proofs.YtegffpjhdodldaaDoor.wir.val
open Go.RowKit Go.YtegffpjhdodldaaDoor
set_option linter.unusedVariables false
set_option maxHeartbeats 8000000 in
set_option maxRecDepth 100000 in
theorem opEncode_ok (o : Od) (fo : o.Fit) (pv : Value) (w : World) (hp : RdI w pv o.n o.F) (h0 : chkO o = 0) :
    Calls Tryd.prog 14 #[.agg (o.c pv)] w fun e w' => ∃ sv, e = .returned (.tuple #[sv, .int .i64 0]) ∧ OwnB w.heap.size 5 w' sv (encO o) ∧ Below w.heap.size w w' := by
  obtain ⟨W, hW⟩ : ∃ W, W = w.alloc (.cells (o.c pv) 32) := ⟨_, rfl⟩
  have hr0 := heap_alloc_new w (.cells (o.c pv) 32)
  have hb0 := (Below.refl w.heap.size w).alloc (Nat.le_refl _) (.cells (o.c pv) 32)
  rw [← hW] at hr0 hb0
  have hms := Lib.hid (msgB_short o fo (chk_zero h0).1 hp.len (chk_zero h0).2.2)
  obtain ⟨pa, pc, rfl⟩ := hp.slice
  have hp1 := Lib.hid (hp.mono hb0)
  have hb1 := Lib.hid hb0
  have hrow := Lib.hid hr0
  have hlt := (Array.getElem?_eq_some_iff.1 hr0).1
  have hrows := Lib.hid (fun (wz : World) (h : Below W.heap.size W wz) => rowB hrow.out h hlt)
  have hS := Lib.hid (show ∀ (wz : World) (h : Below W.heap.size W wz), (fun wz => wz.cell? ⟨w.heap.size, 0, none⟩ = some (.int .u32 (o.au : Int)) ∧ wz.cell? ⟨w.heap.size, 1, none⟩ = some (.slice pa o.n pc) ∧ wz.cell? ⟨w.heap.size, 2, none⟩ = some (.int .u64 (o.st : Int)) ∧ wz.cell? ⟨w.heap.size, 3, none⟩ = some (.int .u8 o.k) ∧ wz.cell? ⟨w.heap.size, 4, none⟩ = some (.string o.key) ∧ wz.cell? ⟨w.heap.size, 5, none⟩ = some (.int .u8 o.v.k) ∧ wz.cell? ⟨w.heap.size, 6, none⟩ = some (.int .i64 o.v.n) ∧ wz.cell? ⟨w.heap.size, 7, none⟩ = some (.int .u64 (o.v.b : Int)) ∧ wz.cell? ⟨w.heap.size, 8, none⟩ = some (.string o.v.s) ∧ wz.cell? ⟨w.heap.size, 9, none⟩ = some (.int .u32 (o.e : Int)) ∧ wz.cell? ⟨w.heap.size, 10, none⟩ = some (.int .u32 (o.s : Int))) wz from fun wz h => cells11 (hrows.out wz h))
  have hK := Lib.hid (opCheck_any o fo (.slice pa o.n pc) W hp1.out)
  rw [h0] at hK
  have hM := Lib.hid (fun (wz : World) (hb : Below W.heap.size W wz) => message_any o fo (chk_zero h0).1 (chk_zero h0).2.1 (chk_zero h0).2.2 (.slice pa o.n pc) wz (hp1.out.mono hb))
  have hne := Lib.hid (fun (wz : World) => number_any o.e (by have := fo.e; omega) wz)
  have hns := Lib.hid (fun (wz : World) => number_any o.s (by have := fo.s; omega) wz)
  have le := Lib.hid (numL_le o.e (by have := fo.e; omega))
  have ls := Lib.hid (numL_le o.s (by have := fo.s; omega))
  have hwe := u64_nat o.e (by have := fo.e; omega)
  have hws := u64_nat o.s (by have := fo.s; omega)
  have he := Lib.hid (show encO o = (msgB o ++ numB o.e) ++ numB o.s from rfl)
  generalize encO o = EO at *
  generalize hme : msgB o = MB at *
  clear hr0 hb0 hp fo h0 hme
  go_enter Tryd.func14, Tryd.ntmps14
  go_upto_region 1 with fail
  rw [← hW]
  clear hW
  go_upto_region 4 with (first | (refine wpList_load_row_g rfl 32 _ rfl w.heap.size rfl 32 (o.c (.slice pa o.n pc)) (0, 0) _ hrow.out Tryd.underlying32 rfl info_op ?_) | (go_at_call 22; (with_reducible refine (hK.out).mono ?_); rintro e w3 ⟨rfl, h3⟩; have hB3 := Lib.hid h3; clear h3))
  have hB := Lib.hid (show Below W.heap.size W w3.drew from hB3.out.drew)
  have hB0 := Lib.hid (show W.heap.size ≤ w3.drew.heap.size from hB.out.size)
  obtain ⟨c0, c1, c2, c3, c4, c5, c6, c7, c8, c9, c10⟩ := hS.out w3 hB3.out
  obtain ⟨N5, hN5⟩ : ∃ N, (MB ++ numB o.e).length = N := ⟨_, rfl⟩
  have hN6 := Lib.hid (show N5 ≤ 400 by rw [← hN5, List.length_append, numB_length]; have h1 := hms.out; have h2 := le.out; omega)
  replace hN5 := Lib.hid hN5
  go_region_held3 (fun wz => wz.cell? ⟨w.heap.size, 0, none⟩ = some (.int .u32 (o.au : Int)) ∧ wz.cell? ⟨w.heap.size, 1, none⟩ = some (.slice pa o.n pc) ∧ wz.cell? ⟨w.heap.size, 2, none⟩ = some (.int .u64 (o.st : Int)) ∧ wz.cell? ⟨w.heap.size, 3, none⟩ = some (.int .u8 o.k) ∧ wz.cell? ⟨w.heap.size, 4, none⟩ = some (.string o.key) ∧ wz.cell? ⟨w.heap.size, 5, none⟩ = some (.int .u8 o.v.k) ∧ wz.cell? ⟨w.heap.size, 6, none⟩ = some (.int .i64 o.v.n) ∧ wz.cell? ⟨w.heap.size, 7, none⟩ = some (.int .u64 (o.v.b : Int)) ∧ wz.cell? ⟨w.heap.size, 8, none⟩ = some (.string o.v.s) ∧ wz.cell? ⟨w.heap.size, 9, none⟩ = some (.int .u32 (o.e : Int)) ∧ wz.cell? ⟨w.heap.size, 10, none⟩ = some (.int .u32 (o.s : Int))) (first | (exact hS.out _ hB.out) | go_keep)
    (first
      | (go_at_call 27; (with_reducible refine (hM.out _ hB.out).mono ?_); rintro e w4 ⟨sv, rfl, q1, q2⟩; (try replace hO := Lib.hid (hO.out.kept q2)); (try replace hr := Lib.hid (hr.out.mono q2)); replace hB := Lib.hid (hB.out.trans (Below.mono q2 hB.out.size)); have hO := Lib.hid (q1.mono hB0.out); obtain ⟨ma, mc, hmv⟩ := hO.out.rd.slice; subst hmv; clear q1 q2)
      | (go_at_call 32; (with_reducible refine (hne.out _).mono ?_); rintro e w4 ⟨rfl, q1, q2⟩; (try replace hO := Lib.hid (hO.out.kept q2)); (try replace hr := Lib.hid (hr.out.mono q2)); replace hB := Lib.hid (hB.out.trans (Below.mono q2 hB.out.size)); have hr := Lib.hid (rdB_row q1 _ (numB_length _) (Nat.le_trans le.out (by decide))); clear q1 q2)
      | (refine step_appendB (by rfl) _ _ 40 (by rfl) W.heap.size 5 Tryd.underlying40 (by kernel_rfl) _ (by rfl) MB hO.out _ (by rfl) (numB o.e) hr.out (by rw [numB_length]; have h1 := hms.out; have h2 := le.out; omega) (hB.out.size) ?_; intro v5 w5 h1 h2; replace hB := Lib.hid (hB.out.trans (hO.out.below h2 hB.out.size)); replace hO := Lib.hid h1; obtain ⟨na, nc, hnv⟩ := hO.out.rd.slice; rw [hN5.out] at hnv; subst hnv; clear h1 h2))
  all_goals
    clear c0 c1 c2 c3 c4 c5 c6 c7 c8 c9 c10 hr
    obtain ⟨c0, c1, c2, c3, c4, c5, c6, c7, c8, c9, c10⟩ := hS.out _ hB.out
    go_upto_region 5 with fail
    go_wp2_with (go_at_call 32; (with_reducible refine (hns.out _).mono ?_); rintro e w4 ⟨rfl, q1, q2⟩; (try replace hO := Lib.hid (hO.out.kept q2)); (try replace hr := Lib.hid (hr.out.mono q2)); replace hB := Lib.hid (hB.out.trans (Below.mono q2 hB.out.size)); have hr := Lib.hid (rdB_row q1 _ (numB_length _) (Nat.le_trans ls.out (by decide))); clear q1 q2; refine Stop.go'' _ ?_)
    refine StopP.go ?_
    go_wp2_with (refine appendB rfl _ _ 40 rfl W.heap.size 5 Tryd.underlying40 (by kernel_rfl) _ rfl (MB ++ numB o.e) hO.out _ rfl (numB o.s) hr.out (by rw [hN5.out, numB_length]; have h1 := hN6.out; have h3 := ls.out; omega) hB.out.size ?_)
    intro v6 w6 h1 h2
    replace hB := Lib.hid (hB.out.trans (hO.out.below h2 hB.out.size))
    replace hO := Lib.hid h1
    clear h1 h2
    refine Stop.go ?_
    go_wp2
    go_ret2
    exact ⟨_, rfl, by rw [he.out, List.append_assoc]; first | exact hO.out.mono hb1.out.size | (rw [← List.append_assoc]; exact hO.out.mono hb1.out.size), hb1.out.trans (hB.out.mono hb1.out.size)⟩
end Go.Proofs.YtegffpjhdodldaaDoor.wir.val

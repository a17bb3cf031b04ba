/- Layer 6: an operation is the same as its copy: contract of the reference. Layer 6: OpMakes' walk. -/
import Derived.Test.YtddelpjlcmaomaaDoorQ13
namespace Go.Proofs.YtddelpjlcmaomaaDoor.wir.val
open Go.RowKit Go.YtddelpjlcmaomaaDoor
set_option linter.unusedVariables false
set_option maxHeartbeats 4000000 in
set_option maxRecDepth 100000 in
theorem sameO_yes (o : Od) (hn : o.n ≤ 20) (pv qv : Value) (w : World) (hp : RdI w pv o.n o.F) (hq : RdI w qv o.n o.F) :
    Calls Tryd.prog 22 #[.agg (o.c pv), .agg (o.c qv)] w fun e w' => e = .returned (.bool true) ∧ Below w.heap.size w w' := by
  obtain ⟨pa, pc, rfl⟩ := hp.slice
  obtain ⟨qa, qc, rfl⟩ := hq.slice
  obtain ⟨W, hW⟩ : ∃ W, W = (w.alloc (.cells (o.c (.slice pa o.n pc)) 32)).alloc (.cells (o.c (.slice qa o.n qc)) 32) := ⟨_, rfl⟩
  have hr0 : W.heap[w.heap.size]? = some (.cells (o.c (.slice pa o.n pc)) 32 (0, 0)) := by rw [hW]; exact rowB (heap_alloc_new w _) (below_a _ _) (by simp)
  have hr1 : W.heap[w.heap.size + 1]? = some (.cells (o.c (.slice qa o.n qc)) 32 (0, 0)) := by rw [hW]; exact hn2 w _ _
  have hb0 : Below w.heap.size w W := by rw [hW]; exact ((Below.refl w.heap.size w).alloc (Nat.le_refl _) _).alloc (by simp) _
  have hb1 := Lib.hid hb0
  have hlt := Lib.hid (Array.getElem?_eq_some_iff.1 hr0).1
  have hlt1 := Lib.hid (Array.getElem?_eq_some_iff.1 hr1).1
  have hrows := Lib.hid (fun (wz : World) (h : Below W.heap.size W wz) => cellsO (rowB hr0 h hlt.out))
  have hress := Lib.hid (fun (wz : World) (h : Below W.heap.size W wz) => cellsO (rowB hr1 h hlt1.out))
  have hI := Lib.hid (sameIDs_any o.n o.n o.F o.F _ _ W (by omega) (hp.mono hb0) (hq.mono hb0))
  rw [sameF_self] at hI
  obtain ⟨c0, c1, c2, _, _, c9, c10⟩ := cellsO hr0
  obtain ⟨d0, d1, d2, _, _, d9, d10⟩ := cellsO hr1
  have hqA := Lib.hid (fun wz => show (binOp .eql 28 (aA o.k o.key o.v) (aA o.k o.key o.v)).run Tryd.prog wz = .ok (.bool true) wz by rw [eqlA]; simp [eqB])
  clear hr0 hr1 hb0 hp hq
  go_enter Tryd.func22, Tryd.ntmps22
  go_upto_region 1 with fail
  rw [← hW]
  clear hW
  go_wp2_with (first
    | (go_at_call 60; (with_reducible refine (hI.out).mono ?_); rintro e w3 ⟨rfl, h3⟩; have hB := Lib.hid (h3.below (Below.refl W.heap.size W)); clear h3 c0 c1 c2 c9 c10 d0 d1 d2 d9 d10; obtain ⟨c0, c1, c2, _, _, c9, c10⟩ := hrows.out _ hB.out; obtain ⟨d0, d1, d2, _, _, d9, d10⟩ := hress.out _ hB.out)
    | (refine wpList_midV rfl 28 _ rfl w.heap.size 3 rfl [.int .u8 o.k, .string o.key, .int .u8 o.v.k, .int .i64 o.v.n, .int .u64 (o.v.b : Int), .string o.v.s] _ (hrows.out _ hB.out).2.2.2.1 Tryd.underlying28 rfl info_act ?_)
    | (refine wpList_midV rfl 28 _ rfl (w.heap.size + 1) 3 rfl [.int .u8 o.k, .string o.key, .int .u8 o.v.k, .int .i64 o.v.n, .int .u64 (o.v.b : Int), .string o.v.s] _ (hress.out _ hB.out).2.2.2.1 Tryd.underlying28 rfl info_act ?_)
    | (refine wpList_midV rfl 30 _ rfl w.heap.size 9 rfl [.int .u32 (o.e : Int), .int .u32 (o.s : Int)] _ (hrows.out _ hB.out).2.2.2.2.1 Tryd.underlying30 rfl info_sig ?_)
    | (refine wpList_midV rfl 30 _ rfl (w.heap.size + 1) 9 rfl [.int .u32 (o.e : Int), .int .u32 (o.s : Int)] _ (hress.out _ hB.out).2.2.2.2.1 Tryd.underlying30 rfl info_sig ?_)
    | (refine wpList_eqlS rfl 28 _ _ rfl (aC o.k o.key o.v) (aC o.k o.key o.v) rfl rfl (by kernel_rfl) true (hqA.out _) ?_))
  go_ret
  exact ⟨rfl, hb1.out.trans (hB.out.mono hb1.out.size)⟩
/-- The two variables that digests read. -/
def GlQ (Tg Tf : TypeId) (w : World) : Prop := w.heap[2]? = some (.cells (u32s constW) Tg (0, 0)) ∧ w.heap[0]? = some (.cells firstW.cells Tf (0, 0))
theorem GlQ.mono {Tg Tf : TypeId} {w w' : World} (h : GlQ Tg Tf w) (hb : Below w.heap.size w w') : GlQ Tg Tf w' :=
  ⟨(hb.block _ (Array.getElem?_eq_some_iff.1 h.1).1).trans h.1, (hb.block _ (Array.getElem?_eq_some_iff.1 h.2).1).trans h.2⟩
/-- What both programs answer to one operation: Message, Encode and ID. -/
structure OpBoth (Tg Tf : TypeId) (o : Od) (M : List Int) (em : Int) (E : List Int) (ee : Int) (D : List Int) : Prop where
  m : ∀ (pv : Value) (w : World), RdI w pv o.n o.F → Calls Tryd.prog 11 #[.agg (o.c pv)] w fun e w' => ∃ sv, e = .returned (.tuple #[sv, .int .i64 em]) ∧ RdB w' sv M ∧ Below w.heap.size w w'
  rm : ∀ (pv : Value) (w : World), RdI w pv o.n o.F → Calls Tryd.prog 12 #[.agg (o.c pv)] w fun e w' => ∃ sv, e = .returned (.tuple #[sv, .int .i64 em]) ∧ RdB w' sv M ∧ Below w.heap.size w w'
  e : ∀ (pv : Value) (w : World), RdI w pv o.n o.F → Calls Tryd.prog 13 #[.agg (o.c pv)] w fun x w' => ∃ sv, x = .returned (.tuple #[sv, .int .i64 ee]) ∧ RdB w' sv E ∧ Below w.heap.size w w'
  re : ∀ (pv : Value) (w : World), RdI w pv o.n o.F → Calls Tryd.prog 14 #[.agg (o.c pv)] w fun x w' => ∃ sv, x = .returned (.tuple #[sv, .int .i64 ee]) ∧ RdB w' sv E ∧ Below w.heap.size w w'
  i : ∀ (pv : Value) (w : World), RdI w pv o.n o.F → GlQ Tg Tf w → Calls Tryd.prog 15 #[.agg (o.c pv)] w fun x w' => x = .returned (.tuple #[.agg (u8s D), .int .i64 ee]) ∧ Below w.heap.size w w'
  ri : ∀ (pv : Value) (w : World), RdI w pv o.n o.F → Calls Tryd.prog 16 #[.agg (o.c pv)] w fun x w' => x = .returned (.tuple #[.agg (u8s D), .int .i64 ee]) ∧ Below w.heap.size w w'
  ml : M.length ≤ 1000
  el : E.length ≤ 1000
  dl : D.length = 32
theorem nil_rdQ (w : World) : RdB w (.slice none 0 0) [] := .inl ⟨_, _, rfl, fun _ => rfl, rfl⟩
theorem op_both {Tg Tf : TypeId} (o : Od) (fo : o.Fit) (hl : o.F.length = 32 * o.n) : ∃ M em E ee D, OpBoth Tg Tf o M em E ee D := by
  have hm : ∃ M em, M.length ≤ 1000 ∧ (∀ (pv : Value) (w : World), RdI w pv o.n o.F → Calls Tryd.prog 11 #[.agg (o.c pv)] w fun e w' => ∃ sv, e = .returned (.tuple #[sv, .int .i64 em]) ∧ RdB w' sv M ∧ Below w.heap.size w w') ∧
      (∀ (pv : Value) (w : World), RdI w pv o.n o.F → Calls Tryd.prog 12 #[.agg (o.c pv)] w fun e w' => ∃ sv, e = .returned (.tuple #[sv, .int .i64 em]) ∧ RdB w' sv M ∧ Below w.heap.size w w') := by
    by_cases h : chkO o.bare = 0
    · refine ⟨msgB o, 0, ?_, fun pv w hp => (opMessage_any o fo pv w hp).mono ?_, fun pv w hp => (rMessageO_ok o fo pv w hp h).mono fun e w' ⟨sv, h1, h2, h3⟩ => ⟨sv, h1, h2.rd, h3⟩⟩
      · exact Nat.le_trans (msgB_short o fo (chk_zero h).1 hl (chk_zero h).2.2) (by decide)
      · rintro e w' ⟨h1, h2⟩
        rw [if_pos h] at h1
        obtain ⟨sv, h3, h4⟩ := h1
        exact ⟨sv, h3, h4.rd, h2⟩
    · refine ⟨[], chkO o.bare, by simp, fun pv w hp => (opMessage_any o fo pv w hp).mono ?_, fun pv w hp => (rMessageO_bad o fo pv w hp h).mono fun e w' ⟨h1, h2⟩ => ⟨_, h1, nil_rdQ w', h2⟩⟩
      rintro e w' ⟨h1, h2⟩
      rw [if_neg h] at h1
      exact ⟨_, h1, nil_rdQ w', h2⟩
  obtain ⟨M, em, hml, m1, m2⟩ := hm
  by_cases h : chkO o = 0
  · exact ⟨M, em, encO o, 0, shaF (encO o), m1, m2, fun pv w hp => (opEncode_ok o fo pv w hp h).mono fun e w' ⟨sv, h1, h2, h3⟩ => ⟨sv, h1, h2.rd, h3⟩,
      fun pv w hp => (rEncodeO_ok o fo pv w hp h).mono fun e w' ⟨sv, h1, h2, h3⟩ => ⟨sv, h1, h2.rd, h3⟩,
      fun pv w hp hG => opID_ok o fo pv w hp h hG.1 hG.2, fun pv w hp => rIDO_ok o fo pv w hp h, hml, Nat.le_trans (encO_short o fo (chk_zero h).1 hl (chk_zero h).2.2) (by decide), shaF_length _⟩
  · exact ⟨M, em, [], chkO o, zerosB 32, m1, m2, fun pv w hp => (opEncode_bad o fo pv w hp h).mono fun e w' ⟨h1, h2⟩ => ⟨_, h1, nil_rdQ w', h2⟩,
      fun pv w hp => (rEncodeO_bad o fo pv w hp h).mono fun e w' ⟨h1, h2⟩ => ⟨_, h1, nil_rdQ w', h2⟩,
      fun pv w hp _ => opID_bad o fo pv w hp h, fun pv w hp => rIDO_bad o fo pv w hp h, hml, by simp, zerosB_length _⟩
end Go.Proofs.YtddelpjlcmaomaaDoor.wir.val
namespace Go.Proofs.YtddelpjlcmaomaaDoor.wir.val
open Go.RowKit Go.YtddelpjlcmaomaaDoor
set_option linter.unusedVariables false
/-- What every operation that comes in has, whatever its sizes. -/
structure Od.Raw (o : Od) : Prop where
  au : o.au < 4294967296
  F : Bytes o.F
  st : o.st < 18446744073709551616
  k : 0 ≤ o.k ∧ o.k < 256
  vk : 0 ≤ o.v.k ∧ o.v.k < 256
  vn : -9223372036854775808 ≤ o.v.n ∧ o.v.n ≤ 9223372036854775807
  vb : o.v.b < 18446744073709551616
  e : o.e < 4294967296
  s : o.s < 4294967296
theorem same_true (va vb : Value) (a : List Int) (w : World) (hm : a.length ≤ 140737488355328) (h1 : RdB w va a) (h2 : RdB w vb a) :
    Calls Tryd.prog 21 #[va, vb] w fun e w' => e = .returned (.bool true) ∧ Below w.heap.size w w' := by
  have h := same_any va vb a a w hm h1 h2
  rw [sameF_self] at h
  exact h.mono fun e w' ⟨he, hd⟩ => ⟨he, hd.below (Below.refl _ _)⟩
set_option maxHeartbeats 8000000 in
set_option maxRecDepth 100000 in
theorem opMakes_law {Tg Tf : TypeId} (o : Od) (fo : o.Raw) (pv : Value) (w : World) (hp0 : RdI w pv o.n o.F) (hG0 : GlQ Tg Tf w) :
    Calls Tryd.prog 3 #[.agg (o.c pv)] w fun e w' => e = .returned (.bool true) ∧ Below w.heap.size w w' := by
  obtain ⟨W, hW⟩ : ∃ W, W = w.alloc (.cells (o.c pv) 32) := ⟨_, rfl⟩
  have hr0 := heap_alloc_new w (.cells (o.c pv) 32)
  have hb0 := (Below.refl w.heap.size w).alloc (Nat.le_refl _) (.cells (o.c pv) 32)
  rw [← hW] at hr0 hb0
  have hlF := Lib.hid hp0.len
  obtain ⟨pa, pc, rfl⟩ := hp0.slice
  have hp := Lib.hid (hp0.mono hb0)
  have hG := Lib.hid (hG0.mono hb0)
  have hS := Lib.hid hb0
  have h1 := Lib.hid hr0
  have hgr := Lib.hid (fun wz => great_any o pa pc wz)
  have fr := Lib.hid fo
  clear hp0 hG0 hb0 hr0 fo
  cases hg : greatB o
  · rw [hg] at hgr
    have hsz : o.n ≤ 20 ∧ o.key.size ≤ 100 ∧ o.v.s.size ≤ 100 := by
      unfold greatB at hg
      simp only [Bool.or_eq_false_iff, decide_eq_false_iff_not] at hg
      omega
    have hn := hsz.1
    have fo' := Lib.hid (show o.Fit from ⟨fr.out.au, fr.out.F, by omega, fr.out.st, fr.out.k, by omega, ⟨fr.out.vk, fr.out.vn, fr.out.vb, by omega⟩, fr.out.e, fr.out.s⟩)
    obtain ⟨M, em, E, ee, D, P0⟩ := op_both (Tg := Tg) (Tf := Tf) o fo'.out hlF.out
    have hP := Lib.hid P0
    clear P0 hsz fr hlF
    have hn' := Lib.hid hn
    have htw := Lib.hid (fun (wz : World) (v : Value) (h : RdI wz v o.n o.F) => twin_any o hn v wz h)
    clear hg hn
    obtain ⟨NM, hNM⟩ : ∃ N, M.length = N := ⟨_, rfl⟩
    obtain ⟨NE, hNE⟩ : ∃ N, E.length = N := ⟨_, rfl⟩
    replace hNM := Lib.hid hNM
    replace hNE := Lib.hid hNE
    have hDl := Lib.hid hP.out.dl
    have di := Lib.hid (show (Tryd.prog.info? 42).map (·.size) = some (u8s D).size by rw [u8s_size, hDl.out]; kernel_rfl)
    have ds := Lib.hid (show 32 = (u8s D).size by rw [u8s_size, hDl.out])
    go_enter Tryd.func3, Tryd.ntmps3
    go_upto_region 1 with fail
    rw [← hW]
    clear hW
    go_upto_region 4 with (first
      | (refine wpList_load_row_g rfl 32 _ rfl w.heap.size rfl 32 (o.c (.slice pa o.n pc)) (0, 0) _ h1.out Tryd.underlying32 rfl info_op ?_)
      | (go_at_call 9; (with_reducible refine (hgr.out _).mono ?_); rintro e w4 ⟨rfl, q2⟩; (try replace h1 := Lib.hid (rowB h1.out q2 (Array.getElem?_eq_some_iff.1 h1.out).1)); (try replace h3 := Lib.hid (rowB h3.out q2 (Array.getElem?_eq_some_iff.1 h3.out).1)); (try replace r12 := Lib.hid (rowB r12.out q2 (Array.getElem?_eq_some_iff.1 r12.out).1)); (try replace r14 := Lib.hid (rowB r14.out q2 (Array.getElem?_eq_some_iff.1 r14.out).1)); (try replace hp := Lib.hid (hp.out.mono q2)); (try replace hq := Lib.hid (hq.out.mono q2)); (try replace hG := Lib.hid (hG.out.mono q2)); (try replace x4 := Lib.hid (x4.out.mono q2)); (try replace x6 := Lib.hid (x6.out.mono q2)); (try replace x8 := Lib.hid (x8.out.mono q2)); (try replace x10 := Lib.hid (x10.out.mono q2)); replace hS := Lib.hid (hS.out.trans (Below.mono q2 hS.out.size)); clear q2)
      | (go_at_call 10; (with_reducible refine (htw.out _ _ hp.out).mono ?_); rintro e w4 ⟨qv, rfl, q1, q2⟩; (try replace h1 := Lib.hid (rowB h1.out q2 (Array.getElem?_eq_some_iff.1 h1.out).1)); (try replace h3 := Lib.hid (rowB h3.out q2 (Array.getElem?_eq_some_iff.1 h3.out).1)); (try replace r12 := Lib.hid (rowB r12.out q2 (Array.getElem?_eq_some_iff.1 r12.out).1)); (try replace r14 := Lib.hid (rowB r14.out q2 (Array.getElem?_eq_some_iff.1 r14.out).1)); (try replace hp := Lib.hid (hp.out.mono q2)); (try replace hq := Lib.hid (hq.out.mono q2)); (try replace hG := Lib.hid (hG.out.mono q2)); (try replace x4 := Lib.hid (x4.out.mono q2)); (try replace x6 := Lib.hid (x6.out.mono q2)); (try replace x8 := Lib.hid (x8.out.mono q2)); (try replace x10 := Lib.hid (x10.out.mono q2)); replace hS := Lib.hid (hS.out.trans (Below.mono q2 hS.out.size)); have hq := Lib.hid q1; obtain ⟨qa, qc, hz4⟩ := hq.out.slice; subst hz4; clear q1 q2))
    have q2 := below_a w4 (.cells (o.c (.slice qa o.n qc)) 32)
    have h3 := Lib.hid (heap_alloc_new w4 (.cells (o.c (.slice qa o.n qc)) 32))
    (try replace h1 := Lib.hid (rowB h1.out q2 (Array.getElem?_eq_some_iff.1 h1.out).1)); (try replace h3 := Lib.hid (rowB h3.out q2 (Array.getElem?_eq_some_iff.1 h3.out).1)); (try replace r12 := Lib.hid (rowB r12.out q2 (Array.getElem?_eq_some_iff.1 r12.out).1)); (try replace r14 := Lib.hid (rowB r14.out q2 (Array.getElem?_eq_some_iff.1 r14.out).1)); (try replace hp := Lib.hid (hp.out.mono q2)); (try replace hq := Lib.hid (hq.out.mono q2)); (try replace hG := Lib.hid (hG.out.mono q2)); (try replace x4 := Lib.hid (x4.out.mono q2)); (try replace x6 := Lib.hid (x6.out.mono q2)); (try replace x8 := Lib.hid (x8.out.mono q2)); (try replace x10 := Lib.hid (x10.out.mono q2)); replace hS := Lib.hid (hS.out.trans (Below.mono q2 hS.out.size))
    clear q2
    change Code.wp _ _ _ _ (w4.alloc (.cells (o.c (.slice qa o.n qc)) 32))
    generalize w4.heap.size = g3 at *
    generalize w4.alloc (.cells (o.c (.slice qa o.n qc)) 32) = w5 at *
    go_upto_region 5 with (first | (refine wpList_load_row_g rfl 32 _ rfl w.heap.size rfl 32 (o.c (.slice pa o.n pc)) (0, 0) _ h1.out Tryd.underlying32 rfl info_op ?_) | (go_at_call 11; (with_reducible refine (hP.out.m _ _ hp.out).mono ?_); rintro e w4 ⟨sv, rfl, q1, q2⟩; (try replace h1 := Lib.hid (rowB h1.out q2 (Array.getElem?_eq_some_iff.1 h1.out).1)); (try replace h3 := Lib.hid (rowB h3.out q2 (Array.getElem?_eq_some_iff.1 h3.out).1)); (try replace r12 := Lib.hid (rowB r12.out q2 (Array.getElem?_eq_some_iff.1 r12.out).1)); (try replace r14 := Lib.hid (rowB r14.out q2 (Array.getElem?_eq_some_iff.1 r14.out).1)); (try replace hp := Lib.hid (hp.out.mono q2)); (try replace hq := Lib.hid (hq.out.mono q2)); (try replace hG := Lib.hid (hG.out.mono q2)); (try replace x4 := Lib.hid (x4.out.mono q2)); (try replace x6 := Lib.hid (x6.out.mono q2)); (try replace x8 := Lib.hid (x8.out.mono q2)); (try replace x10 := Lib.hid (x10.out.mono q2)); replace hS := Lib.hid (hS.out.trans (Below.mono q2 hS.out.size)); have x4 := Lib.hid q1; obtain ⟨sx4, tx4, hz4⟩ := x4.out.slice; rw [hNM.out] at hz4; subst hz4; clear q1 q2))
    go_upto_region 6 with (first | (refine wpList_load_row_g rfl 32 _ rfl g3 rfl 32 (o.c (.slice qa o.n qc)) (0, 0) _ h3.out Tryd.underlying32 rfl info_op ?_) | (go_at_call 12; (with_reducible refine (hP.out.rm _ _ hq.out).mono ?_); rintro e w4 ⟨sv, rfl, q1, q2⟩; (try replace h1 := Lib.hid (rowB h1.out q2 (Array.getElem?_eq_some_iff.1 h1.out).1)); (try replace h3 := Lib.hid (rowB h3.out q2 (Array.getElem?_eq_some_iff.1 h3.out).1)); (try replace r12 := Lib.hid (rowB r12.out q2 (Array.getElem?_eq_some_iff.1 r12.out).1)); (try replace r14 := Lib.hid (rowB r14.out q2 (Array.getElem?_eq_some_iff.1 r14.out).1)); (try replace hp := Lib.hid (hp.out.mono q2)); (try replace hq := Lib.hid (hq.out.mono q2)); (try replace hG := Lib.hid (hG.out.mono q2)); (try replace x4 := Lib.hid (x4.out.mono q2)); (try replace x6 := Lib.hid (x6.out.mono q2)); (try replace x8 := Lib.hid (x8.out.mono q2)); (try replace x10 := Lib.hid (x10.out.mono q2)); replace hS := Lib.hid (hS.out.trans (Below.mono q2 hS.out.size)); have x6 := Lib.hid q1; obtain ⟨sx6, tx6, hz4⟩ := x6.out.slice; rw [hNM.out] at hz4; subst hz4; clear q1 q2))
    go_upto_region 7 with (first | (refine wpList_load_row_g rfl 32 _ rfl w.heap.size rfl 32 (o.c (.slice pa o.n pc)) (0, 0) _ h1.out Tryd.underlying32 rfl info_op ?_) | (go_at_call 13; (with_reducible refine (hP.out.e _ _ hp.out).mono ?_); rintro e w4 ⟨sv, rfl, q1, q2⟩; (try replace h1 := Lib.hid (rowB h1.out q2 (Array.getElem?_eq_some_iff.1 h1.out).1)); (try replace h3 := Lib.hid (rowB h3.out q2 (Array.getElem?_eq_some_iff.1 h3.out).1)); (try replace r12 := Lib.hid (rowB r12.out q2 (Array.getElem?_eq_some_iff.1 r12.out).1)); (try replace r14 := Lib.hid (rowB r14.out q2 (Array.getElem?_eq_some_iff.1 r14.out).1)); (try replace hp := Lib.hid (hp.out.mono q2)); (try replace hq := Lib.hid (hq.out.mono q2)); (try replace hG := Lib.hid (hG.out.mono q2)); (try replace x4 := Lib.hid (x4.out.mono q2)); (try replace x6 := Lib.hid (x6.out.mono q2)); (try replace x8 := Lib.hid (x8.out.mono q2)); (try replace x10 := Lib.hid (x10.out.mono q2)); replace hS := Lib.hid (hS.out.trans (Below.mono q2 hS.out.size)); have x8 := Lib.hid q1; obtain ⟨sx8, tx8, hz4⟩ := x8.out.slice; rw [hNE.out] at hz4; subst hz4; clear q1 q2))
    go_upto_region 8 with (first | (refine wpList_load_row_g rfl 32 _ rfl g3 rfl 32 (o.c (.slice qa o.n qc)) (0, 0) _ h3.out Tryd.underlying32 rfl info_op ?_) | (go_at_call 14; (with_reducible refine (hP.out.re _ _ hq.out).mono ?_); rintro e w4 ⟨sv, rfl, q1, q2⟩; (try replace h1 := Lib.hid (rowB h1.out q2 (Array.getElem?_eq_some_iff.1 h1.out).1)); (try replace h3 := Lib.hid (rowB h3.out q2 (Array.getElem?_eq_some_iff.1 h3.out).1)); (try replace r12 := Lib.hid (rowB r12.out q2 (Array.getElem?_eq_some_iff.1 r12.out).1)); (try replace r14 := Lib.hid (rowB r14.out q2 (Array.getElem?_eq_some_iff.1 r14.out).1)); (try replace hp := Lib.hid (hp.out.mono q2)); (try replace hq := Lib.hid (hq.out.mono q2)); (try replace hG := Lib.hid (hG.out.mono q2)); (try replace x4 := Lib.hid (x4.out.mono q2)); (try replace x6 := Lib.hid (x6.out.mono q2)); (try replace x8 := Lib.hid (x8.out.mono q2)); (try replace x10 := Lib.hid (x10.out.mono q2)); replace hS := Lib.hid (hS.out.trans (Below.mono q2 hS.out.size)); have x10 := Lib.hid q1; obtain ⟨sx10, tx10, hz4⟩ := x10.out.slice; rw [hNE.out] at hz4; subst hz4; clear q1 q2))
    go_upto_region 9 with (first | (refine wpList_load_row_g rfl 32 _ rfl w.heap.size rfl 32 (o.c (.slice pa o.n pc)) (0, 0) _ h1.out Tryd.underlying32 rfl info_op ?_) | (go_at_call 15; (with_reducible refine (hP.out.i _ _ hp.out hG.out).mono ?_); rintro e w4 ⟨rfl, q2⟩; (try replace h1 := Lib.hid (rowB h1.out q2 (Array.getElem?_eq_some_iff.1 h1.out).1)); (try replace h3 := Lib.hid (rowB h3.out q2 (Array.getElem?_eq_some_iff.1 h3.out).1)); (try replace r12 := Lib.hid (rowB r12.out q2 (Array.getElem?_eq_some_iff.1 r12.out).1)); (try replace r14 := Lib.hid (rowB r14.out q2 (Array.getElem?_eq_some_iff.1 r14.out).1)); (try replace hp := Lib.hid (hp.out.mono q2)); (try replace hq := Lib.hid (hq.out.mono q2)); (try replace hG := Lib.hid (hG.out.mono q2)); (try replace x4 := Lib.hid (x4.out.mono q2)); (try replace x6 := Lib.hid (x6.out.mono q2)); (try replace x8 := Lib.hid (x8.out.mono q2)); (try replace x10 := Lib.hid (x10.out.mono q2)); replace hS := Lib.hid (hS.out.trans (Below.mono q2 hS.out.size)); clear q2) | (refine storeNew w4 rfl 42 _ _ rfl (u8s D) 42 rfl rfl di.out (Eq.trans (by kernel_rfl) ds.out) (u8s_one _) ?_; intro w6 q1 q2; (try replace h1 := Lib.hid (rowB h1.out q2 (Array.getElem?_eq_some_iff.1 h1.out).1)); (try replace h3 := Lib.hid (rowB h3.out q2 (Array.getElem?_eq_some_iff.1 h3.out).1)); (try replace r12 := Lib.hid (rowB r12.out q2 (Array.getElem?_eq_some_iff.1 r12.out).1)); (try replace r14 := Lib.hid (rowB r14.out q2 (Array.getElem?_eq_some_iff.1 r14.out).1)); (try replace hp := Lib.hid (hp.out.mono q2)); (try replace hq := Lib.hid (hq.out.mono q2)); (try replace hG := Lib.hid (hG.out.mono q2)); (try replace x4 := Lib.hid (x4.out.mono q2)); (try replace x6 := Lib.hid (x6.out.mono q2)); (try replace x8 := Lib.hid (x8.out.mono q2)); (try replace x10 := Lib.hid (x10.out.mono q2)); replace hS := Lib.hid (hS.out.trans (Below.mono q2 hS.out.size)); have r12 := Lib.hid q1; clear q1 q2))
    generalize w4.heap.size = g12 at *
    go_upto_region 10 with (first | (refine wpList_load_row_g rfl 32 _ rfl g3 rfl 32 (o.c (.slice qa o.n qc)) (0, 0) _ h3.out Tryd.underlying32 rfl info_op ?_) | (go_at_call 16; (with_reducible refine (hP.out.ri _ _ hq.out).mono ?_); rintro e w4 ⟨rfl, q2⟩; (try replace h1 := Lib.hid (rowB h1.out q2 (Array.getElem?_eq_some_iff.1 h1.out).1)); (try replace h3 := Lib.hid (rowB h3.out q2 (Array.getElem?_eq_some_iff.1 h3.out).1)); (try replace r12 := Lib.hid (rowB r12.out q2 (Array.getElem?_eq_some_iff.1 r12.out).1)); (try replace r14 := Lib.hid (rowB r14.out q2 (Array.getElem?_eq_some_iff.1 r14.out).1)); (try replace hp := Lib.hid (hp.out.mono q2)); (try replace hq := Lib.hid (hq.out.mono q2)); (try replace hG := Lib.hid (hG.out.mono q2)); (try replace x4 := Lib.hid (x4.out.mono q2)); (try replace x6 := Lib.hid (x6.out.mono q2)); (try replace x8 := Lib.hid (x8.out.mono q2)); (try replace x10 := Lib.hid (x10.out.mono q2)); replace hS := Lib.hid (hS.out.trans (Below.mono q2 hS.out.size)); clear q2) | (refine storeNew w4 rfl 42 _ _ rfl (u8s D) 42 rfl rfl di.out (Eq.trans (by kernel_rfl) ds.out) (u8s_one _) ?_; intro w6 q1 q2; (try replace h1 := Lib.hid (rowB h1.out q2 (Array.getElem?_eq_some_iff.1 h1.out).1)); (try replace h3 := Lib.hid (rowB h3.out q2 (Array.getElem?_eq_some_iff.1 h3.out).1)); (try replace r12 := Lib.hid (rowB r12.out q2 (Array.getElem?_eq_some_iff.1 r12.out).1)); (try replace r14 := Lib.hid (rowB r14.out q2 (Array.getElem?_eq_some_iff.1 r14.out).1)); (try replace hp := Lib.hid (hp.out.mono q2)); (try replace hq := Lib.hid (hq.out.mono q2)); (try replace hG := Lib.hid (hG.out.mono q2)); (try replace x4 := Lib.hid (x4.out.mono q2)); (try replace x6 := Lib.hid (x6.out.mono q2)); (try replace x8 := Lib.hid (x8.out.mono q2)); (try replace x10 := Lib.hid (x10.out.mono q2)); replace hS := Lib.hid (hS.out.trans (Below.mono q2 hS.out.size)); have r14 := Lib.hid q1; clear q1 q2))
    generalize w4.heap.size = g14 at *
    have lt1 := Lib.hid (Array.getElem?_eq_some_iff.1 h1.out).1
    have k1 := Lib.hid (fun (w' : World) (h : Below w6.heap.size w6 w') => rowB h1.out h lt1.out)
    have hmid := Lib.hid (fun (w' : World) (h : Below w6.heap.size w6 w') => (cellsO (rowB h1.out h lt1.out)).2.2.2.1)
    have k3 := Lib.hid (fun (w' : World) (h : Below w6.heap.size w6 w') => rowB h3.out h (Array.getElem?_eq_some_iff.1 h3.out).1)
    have k12 := Lib.hid (fun (w' : World) (h : Below w6.heap.size w6 w') => rowB r12.out h (Array.getElem?_eq_some_iff.1 r12.out).1)
    have k14 := Lib.hid (fun (w' : World) (h : Below w6.heap.size w6 w') => rowB r14.out h (Array.getElem?_eq_some_iff.1 r14.out).1)
    have kA := Lib.hid (fun (w' : World) (_ : Below w6.heap.size w6 w') => checkAct_any o.k o.key o.v fo'.out.v fo'.out.key w')
    have kB := Lib.hid (fun (w' : World) (_ : Below w6.heap.size w6 w') => rcheckAct_any o.k o.key o.v fo'.out.v fo'.out.key w')
    have kC := Lib.hid (fun (w' : World) (h : Below w6.heap.size w6 w') => opCheck_any o fo'.out (.slice pa o.n pc) w' (hp.out.mono h))
    have kD := Lib.hid (fun (w' : World) (h : Below w6.heap.size w6 w') => ropCheck_any o fo'.out (.slice qa o.n qc) w' (hq.out.mono h))
    have kM := Lib.hid (fun (w' : World) (h : Below w6.heap.size w6 w') => same_true _ _ M w' (Nat.le_trans hP.out.ml (by decide)) (x4.out.mono h) (x6.out.mono h))
    have kE := Lib.hid (fun (w' : World) (h : Below w6.heap.size w6 w') => same_true _ _ E w' (Nat.le_trans hP.out.el (by decide)) (x8.out.mono h) (x10.out.mono h))
    have kS := Lib.hid (fun (w' : World) (h : Below w6.heap.size w6 w') => sameO_yes o hn'.out (.slice pa o.n pc) (.slice qa o.n qc) w' (hp.out.mono h) (hq.out.mono h))
    generalize actE o.k o.key o.v = AE at *
    generalize chkO o = CE at *
    clear hP fo' hgr htw hG h1 h3 r12 r14 hp hq x4 x6 x8 x10
    refine wp_region_quiet (C := fun w' => Below w6.heap.size w6 w') (by kernel_rfl) (by kernel_rfl) ((Below.refl _ _).drew) ?_
    simp only []
    (go_big_quiet_want; go_big_quiet_op; first | go_big_quiet_on | (refine ⟨_, fun _ _ => rfl, ?_⟩; go_big_quiet_on))
    refine wpq (aA o.k o.key o.v) rfl (quiet_mid 28 _ rfl w.heap.size 3 rfl [.int .u8 o.k, .string o.key, .int .u8 o.v.k, .int .i64 o.v.n, .int .u64 (o.v.b : Int), .string o.v.s] _ hmid.out Tryd.underlying28 rfl info_act) rfl (fun K hK => ?_); go_simp; refine hK _ ?_; clear hK K
    refine wpq (.int .i64 AE) rfl (qa_call1 (aA o.k o.key o.v) rfl Tryd.func17 (by kernel_rfl) rfl rfl rfl (fun w h => (kA.out w h).mono fun e w' ⟨he, hb⟩ => ⟨he, h.trans (hb.mono h.size)⟩)) rfl (fun K hK => ?_); go_simp; refine hK _ ?_; clear hK K
    (go_big_quiet_want; go_big_quiet_op; first | go_big_quiet_on | (refine ⟨_, fun _ _ => rfl, ?_⟩; go_big_quiet_on))
    refine wpq (aA o.k o.key o.v) rfl (quiet_mid 28 _ rfl w.heap.size 3 rfl [.int .u8 o.k, .string o.key, .int .u8 o.v.k, .int .i64 o.v.n, .int .u64 (o.v.b : Int), .string o.v.s] _ hmid.out Tryd.underlying28 rfl info_act) rfl (fun K hK => ?_); go_simp; refine hK _ ?_; clear hK K
    refine wpq (.int .i64 AE) rfl (qa_call1 (aA o.k o.key o.v) rfl Tryd.func18 (by kernel_rfl) rfl rfl rfl (fun w h => (kB.out w h).mono fun e w' ⟨he, hb⟩ => ⟨he, h.trans (hb.mono h.size)⟩)) rfl (fun K hK => ?_); go_simp; refine hK _ ?_; clear hK K
    (go_big_quiet_want; go_big_quiet_op; first | go_big_quiet_on | (refine ⟨_, fun _ _ => rfl, ?_⟩; go_big_quiet_on))
    (go_big_quiet_want; go_big_quiet_op; first | go_big_quiet_on | (refine ⟨_, fun _ _ => rfl, ?_⟩; go_big_quiet_on))
    refine wpq (.agg (o.c (.slice pa o.n pc))) rfl (quiet_row 32 _ rfl (w.heap.size) rfl 32 (o.c (.slice pa o.n pc)) (0, 0) _ k1.out Tryd.underlying32 rfl info_op) rfl (fun K hK => ?_); go_simp; refine hK _ ?_; clear hK K
    refine wpq (.int .i64 CE) rfl (qa_call1 (.agg (o.c (.slice pa o.n pc))) rfl Tryd.func19 (by kernel_rfl) rfl rfl rfl (fun w h => (kC.out w h).mono fun e w' ⟨he, hb⟩ => ⟨he, h.trans (hb.mono h.size)⟩)) rfl (fun K hK => ?_); go_simp; refine hK _ ?_; clear hK K
    refine wpq (.agg (o.c (.slice qa o.n qc))) rfl (quiet_row 32 _ rfl (g3) rfl 32 (o.c (.slice qa o.n qc)) (0, 0) _ k3.out Tryd.underlying32 rfl info_op) rfl (fun K hK => ?_); go_simp; refine hK _ ?_; clear hK K
    refine wpq (.int .i64 CE) rfl (qa_call1 (.agg (o.c (.slice qa o.n qc))) rfl Tryd.func20 (by kernel_rfl) rfl rfl rfl (fun w h => (kD.out w h).mono fun e w' ⟨he, hb⟩ => ⟨he, h.trans (hb.mono h.size)⟩)) rfl (fun K hK => ?_); go_simp; refine hK _ ?_; clear hK K
    (go_big_quiet_want; go_big_quiet_op; first | go_big_quiet_on | (refine ⟨_, fun _ _ => rfl, ?_⟩; go_big_quiet_on))
    (go_big_quiet_want; go_big_quiet_op; first | go_big_quiet_on | (refine ⟨_, fun _ _ => rfl, ?_⟩; go_big_quiet_on))
    (go_big_quiet_want; go_big_quiet_op; first | go_big_quiet_on | (refine ⟨_, fun _ _ => rfl, ?_⟩; go_big_quiet_on))
    (go_big_quiet_want; go_big_quiet_op; first | go_big_quiet_on | (refine ⟨_, fun _ _ => rfl, ?_⟩; go_big_quiet_on))
    (go_big_quiet_want; go_big_quiet_op; first | go_big_quiet_on | (refine ⟨_, fun _ _ => rfl, ?_⟩; go_big_quiet_on))
    refine wpq (.bool true) rfl (quiet_call2 rfl Tryd.func21 (by kernel_rfl) rfl (.slice sx4 NM tx4) (.slice sx6 NM tx6) (.bool true) rfl rfl rfl (fun w h => (kM.out w h).mono fun e w' ⟨he, hb⟩ => ⟨he, h.trans (hb.mono h.size)⟩)) rfl (fun K hK => ?_); go_simp; refine hK _ ?_; clear hK K
    (go_big_quiet_want; go_big_quiet_op; first | go_big_quiet_on | (refine ⟨_, fun _ _ => rfl, ?_⟩; go_big_quiet_on))
    (go_big_quiet_want; go_big_quiet_op; first | go_big_quiet_on | (refine ⟨_, fun _ _ => rfl, ?_⟩; go_big_quiet_on))
    (go_big_quiet_want; go_big_quiet_op; first | go_big_quiet_on | (refine ⟨_, fun _ _ => rfl, ?_⟩; go_big_quiet_on))
    (go_big_quiet_want; go_big_quiet_op; first | go_big_quiet_on | (refine ⟨_, fun _ _ => rfl, ?_⟩; go_big_quiet_on))
    (go_big_quiet_want; go_big_quiet_op; first | go_big_quiet_on | (refine ⟨_, fun _ _ => rfl, ?_⟩; go_big_quiet_on))
    (go_big_quiet_want; go_big_quiet_op; first | go_big_quiet_on | (refine ⟨_, fun _ _ => rfl, ?_⟩; go_big_quiet_on))
    (go_big_quiet_want; go_big_quiet_op; first | go_big_quiet_on | (refine ⟨_, fun _ _ => rfl, ?_⟩; go_big_quiet_on))
    (go_big_quiet_want; go_big_quiet_op; first | go_big_quiet_on | (refine ⟨_, fun _ _ => rfl, ?_⟩; go_big_quiet_on))
    (go_big_quiet_want; go_big_quiet_op; first | go_big_quiet_on | (refine ⟨_, fun _ _ => rfl, ?_⟩; go_big_quiet_on))
    refine wpq (.bool true) rfl (quiet_call2 rfl Tryd.func21 (by kernel_rfl) rfl (.slice sx8 NE tx8) (.slice sx10 NE tx10) (.bool true) rfl rfl rfl (fun w h => (kE.out w h).mono fun e w' ⟨he, hb⟩ => ⟨he, h.trans (hb.mono h.size)⟩)) rfl (fun K hK => ?_); go_simp; refine hK _ ?_; clear hK K
    (go_big_quiet_want; go_big_quiet_op; first | go_big_quiet_on | (refine ⟨_, fun _ _ => rfl, ?_⟩; go_big_quiet_on))
    (go_big_quiet_want; go_big_quiet_op; first | go_big_quiet_on | (refine ⟨_, fun _ _ => rfl, ?_⟩; go_big_quiet_on))
    (go_big_quiet_want; go_big_quiet_op; first | go_big_quiet_on | (refine ⟨_, fun _ _ => rfl, ?_⟩; go_big_quiet_on))
    (go_big_quiet_want; go_big_quiet_op; first | go_big_quiet_on | (refine ⟨_, fun _ _ => rfl, ?_⟩; go_big_quiet_on))
    (go_big_quiet_want; go_big_quiet_op; first | go_big_quiet_on | (refine ⟨_, fun _ _ => rfl, ?_⟩; go_big_quiet_on))
    (go_big_quiet_want; go_big_quiet_op; first | go_big_quiet_on | (refine ⟨_, fun _ _ => rfl, ?_⟩; go_big_quiet_on))
    (go_big_quiet_want; go_big_quiet_op; first | go_big_quiet_on | (refine ⟨_, fun _ _ => rfl, ?_⟩; go_big_quiet_on))
    refine wpq (.agg (u8s D)) rfl (quiet_row 42 _ rfl (g12) rfl 42 (u8s D) (0, 0) _ k12.out Tryd.underlying42 rfl di.out) rfl (fun K hK => ?_); go_simp; refine hK _ ?_; clear hK K
    refine wpq (.agg (u8s D)) rfl (quiet_row 42 _ rfl (g14) rfl 42 (u8s D) (0, 0) _ k14.out Tryd.underlying42 rfl di.out) rfl (fun K hK => ?_); go_simp; refine hK _ ?_; clear hK K
    refine wpq (.bool true) rfl (qa_eqlI _ _ D D hDl.out hDl.out true (by simp) rfl rfl rfl) rfl (fun K hK => ?_); go_simp; refine hK _ ?_; clear hK K
    (go_big_quiet_want; go_big_quiet_op; first | go_big_quiet_on | (refine ⟨_, fun _ _ => rfl, ?_⟩; go_big_quiet_on))
    (go_big_quiet_want; go_big_quiet_op; first | go_big_quiet_on | (refine ⟨_, fun _ _ => rfl, ?_⟩; go_big_quiet_on))
    (go_big_quiet_want; go_big_quiet_op; first | go_big_quiet_on | (refine ⟨_, fun _ _ => rfl, ?_⟩; go_big_quiet_on))
    (go_big_quiet_want; go_big_quiet_op; first | go_big_quiet_on | (refine ⟨_, fun _ _ => rfl, ?_⟩; go_big_quiet_on))
    (go_big_quiet_want; go_big_quiet_op; first | go_big_quiet_on | (refine ⟨_, fun _ _ => rfl, ?_⟩; go_big_quiet_on))
    (go_big_quiet_want; go_big_quiet_op; first | go_big_quiet_on | (refine ⟨_, fun _ _ => rfl, ?_⟩; go_big_quiet_on))
    (go_big_quiet_want; go_big_quiet_op; first | go_big_quiet_on | (refine ⟨_, fun _ _ => rfl, ?_⟩; go_big_quiet_on))
    refine wpq (.agg (o.c (.slice pa o.n pc))) rfl (quiet_row 32 _ rfl (w.heap.size) rfl 32 (o.c (.slice pa o.n pc)) (0, 0) _ k1.out Tryd.underlying32 rfl info_op) rfl (fun K hK => ?_); go_simp; refine hK _ ?_; clear hK K
    refine wpq (.agg (o.c (.slice qa o.n qc))) rfl (quiet_row 32 _ rfl (g3) rfl 32 (o.c (.slice qa o.n qc)) (0, 0) _ k3.out Tryd.underlying32 rfl info_op) rfl (fun K hK => ?_); go_simp; refine hK _ ?_; clear hK K
    refine wpq (.bool true) rfl (quiet_call2 rfl Tryd.func22 (by kernel_rfl) rfl (.agg (o.c (.slice pa o.n pc))) (.agg (o.c (.slice qa o.n qc))) (.bool true) rfl rfl rfl (fun w h => (kS.out w h).mono fun e w' ⟨he, hb⟩ => ⟨he, h.trans (hb.mono h.size)⟩)) rfl (fun K hK => ?_); go_simp; refine hK _ ?_; clear hK K
    (go_big_quiet_want; go_big_quiet_op; first | go_big_quiet_on | (refine ⟨_, fun _ _ => rfl, ?_⟩; go_big_quiet_on))
    (go_big_quiet_want; go_big_quiet_op; first | go_big_quiet_on | (refine ⟨_, fun _ _ => rfl, ?_⟩; go_big_quiet_on))
    refine wpQuiet_nil ?_
    intro w9 h9
    have hB9 := Lib.hid (hS.out.trans (h9.mono hS.out.size))
    clear h9
    go_wp2
    go_ret
    exact ⟨rfl, hB9.out⟩
  · rw [hg] at hgr
    go_enter Tryd.func3, Tryd.ntmps3
    go_upto_region 1 with fail
    rw [← hW]
    clear hW
    go_wp2_with (first | (refine wpList_load_row_g rfl 32 _ rfl w.heap.size rfl 32 (o.c (.slice pa o.n pc)) (0, 0) _ h1.out Tryd.underlying32 rfl info_op ?_) | (go_at_call 9; (with_reducible refine (hgr.out _).mono ?_); rintro e w4 ⟨rfl, q2⟩; (try replace h1 := Lib.hid (rowB h1.out q2 (Array.getElem?_eq_some_iff.1 h1.out).1)); (try replace h3 := Lib.hid (rowB h3.out q2 (Array.getElem?_eq_some_iff.1 h3.out).1)); (try replace r12 := Lib.hid (rowB r12.out q2 (Array.getElem?_eq_some_iff.1 r12.out).1)); (try replace r14 := Lib.hid (rowB r14.out q2 (Array.getElem?_eq_some_iff.1 r14.out).1)); (try replace hp := Lib.hid (hp.out.mono q2)); (try replace hq := Lib.hid (hq.out.mono q2)); (try replace hG := Lib.hid (hG.out.mono q2)); (try replace x4 := Lib.hid (x4.out.mono q2)); (try replace x6 := Lib.hid (x6.out.mono q2)); (try replace x8 := Lib.hid (x8.out.mono q2)); (try replace x10 := Lib.hid (x10.out.mono q2)); replace hS := Lib.hid (hS.out.trans (Below.mono q2 hS.out.size)); clear q2))
    go_ret
    exact ⟨rfl, hS.out⟩
end Go.Proofs.YtddelpjlcmaomaaDoor.wir.val

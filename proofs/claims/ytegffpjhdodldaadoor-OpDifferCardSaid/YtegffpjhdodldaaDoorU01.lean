/- Layer 6: a message tells all of an operation but its Sig (maths). Layer 6: two operations with one Sig are compared: contract of the reference. Layer 6: OpDiffer's walk. -/
import Derived.Test.YtegffpjhdodldaaDoorR01
namespace Go.Proofs.YtegffpjhdodldaaDoor.wir.val
open Go.RowKit Go.YtegffpjhdodldaaDoor
set_option linter.unusedVariables false
theorem num_cut {a b : Nat} (ha : a < 18446744073709551616) (hb : b < 18446744073709551616) {x y : List Int} (h : numB a ++ x = numB b ++ y) : a = b ∧ x = y := by
  have h1 := readF_num a ha x
  have h2 := readF_num b hb y
  rw [h, h2] at h1
  have e : b = a := congrArg Prod.fst (Option.some.inj h1)
  subst e
  exact ⟨rfl, List.append_cancel_left h⟩
theorem sI_inj {s t : ByteArray} (h : sI s = sI t) : s = t := by
  obtain ⟨⟨s⟩⟩ := s
  obtain ⟨⟨t⟩⟩ := t
  have h' : s.map (fun c : UInt8 => (c.toNat : Int)) = t.map (fun c : UInt8 => (c.toNat : Int)) := h
  have : s = t := (List.map_inj_right (fun x y e => UInt8.toNat_inj.1 (Int.ofNat.inj e))).1 h'
  rw [this]
theorem text_cut {s t : ByteArray} (hs : s.size ≤ 1000) (ht : t.size ≤ 1000) {x y : List Int} (h : textB (sI s) ++ x = textB (sI t) ++ y) : s = t ∧ x = y := by
  unfold textB at h
  rw [List.append_assoc, List.append_assoc] at h
  obtain ⟨h1, h2⟩ := num_cut (by rw [sI_length]; omega) (by rw [sI_length]; omega) h
  obtain ⟨h3, h4⟩ := List.append_inj h2 h1
  exact ⟨sI_inj h3, h4⟩
theorem size_nil {s : ByteArray} (h : s.size = 0) : s = ⟨#[]⟩ := by
  cases s with | mk a => simp only [ByteArray.mk.injEq]; exact Array.eq_empty_of_size_eq_zero h
theorem enc_head {k n : Int} {b : Nat} {s : ByteArray} (h : 1 ≤ k ∧ k ≤ 3) : ∃ t, encB k n b s = k :: t := by
  unfold encB
  rcases (show k = 1 ∨ k = 2 ∨ k = 3 by omega) with rfl | rfl | rfl
  · exact ⟨_, if_pos rfl⟩
  · exact ⟨_, by rw [if_neg (by decide), if_pos rfl]⟩
  · exact ⟨_, by rw [if_neg (by decide), if_neg (by decide)]⟩
theorem enc_cut {v u : Va} (fv : v.fit) (fu : u.fit) (hv : v.ok = true) (hu : u.ok = true) (h : encB v.k v.n v.b v.s = encB u.k u.n u.b u.s) : v = u := by
  obtain ⟨k, n, b, s⟩ := v
  obtain ⟨k', n', b', s'⟩ := u
  have hk := valid_kind hv
  have hk' := valid_kind hu
  have fn := fv.n
  have fn' := fu.n
  have fb := fv.b
  have fb' := fu.b
  dsimp only at h hk hk' fn fn' fb fb'
  obtain ⟨t, e1⟩ := enc_head (n := n) (b := b) (s := s) hk
  obtain ⟨t', e2⟩ := enc_head (n := n') (b := b') (s := s') hk'
  have h0 := h
  rw [e1, e2] at h0
  obtain ⟨rfl, _⟩ := List.cons.inj h0
  clear h0 e1 e2
  unfold Va.ok validV at hv hu
  dsimp only at hv hu
  unfold encB at h
  rcases (show k = 1 ∨ k = 2 ∨ k = 3 by omega) with rfl | rfl | rfl
  · rw [if_pos rfl, Bool.and_eq_true, decide_eq_true_eq, decide_eq_true_eq] at hv hu
    rw [if_pos rfl, if_pos rfl] at h
    have h1 := numB_inj (fold_lt n fn) (fold_lt n' fn') (List.cons.inj h).2
    have h2 := congrArg unfoldN h1
    rw [unfold_fold, unfold_fold] at h2
    rw [h2, hv.1, hu.1, size_nil hv.2, size_nil hu.2]
  · rw [if_neg (by decide), if_pos rfl, Bool.and_eq_true, Bool.and_eq_true, decide_eq_true_eq, decide_eq_true_eq, decide_eq_true_eq] at hv hu
    rw [if_neg (by decide), if_pos rfl, if_neg (by decide), if_pos rfl] at h
    have h1 := (List.cons.inj h).2
    have h2 : b = b' := by
      rw [← valN_be_all 8 b (Nat.lt_of_lt_of_le fb (by decide)), ← valN_be_all 8 b' (Nat.lt_of_lt_of_le fb' (by decide)), h1]
    rw [h2, hv.1, hu.1, size_nil hv.2.2, size_nil hu.2.2]
  · rw [if_neg (by decide), if_neg (by decide), if_pos rfl, Bool.and_eq_true, Bool.and_eq_true, Bool.and_eq_true, decide_eq_true_eq, decide_eq_true_eq, decide_eq_true_eq] at hv hu
    rw [if_neg (by decide), if_neg (by decide), if_neg (by decide), if_neg (by decide)] at h
    have h1 := (List.cons.inj h).2
    obtain ⟨h2, _⟩ := text_cut (s := s) (t := s') (x := []) (y := []) (by omega) (by omega) (by rw [List.append_nil, List.append_nil]; exact h1)
    rw [h2, hv.1, hu.1, hv.2.1, hu.2.1]
theorem zeroV_eq {v : Va} (h : zeroV v = true) : v = ⟨0, 0, 0, ⟨#[]⟩⟩ := by
  unfold zeroV eqB at h
  simp only [Bool.and_eq_true, decide_eq_true_eq] at h
  obtain ⟨h1, h2, h3, h4⟩ := h
  obtain ⟨k, n, b, s⟩ := v
  simp only at h1 h2 h3 h4
  rw [h1, h2, h3, h4]
theorem keyB_size {s : ByteArray} (h : keyB s = true) : s.size ≤ 20 := by
  unfold keyB at h
  simp only [Bool.and_eq_true, decide_eq_true_eq] at h
  exact h.2.1
theorem msg_tells {o p : Od} (fo : o.Fit) (fp : p.Fit) (lo : o.F.length = 32 * o.n) (lp : p.F.length = 32 * p.n) (ao : actB o.k o.key o.v = true) (ap : actB p.k p.key p.v = true) (h : msgB o = msgB p) :
    o.au = p.au ∧ o.F = p.F ∧ o.st = p.st ∧ o.k = p.k ∧ o.key = p.key ∧ o.v = p.v := by
  unfold msgB at h
  simp only [List.append_assoc] at h
  have h := List.append_cancel_left h
  obtain ⟨h1, h⟩ := num_cut (Nat.lt_trans fo.au (by decide)) (Nat.lt_trans fp.au (by decide)) h
  obtain ⟨h2, h⟩ := num_cut (Nat.lt_of_le_of_lt fo.n (by decide)) (Nat.lt_of_le_of_lt fp.n (by decide)) h
  obtain ⟨h3, h⟩ := List.append_inj h (by rw [lo, lp, h2])
  obtain ⟨h4, h⟩ := num_cut fo.st fp.st h
  rw [List.singleton_append, List.singleton_append] at h
  obtain ⟨h5, h⟩ := List.cons.inj h
  refine ⟨h1, h3, h4, h5, ?_⟩
  clear h1 h2 h3 h4 lo lp
  rw [← h5] at ap h
  generalize o.k = k at *
  clear h5
  unfold actB at ao ap
  by_cases k1 : k = 1
  · rw [if_pos k1, Bool.and_eq_true, decide_eq_true_eq] at ao ap
    rw [zeroV_eq ao.2, zeroV_eq ap.2, size_nil ao.1, size_nil ap.1]
    exact ⟨rfl, rfl⟩
  · rw [if_neg k1] at ao ap
    rw [if_neg k1, if_neg k1] at h
    by_cases k2 : k = 2 ∨ k = 3
    · rw [if_pos k2, Bool.and_eq_true] at ao ap
      have k4 : ¬ k = 4 := by omega
      obtain ⟨e, _⟩ := text_cut (Nat.le_trans (keyB_size ao.1) (by decide)) (Nat.le_trans (keyB_size ap.1) (by decide)) h
      exact ⟨e, by rw [zeroV_eq ao.2, zeroV_eq ap.2]⟩
    · rw [if_neg k2] at ao ap
      by_cases k4 : k = 4
      · rw [if_pos k4, Bool.and_eq_true] at ao ap
        rw [if_pos k4, if_pos k4] at h
        obtain ⟨e, h⟩ := text_cut (Nat.le_trans (keyB_size ao.1) (by decide)) (Nat.le_trans (keyB_size ap.1) (by decide)) h
        exact ⟨e, enc_cut fo.v fp.v ao.2 ap.2 h⟩
      · rw [if_neg k4] at ao
        cases ao
/-- Are two operations the same, but for Sig? -/
def sameM (o p : Od) : Bool := decide (o.au = p.au) && (sameF o.F p.F && (decide (o.st = p.st) && (decide (o.k = p.k) && (decide (o.key = p.key) && eqB o.v.k o.v.n o.v.b o.v.s p.v.k p.v.n p.v.b p.v.s))))
theorem same_msg {o p : Od} (fo : o.Fit) (fp : p.Fit) (lo : o.F.length = 32 * o.n) (lp : p.F.length = 32 * p.n) (ho : chkO o = 0) (hp : chkO p = 0) : sameF (msgB o) (msgB p) = sameM o p := by
  rw [Bool.eq_iff_iff]
  unfold sameM sameF eqB
  simp only [Bool.and_eq_true, decide_eq_true_eq]
  constructor
  · intro h
    obtain ⟨h1, h2, h3, h4, h5, h6⟩ := msg_tells fo fp lo lp (chk_zero ho).2.2 (chk_zero hp).2.2 h
    rw [h6]
    exact ⟨h1, h2, h3, h4, h5, rfl, rfl, rfl, rfl⟩
  · rintro ⟨h1, h2, h3, h4, h5, h6, h7, h8, h9⟩
    unfold msgB
    rw [h1, h2, h3, h4, h5, h6, h7, h8, h9]
    have : o.n = p.n := by
      have := congrArg List.length h2
      rw [lo, lp] at this
      omega
    rw [this]
end Go.Proofs.YtegffpjhdodldaaDoor.wir.val
namespace Go.Proofs.YtegffpjhdodldaaDoor.wir.val
open Go.RowKit Go.YtegffpjhdodldaaDoor
set_option linter.unusedVariables false
set_option maxHeartbeats 4000000 in
set_option maxRecDepth 100000 in
theorem sameO_any (o p : Od) (hn : o.n ≤ 20) (hE : p.e = o.e) (hS : p.s = o.s) (pv qv : Value) (w : World) (hp : RdI w pv o.n o.F) (hq : RdI w qv p.n p.F) :
    Calls Tryd.prog 16 #[.agg (o.c pv), .agg (p.c qv)] w fun e w' => e = .returned (.bool (sameM o p)) ∧ Below w.heap.size w w' := by
  have hm : sameM o p = (decide (o.au = p.au) && (sameF o.F p.F && (decide (o.st = p.st) && (decide (o.k = p.k) && (decide (o.key = p.key) && eqB o.v.k o.v.n o.v.b o.v.s p.v.k p.v.n p.v.b p.v.s))))) := rfl
  generalize sameM o p = R at *
  obtain ⟨au', n', F', st', k', key', v', e', s'⟩ := p
  dsimp only at hE hS hq hm ⊢
  subst hE hS
  obtain ⟨pa, pc, rfl⟩ := hp.slice
  obtain ⟨qa, qc, rfl⟩ := hq.slice
  obtain ⟨W, hW⟩ : ∃ W, W = (w.alloc (.cells (o.c (.slice pa o.n pc)) 32)).alloc (.cells ((⟨au', n', F', st', k', key', v', o.e, o.s⟩ : Od).c (.slice qa n' qc)) 32) := ⟨_, rfl⟩
  have hr0 : W.heap[w.heap.size]? = some (.cells (o.c (.slice pa o.n pc)) 32 (0, 0)) := by rw [hW]; exact rowB (heap_alloc_new w _) (below_a _ _) (by simp)
  have hr1 : W.heap[w.heap.size + 1]? = some (.cells ((⟨au', n', F', st', k', key', v', o.e, o.s⟩ : Od).c (.slice qa n' qc)) 32 (0, 0)) := by rw [hW]; exact hn2 w _ _
  have hb0 : Below w.heap.size w W := by rw [hW]; exact ((Below.refl w.heap.size w).alloc (Nat.le_refl _) _).alloc (by simp) _
  have hb1 := Lib.hid hb0
  have hB := Lib.hid (Below.refl W.heap.size W)
  have hlt := Lib.hid (Array.getElem?_eq_some_iff.1 hr0).1
  have hlt1 := Lib.hid (Array.getElem?_eq_some_iff.1 hr1).1
  have hrows := Lib.hid (fun (wz : World) (h : Below W.heap.size W wz) => cellsO (rowB hr0 h hlt.out))
  have hress := Lib.hid (fun (wz : World) (h : Below W.heap.size W wz) => cellsO (rowB hr1 h hlt1.out))
  dsimp only at hress
  have hI := Lib.hid (sameIDs_any o.n n' o.F F' _ _ W (by omega) (hp.mono hb0) (hq.mono hb0))
  obtain ⟨c0, c1, c2, _, _, c9, c10⟩ := cellsO hr0
  obtain ⟨d0, d1, d2, _, _, d9, d10⟩ := cellsO hr1
  dsimp only at d0 d1 d2 d9 d10
  have hqA := Lib.hid (fun wz => eqlA o.k o.key o.v k' key' v' wz)
  clear hr0 hr1 hb0 hp hq hn
  obtain ⟨AB, hAB⟩ : ∃ AB, (decide (o.k = k') && (decide (o.key = key') && eqB o.v.k o.v.n o.v.b o.v.s v'.k v'.n v'.b v'.s)) = AB := ⟨_, rfl⟩
  rw [hAB] at hm hqA
  clear hAB
  by_cases h1 : o.au = au'
  · have k1 : ((o.au : Int) == (au' : Int)) = true := by rw [h1]; simp
    rw [decide_eq_true h1, Bool.true_and] at hm
    clear h1
    cases hF : sameF o.F F'
    · rw [hF] at hI hm
      have e := Lib.hid (hm.trans rfl)
      clear hm hF
      go_enter Tryd.func16, Tryd.ntmps16
      go_upto_region 1 with fail
      rw [← hW]
      clear hW
      go_wp2_with (first
        | (go_at_call 33; (with_reducible refine (hI.out).mono ?_); rintro e w3 ⟨rfl, h3⟩; replace hB := Lib.hid (h3.below hB.out); clear h3 c0 c1 c2 c9 c10 d0 d1 d2 d9 d10; obtain ⟨c0, c1, c2, _, _, c9, c10⟩ := hrows.out _ hB.out; obtain ⟨d0, d1, d2, _, _, d9, d10⟩ := hress.out _ hB.out)
        | (refine wpList_midV rfl 28 _ rfl w.heap.size 3 rfl [.int .u8 o.k, .string o.key, .int .u8 o.v.k, .int .i64 o.v.n, .int .u64 (o.v.b : Int), .string o.v.s] _ (hrows.out _ hB.out).2.2.2.1 Tryd.underlying28 rfl info_act ?_)
        | (refine wpList_midV rfl 28 _ rfl (w.heap.size + 1) 3 rfl [.int .u8 k', .string key', .int .u8 v'.k, .int .i64 v'.n, .int .u64 (v'.b : Int), .string v'.s] _ (hress.out _ hB.out).2.2.2.1 Tryd.underlying28 rfl info_act ?_)
        | (refine wpList_midV rfl 30 _ rfl w.heap.size 9 rfl [.int .u32 (o.e : Int), .int .u32 (o.s : Int)] _ (hrows.out _ hB.out).2.2.2.2.1 Tryd.underlying30 rfl info_sig ?_)
        | (refine wpList_midV rfl 30 _ rfl (w.heap.size + 1) 9 rfl [.int .u32 (o.e : Int), .int .u32 (o.s : Int)] _ (hress.out _ hB.out).2.2.2.2.1 Tryd.underlying30 rfl info_sig ?_)
        | (refine wpList_eqlS rfl 28 _ _ rfl (aC o.k o.key o.v) (aC k' key' v') rfl rfl (by kernel_rfl) AB (hqA.out _) ?_))
      go_ret
      exact ⟨ret_bool (by first | exact e.out.symm | (rw [e.out]; simp)), hb1.out.trans (hB.out.mono hb1.out.size)⟩
    · rw [hF] at hI hm
      rw [Bool.true_and] at hm
      clear hF
      by_cases h2 : o.st = st'
      · have k2 : ((o.st : Int) == (st' : Int)) = true := by rw [h2]; simp
        rw [decide_eq_true h2, Bool.true_and] at hm
        have e := Lib.hid hm
        clear hm h2
        cases AB
        · go_enter Tryd.func16, Tryd.ntmps16
          go_upto_region 1 with fail
          rw [← hW]
          clear hW
          go_wp2_with (first
            | (go_at_call 33; (with_reducible refine (hI.out).mono ?_); rintro e w3 ⟨rfl, h3⟩; replace hB := Lib.hid (h3.below hB.out); clear h3 c0 c1 c2 c9 c10 d0 d1 d2 d9 d10; obtain ⟨c0, c1, c2, _, _, c9, c10⟩ := hrows.out _ hB.out; obtain ⟨d0, d1, d2, _, _, d9, d10⟩ := hress.out _ hB.out)
            | (refine wpList_midV rfl 28 _ rfl w.heap.size 3 rfl [.int .u8 o.k, .string o.key, .int .u8 o.v.k, .int .i64 o.v.n, .int .u64 (o.v.b : Int), .string o.v.s] _ (hrows.out _ hB.out).2.2.2.1 Tryd.underlying28 rfl info_act ?_)
            | (refine wpList_midV rfl 28 _ rfl (w.heap.size + 1) 3 rfl [.int .u8 k', .string key', .int .u8 v'.k, .int .i64 v'.n, .int .u64 (v'.b : Int), .string v'.s] _ (hress.out _ hB.out).2.2.2.1 Tryd.underlying28 rfl info_act ?_)
            | (refine wpList_midV rfl 30 _ rfl w.heap.size 9 rfl [.int .u32 (o.e : Int), .int .u32 (o.s : Int)] _ (hrows.out _ hB.out).2.2.2.2.1 Tryd.underlying30 rfl info_sig ?_)
            | (refine wpList_midV rfl 30 _ rfl (w.heap.size + 1) 9 rfl [.int .u32 (o.e : Int), .int .u32 (o.s : Int)] _ (hress.out _ hB.out).2.2.2.2.1 Tryd.underlying30 rfl info_sig ?_)
            | (refine wpList_eqlS rfl 28 _ _ rfl (aC o.k o.key o.v) (aC k' key' v') rfl rfl (by kernel_rfl) false (hqA.out _) ?_))
          go_ret
          exact ⟨ret_bool (by first | exact e.out.symm | (rw [e.out]; simp)), hb1.out.trans (hB.out.mono hb1.out.size)⟩
        · go_enter Tryd.func16, Tryd.ntmps16
          go_upto_region 1 with fail
          rw [← hW]
          clear hW
          go_wp2_with (first
            | (go_at_call 33; (with_reducible refine (hI.out).mono ?_); rintro e w3 ⟨rfl, h3⟩; replace hB := Lib.hid (h3.below hB.out); clear h3 c0 c1 c2 c9 c10 d0 d1 d2 d9 d10; obtain ⟨c0, c1, c2, _, _, c9, c10⟩ := hrows.out _ hB.out; obtain ⟨d0, d1, d2, _, _, d9, d10⟩ := hress.out _ hB.out)
            | (refine wpList_midV rfl 28 _ rfl w.heap.size 3 rfl [.int .u8 o.k, .string o.key, .int .u8 o.v.k, .int .i64 o.v.n, .int .u64 (o.v.b : Int), .string o.v.s] _ (hrows.out _ hB.out).2.2.2.1 Tryd.underlying28 rfl info_act ?_)
            | (refine wpList_midV rfl 28 _ rfl (w.heap.size + 1) 3 rfl [.int .u8 k', .string key', .int .u8 v'.k, .int .i64 v'.n, .int .u64 (v'.b : Int), .string v'.s] _ (hress.out _ hB.out).2.2.2.1 Tryd.underlying28 rfl info_act ?_)
            | (refine wpList_midV rfl 30 _ rfl w.heap.size 9 rfl [.int .u32 (o.e : Int), .int .u32 (o.s : Int)] _ (hrows.out _ hB.out).2.2.2.2.1 Tryd.underlying30 rfl info_sig ?_)
            | (refine wpList_midV rfl 30 _ rfl (w.heap.size + 1) 9 rfl [.int .u32 (o.e : Int), .int .u32 (o.s : Int)] _ (hress.out _ hB.out).2.2.2.2.1 Tryd.underlying30 rfl info_sig ?_)
            | (refine wpList_eqlS rfl 28 _ _ rfl (aC o.k o.key o.v) (aC k' key' v') rfl rfl (by kernel_rfl) true (hqA.out _) ?_))
          go_ret
          exact ⟨ret_bool (by first | exact e.out.symm | (rw [e.out]; simp)), hb1.out.trans (hB.out.mono hb1.out.size)⟩
      · have k2 : ((o.st : Int) == (st' : Int)) = false := by simp only [beq_eq_false_iff_ne, ne_eq]; omega
        rw [decide_eq_false h2, Bool.false_and] at hm
        have e := Lib.hid hm
        clear hm h2
        go_enter Tryd.func16, Tryd.ntmps16
        go_upto_region 1 with fail
        rw [← hW]
        clear hW
        go_wp2_with (first
          | (go_at_call 33; (with_reducible refine (hI.out).mono ?_); rintro e w3 ⟨rfl, h3⟩; replace hB := Lib.hid (h3.below hB.out); clear h3 c0 c1 c2 c9 c10 d0 d1 d2 d9 d10; obtain ⟨c0, c1, c2, _, _, c9, c10⟩ := hrows.out _ hB.out; obtain ⟨d0, d1, d2, _, _, d9, d10⟩ := hress.out _ hB.out)
          | (refine wpList_midV rfl 28 _ rfl w.heap.size 3 rfl [.int .u8 o.k, .string o.key, .int .u8 o.v.k, .int .i64 o.v.n, .int .u64 (o.v.b : Int), .string o.v.s] _ (hrows.out _ hB.out).2.2.2.1 Tryd.underlying28 rfl info_act ?_)
          | (refine wpList_midV rfl 28 _ rfl (w.heap.size + 1) 3 rfl [.int .u8 k', .string key', .int .u8 v'.k, .int .i64 v'.n, .int .u64 (v'.b : Int), .string v'.s] _ (hress.out _ hB.out).2.2.2.1 Tryd.underlying28 rfl info_act ?_)
          | (refine wpList_midV rfl 30 _ rfl w.heap.size 9 rfl [.int .u32 (o.e : Int), .int .u32 (o.s : Int)] _ (hrows.out _ hB.out).2.2.2.2.1 Tryd.underlying30 rfl info_sig ?_)
          | (refine wpList_midV rfl 30 _ rfl (w.heap.size + 1) 9 rfl [.int .u32 (o.e : Int), .int .u32 (o.s : Int)] _ (hress.out _ hB.out).2.2.2.2.1 Tryd.underlying30 rfl info_sig ?_)
          | (refine wpList_eqlS rfl 28 _ _ rfl (aC o.k o.key o.v) (aC k' key' v') rfl rfl (by kernel_rfl) AB (hqA.out _) ?_))
        go_ret
        exact ⟨ret_bool (by first | exact e.out.symm | (rw [e.out]; simp)), hb1.out.trans (hB.out.mono hb1.out.size)⟩
  · have k1 : ((o.au : Int) == (au' : Int)) = false := by simp only [beq_eq_false_iff_ne, ne_eq]; omega
    rw [decide_eq_false h1, Bool.false_and] at hm
    have e := Lib.hid hm
    clear hm h1
    go_enter Tryd.func16, Tryd.ntmps16
    go_upto_region 1 with fail
    rw [← hW]
    clear hW
    go_wp2_with (first
      | (go_at_call 33; (with_reducible refine (hI.out).mono ?_); rintro e w3 ⟨rfl, h3⟩; replace hB := Lib.hid (h3.below hB.out); clear h3 c0 c1 c2 c9 c10 d0 d1 d2 d9 d10; obtain ⟨c0, c1, c2, _, _, c9, c10⟩ := hrows.out _ hB.out; obtain ⟨d0, d1, d2, _, _, d9, d10⟩ := hress.out _ hB.out)
      | (refine wpList_midV rfl 28 _ rfl w.heap.size 3 rfl [.int .u8 o.k, .string o.key, .int .u8 o.v.k, .int .i64 o.v.n, .int .u64 (o.v.b : Int), .string o.v.s] _ (hrows.out _ hB.out).2.2.2.1 Tryd.underlying28 rfl info_act ?_)
      | (refine wpList_midV rfl 28 _ rfl (w.heap.size + 1) 3 rfl [.int .u8 k', .string key', .int .u8 v'.k, .int .i64 v'.n, .int .u64 (v'.b : Int), .string v'.s] _ (hress.out _ hB.out).2.2.2.1 Tryd.underlying28 rfl info_act ?_)
      | (refine wpList_midV rfl 30 _ rfl w.heap.size 9 rfl [.int .u32 (o.e : Int), .int .u32 (o.s : Int)] _ (hrows.out _ hB.out).2.2.2.2.1 Tryd.underlying30 rfl info_sig ?_)
      | (refine wpList_midV rfl 30 _ rfl (w.heap.size + 1) 9 rfl [.int .u32 (o.e : Int), .int .u32 (o.s : Int)] _ (hress.out _ hB.out).2.2.2.2.1 Tryd.underlying30 rfl info_sig ?_)
      | (refine wpList_eqlS rfl 28 _ _ rfl (aC o.k o.key o.v) (aC k' key' v') rfl rfl (by kernel_rfl) AB (hqA.out _) ?_))
    go_ret
    exact ⟨ret_bool (by first | exact e.out.symm | (rw [e.out]; simp)), hb1.out.trans (hB.out.mono hb1.out.size)⟩
end Go.Proofs.YtegffpjhdodldaaDoor.wir.val
namespace Go.Proofs.YtegffpjhdodldaaDoor.wir.val
open Go.RowKit Go.YtegffpjhdodldaaDoor
set_option linter.unusedVariables false
def fitO (o : Od) : Bool := !greatB o && decide (chkO o = 0)
set_option maxHeartbeats 4000000 in
set_option maxRecDepth 100000 in
theorem fit_great (o : Od) (hg : greatB o = true) (pa : Option Addr) (pc : Nat) (w : World) :
    Calls Tryd.prog 13 #[.agg (o.c (.slice pa o.n pc))] w fun e w' => e = .returned (.bool false) ∧ Below w.heap.size w w' := by
  obtain ⟨W, hW⟩ : ∃ W, W = w.alloc (.cells (o.c (.slice pa o.n pc)) 32) := ⟨_, rfl⟩
  have hr0 := heap_alloc_new w (.cells (o.c (.slice pa o.n pc)) 32)
  have hb0 := (Below.refl w.heap.size w).alloc (Nat.le_refl _) (.cells (o.c (.slice pa o.n pc)) 32)
  rw [← hW] at hr0 hb0
  have hb1 := Lib.hid hb0
  have hlt := (Array.getElem?_eq_some_iff.1 hr0).1
  have hrows := Lib.hid (fun (wz : World) (h : Below W.heap.size W wz) => rowB hr0 h hlt)
  have hgr := Lib.hid (fun wz => great_any o pa pc wz)
  rw [hg] at hgr
  have hB := Lib.hid (Below.refl W.heap.size W)
  clear hr0 hb0 hg
  go_enter Tryd.func13, Tryd.ntmps13
  go_upto_region 1 with fail
  rw [← hW]
  clear hW
  go_wp2_with (first
    | (refine wpList_load_row_g rfl 32 _ rfl w.heap.size rfl 32 (o.c (.slice pa o.n pc)) (0, 0) _ (hrows.out _ hB.out) Tryd.underlying32 rfl info_op ?_)
    | (go_at_call 6; (with_reducible refine (hgr.out _).mono ?_); rintro e w3 ⟨rfl, h3⟩; replace hB := Lib.hid (hB.out.trans (Below.mono h3 hB.out.size)); clear h3))
  go_ret
  exact ⟨ret_bool (by first | rfl | simp), hb1.out.trans (hB.out.mono hb1.out.size)⟩
theorem fitO_any (o : Od) (fr : o.Raw) (pa : Option Addr) (pc : Nat) (w : World) (hp : RdI w (.slice pa o.n pc) o.n o.F) :
    Calls Tryd.prog 13 #[.agg (o.c (.slice pa o.n pc))] w fun e w' => e = .returned (.bool (fitO o)) ∧ Below w.heap.size w w' := by
  unfold fitO
  cases hg : greatB o
  · exact fit_any o (raw_fit fr hg) hg _ w hp
  · exact fit_great o hg pa pc w
theorem fitO_parts {o : Od} (fr : o.Raw) (h : fitO o = true) : o.Fit ∧ greatB o = false ∧ chkO o = 0 := by
  unfold fitO at h
  rw [Bool.and_eq_true, decide_eq_true_eq] at h
  have hg : greatB o = false := by
    cases hc : greatB o
    · rfl
    · have := h.1; rw [hc] at this; cases this
  exact ⟨raw_fit fr hg, hg, h.2⟩
/-- An operation with another Sig. -/
def Od.sg (o : Od) (e s : Nat) : Od := { o with e := e, s := s }
theorem sg_bare (o : Od) (e s : Nat) : (o.sg e s).bare = o.bare := rfl
theorem sg_msg (o : Od) (e s : Nat) : msgB (o.sg e s) = msgB o := rfl
theorem fit_sg {o : Od} (h : o.Fit) (e s : Nat) (he : e < 4294967296) (hs : s < 4294967296) : (o.sg e s).Fit := ⟨h.au, h.F, h.n, h.st, h.k, h.key, h.v, he, hs⟩
theorem setSg {w : World} {g : Nat} {o : Od} {pv : Value} (e s : Nat) (h : w.heap[g]? = some (.cells (o.c pv) 32 (0, 0))) :
    (w.setCell ⟨g, 9, none⟩ (.int .u32 (e : Int))).setCell ⟨g, 10, none⟩ (.int .u32 (s : Int)) = w.setRow g ((o.sg e s).c pv) := by
  have h1 := setCell_eq h 9 (.int .u32 (e : Int))
  rw [h1]
  have h2 := setRow_heap w g (o.c pv) ((o.c pv).setIfInBounds 9 (.int .u32 (e : Int))) _ _ h
  rw [setCell_eq h2 10, setRow2 h]
  rfl
theorem own_form {B : Nat} {E : TypeId} {w : World} {a : Option Addr} {n c : Nat} {l : List Int} (h : OwnB B E w (.slice a n c) l) (hn : 0 < n) : ∃ g, a = some ⟨g, 0, none⟩ ∧ n ≤ c := by
  rcases h.2 with ⟨he, _⟩ | ⟨g, cap, cur, he, _, _, h1, _⟩
  · obtain ⟨_, e2, _⟩ := Value.slice.inj he
    omega
  · obtain ⟨e1, e2, e3⟩ := Value.slice.inj he
    exact ⟨g, e1, by omega⟩
theorem msg_pos (o : Od) : 1 ≤ (msgB o).length := by
  unfold msgB
  simp only [List.length_append, List.length_singleton]
  omega
theorem rdB_cut {w : World} {a : Option Addr} {n c : Nat} {l : List Int} (h : RdB w (.slice a n c) l) (hn : l.length = n) (k : Nat) (hk : k ≤ n) : RdB w (.slice a k c) (l.take k) := by
  rcases h with ⟨a', c', e, h1, rfl⟩ | ⟨b, o, c', e, h1, h2, h3, h4⟩
  · cases e
    obtain rfl : k = 0 := by simp at hn; omega
    exact .inl ⟨_, _, rfl, h1, rfl⟩
  · cases e
    have hl : (l.take k).length = k := by rw [List.length_take]; omega
    refine .inr ⟨b, o, c, by rw [hl], by rw [hl]; omega, h2, h3, fun i hi => ?_⟩
    rw [hl] at hi
    rw [ith_take _ _ _ hi]
    exact h4 i (by omega)
set_option maxHeartbeats 8000000 in
set_option maxRecDepth 100000 in
theorem differ_law (o p : Od) (e s : Nat) (he : e < 4294967296) (hs : s < 4294967296) (fo : o.Raw) (fp : p.Raw) (pv qv : Value) (w : World) (hp0 : RdI w pv o.n o.F) (hq0 : RdI w qv p.n p.F) (hG0 : GlobW w) :
    Calls Tryd.prog 4 #[.agg (o.c pv), .agg (p.c qv), .agg #[.int .u32 (e : Int), .int .u32 (s : Int)]] w fun x w' => x = .returned (.bool true) ∧ Below w.heap.size w w' := by
  obtain ⟨pa, pc, rfl⟩ := hp0.slice
  obtain ⟨qa, qc, rfl⟩ := hq0.slice
  obtain ⟨W, hW⟩ : ∃ W, W = ((w.alloc (.cells (o.c (.slice pa o.n pc)) 32)).alloc (.cells (p.c (.slice qa p.n qc)) 32)).alloc (.cells #[.int .u32 (e : Int), .int .u32 (s : Int)] 30) := ⟨_, rfl⟩
  have hb0 : Below w.heap.size w W := by rw [hW]; exact (((Below.refl w.heap.size w).alloc (Nat.le_refl _) _).alloc (by simp) _).alloc (by simp; omega) _
  have h0 : W.heap[w.heap.size]? = some (.cells (o.c (.slice pa o.n pc)) 32 (0, 0)) := by rw [hW]; exact rowB (rowB (heap_alloc_new w _) (below_a _ _) (by simp)) (below_a _ _) (by simp; omega)
  have h1 : W.heap[w.heap.size + 1]? = some (.cells (p.c (.slice qa p.n qc)) 32 (0, 0)) := by rw [hW]; exact rowB (hn2 w _ _) (below_a _ _) (by simp)
  have h2 : W.heap[w.heap.size + 2]? = some (.cells #[.int .u32 (e : Int), .int .u32 (s : Int)] 30 (0, 0)) := by rw [hW]; exact hn3 w _ _ _
  have hS := Lib.hid hb0
  have r0 := Lib.hid h0
  have r1 := Lib.hid h1
  have r2 := Lib.hid h2
  have hpw := Lib.hid hp0
  have hqw := Lib.hid hq0
  have hG := Lib.hid hG0
  have hlF := Lib.hid hp0.len
  have hlG := Lib.hid hq0.len
  have hfo := Lib.hid (fun (wz : World) (h : RdI wz (.slice pa o.n pc) o.n o.F) => fitO_any o fo pa pc wz h)
  have hfp := Lib.hid (fun (wz : World) (h : RdI wz (.slice qa p.n qc) p.n p.F) => fitO_any p fp qa qc wz h)
  have hsz : W.heap.size = w.heap.size + 3 := by rw [hW]; simp
  have hT := Lib.hid (Nat.le_of_eq hsz.symm)
  clear hp0 hq0 hG0 hb0 h0 h1 h2 hsz
  cases hf1 : fitO o
  · rw [hf1] at hfo
    clear fo fp hf1
    go_enter Tryd.func4, Tryd.ntmps4
    go_upto_region 1 with fail
    rw [← hW]
    clear hW
    go_wp2_with (first | (refine wpList_load_row_g rfl 32 _ rfl w.heap.size rfl 32 (o.c (.slice pa o.n pc)) (0, 0) _ r0.out Tryd.underlying32 rfl info_op ?_) | (refine wpList_load_row_g rfl 32 _ rfl (w.heap.size + 1) rfl 32 (p.c (.slice qa p.n qc)) (0, 0) _ r1.out Tryd.underlying32 rfl info_op ?_) | (go_at_call 13; (with_reducible refine (hfo.out _ (hpw.out.mono hS.out)).mono ?_); rintro e9 w4 ⟨rfl, q2⟩; (try replace r0 := Lib.hid (rowB r0.out q2 (Array.getElem?_eq_some_iff.1 r0.out).1)); (try replace r1 := Lib.hid (rowB r1.out q2 (Array.getElem?_eq_some_iff.1 r1.out).1)); (try replace r2 := Lib.hid (rowB r2.out q2 (Array.getElem?_eq_some_iff.1 r2.out).1)); (try replace xa := Lib.hid (xa.out.kept q2)); (try replace xb := Lib.hid (xb.out.kept q2)); (try replace xc := Lib.hid (xc.out.kept q2)); (try replace xd := Lib.hid (xd.out.kept q2)); replace hT := Lib.hid (Nat.le_trans hT.out (q2).size); replace hS := Lib.hid (hS.out.trans (Below.mono q2 hS.out.size)); clear q2) | (go_at_call 13; (with_reducible refine (hfp.out _ (hqw.out.mono hS.out)).mono ?_); rintro e9 w4 ⟨rfl, q2⟩; (try replace r0 := Lib.hid (rowB r0.out q2 (Array.getElem?_eq_some_iff.1 r0.out).1)); (try replace r1 := Lib.hid (rowB r1.out q2 (Array.getElem?_eq_some_iff.1 r1.out).1)); (try replace r2 := Lib.hid (rowB r2.out q2 (Array.getElem?_eq_some_iff.1 r2.out).1)); (try replace xa := Lib.hid (xa.out.kept q2)); (try replace xb := Lib.hid (xb.out.kept q2)); (try replace xc := Lib.hid (xc.out.kept q2)); (try replace xd := Lib.hid (xd.out.kept q2)); replace hT := Lib.hid (Nat.le_trans hT.out (q2).size); replace hS := Lib.hid (hS.out.trans (Below.mono q2 hS.out.size)); clear q2) | (go_at_call 7; (with_reducible refine (alive6 _ (hG.out.mono hS.out)).mono ?_); rintro e9 w4 ⟨rfl, q2⟩; (try replace r0 := Lib.hid (rowB r0.out q2 (Array.getElem?_eq_some_iff.1 r0.out).1)); (try replace r1 := Lib.hid (rowB r1.out q2 (Array.getElem?_eq_some_iff.1 r1.out).1)); (try replace r2 := Lib.hid (rowB r2.out q2 (Array.getElem?_eq_some_iff.1 r2.out).1)); (try replace xa := Lib.hid (xa.out.kept q2)); (try replace xb := Lib.hid (xb.out.kept q2)); (try replace xc := Lib.hid (xc.out.kept q2)); (try replace xd := Lib.hid (xd.out.kept q2)); replace hT := Lib.hid (Nat.le_trans hT.out (q2).size); replace hS := Lib.hid (hS.out.trans (Below.mono q2 hS.out.size)); clear q2))
    go_ret
    exact ⟨rfl, hS.out⟩
  cases hf2 : fitO p
  · rw [hf1] at hfo
    rw [hf2] at hfp
    clear fo fp hf1 hf2
    go_enter Tryd.func4, Tryd.ntmps4
    go_upto_region 1 with fail
    rw [← hW]
    clear hW
    go_wp2_with (first | (refine wpList_load_row_g rfl 32 _ rfl w.heap.size rfl 32 (o.c (.slice pa o.n pc)) (0, 0) _ r0.out Tryd.underlying32 rfl info_op ?_) | (refine wpList_load_row_g rfl 32 _ rfl (w.heap.size + 1) rfl 32 (p.c (.slice qa p.n qc)) (0, 0) _ r1.out Tryd.underlying32 rfl info_op ?_) | (go_at_call 13; (with_reducible refine (hfo.out _ (hpw.out.mono hS.out)).mono ?_); rintro e9 w4 ⟨rfl, q2⟩; (try replace r0 := Lib.hid (rowB r0.out q2 (Array.getElem?_eq_some_iff.1 r0.out).1)); (try replace r1 := Lib.hid (rowB r1.out q2 (Array.getElem?_eq_some_iff.1 r1.out).1)); (try replace r2 := Lib.hid (rowB r2.out q2 (Array.getElem?_eq_some_iff.1 r2.out).1)); (try replace xa := Lib.hid (xa.out.kept q2)); (try replace xb := Lib.hid (xb.out.kept q2)); (try replace xc := Lib.hid (xc.out.kept q2)); (try replace xd := Lib.hid (xd.out.kept q2)); replace hT := Lib.hid (Nat.le_trans hT.out (q2).size); replace hS := Lib.hid (hS.out.trans (Below.mono q2 hS.out.size)); clear q2) | (go_at_call 13; (with_reducible refine (hfp.out _ (hqw.out.mono hS.out)).mono ?_); rintro e9 w4 ⟨rfl, q2⟩; (try replace r0 := Lib.hid (rowB r0.out q2 (Array.getElem?_eq_some_iff.1 r0.out).1)); (try replace r1 := Lib.hid (rowB r1.out q2 (Array.getElem?_eq_some_iff.1 r1.out).1)); (try replace r2 := Lib.hid (rowB r2.out q2 (Array.getElem?_eq_some_iff.1 r2.out).1)); (try replace xa := Lib.hid (xa.out.kept q2)); (try replace xb := Lib.hid (xb.out.kept q2)); (try replace xc := Lib.hid (xc.out.kept q2)); (try replace xd := Lib.hid (xd.out.kept q2)); replace hT := Lib.hid (Nat.le_trans hT.out (q2).size); replace hS := Lib.hid (hS.out.trans (Below.mono q2 hS.out.size)); clear q2) | (go_at_call 7; (with_reducible refine (alive6 _ (hG.out.mono hS.out)).mono ?_); rintro e9 w4 ⟨rfl, q2⟩; (try replace r0 := Lib.hid (rowB r0.out q2 (Array.getElem?_eq_some_iff.1 r0.out).1)); (try replace r1 := Lib.hid (rowB r1.out q2 (Array.getElem?_eq_some_iff.1 r1.out).1)); (try replace r2 := Lib.hid (rowB r2.out q2 (Array.getElem?_eq_some_iff.1 r2.out).1)); (try replace xa := Lib.hid (xa.out.kept q2)); (try replace xb := Lib.hid (xb.out.kept q2)); (try replace xc := Lib.hid (xc.out.kept q2)); (try replace xd := Lib.hid (xd.out.kept q2)); replace hT := Lib.hid (Nat.le_trans hT.out (q2).size); replace hS := Lib.hid (hS.out.trans (Below.mono q2 hS.out.size)); clear q2))
    go_ret
    exact ⟨rfl, hS.out⟩
  rw [hf1] at hfo
  rw [hf2] at hfp
  obtain ⟨ffo, _, co⟩ := fitO_parts fo hf1
  obtain ⟨ffp, _, cp⟩ := fitO_parts fp hf2
  have hmo := Lib.hid (fun (wz : World) (h : RdI wz (.slice pa o.n pc) o.n o.F) => (opMessage_any o ffo (.slice pa o.n pc) wz h).mono fun x w' hq => (show ∃ sv, x = .returned (.tuple #[sv, .int .i64 0]) ∧ OwnB wz.heap.size 5 w' sv (msgB o) ∧ Below wz.heap.size wz w' from by have h1 := hq.1; rw [if_pos (chk_bare co)] at h1; obtain ⟨sv, h2, h3⟩ := h1; exact ⟨sv, h2, h3, hq.2⟩))
  have hmp := Lib.hid (fun (wz : World) (h : RdI wz (.slice qa p.n qc) p.n p.F) => (opMessage_any p ffp (.slice qa p.n qc) wz h).mono fun x w' hq => (show ∃ sv, x = .returned (.tuple #[sv, .int .i64 0]) ∧ OwnB wz.heap.size 5 w' sv (msgB p) ∧ Below wz.heap.size wz w' from by have h1 := hq.1; rw [if_pos (chk_bare cp)] at h1; obtain ⟨sv, h2, h3⟩ := h1; exact ⟨sv, h2, h3, hq.2⟩))
  have hms := Lib.hid (fun (wz : World) (h : RdI wz (.slice pa o.n pc) o.n o.F) => (opMessage_any (o.sg e s) (fit_sg ffo e s he hs) (.slice pa o.n pc) wz h).mono fun x w' hq => (show ∃ sv, x = .returned (.tuple #[sv, .int .i64 0]) ∧ OwnB wz.heap.size 5 w' sv (msgB o) ∧ Below wz.heap.size wz w' from by have h1 := hq.1; rw [sg_bare, if_pos (chk_bare co)] at h1; obtain ⟨sv, h2, h3⟩ := h1; rw [sg_msg] at h3; exact ⟨sv, h2, h3, hq.2⟩))
  have hen := Lib.hid (fun (wz : World) (h : RdI wz (.slice pa o.n pc) o.n o.F) => opEncode_ok o ffo (.slice pa o.n pc) wz h co)
  have hsm := Lib.hid (fun (wz : World) (h : RdI wz (.slice pa o.n pc) o.n o.F) (h2 : RdI wz (.slice qa p.n qc) p.n p.F) => sameO_any (o.sg e s) (p.sg e s) (Nat.le_trans (chk_zero co).1 (by decide)) rfl rfl (.slice pa o.n pc) (.slice qa p.n qc) wz h h2)
  have hsame := Lib.hid (show sameF (msgB o) (msgB p) = sameM (o.sg e s) (p.sg e s) from same_msg ffo ffp hlF.out hlG.out co cp)
  have hla := msgB_short o ffo (chk_zero co).1 hlF.out (chk_zero co).2.2
  have hlp := msg_pos o
  have hlb := msgB_short p ffp (chk_zero cp).1 hlG.out (chk_zero cp).2.2
  have hpre0 : (encO o).take (msgB o).length = msgB o := by unfold encO; rw [List.append_assoc, List.take_left' rfl]
  have hlc : (msgB o).length ≤ (encO o).length := by unfold encO; simp only [List.length_append]; omega
  generalize sameM (o.sg e s) (p.sg e s) = RB at *
  generalize msgB o = MA at *
  generalize msgB p = MB at *
  generalize encO o = EC at *
  obtain ⟨NA, hNA0⟩ : ∃ N, MA.length = N := ⟨_, rfl⟩
  obtain ⟨NB, hNB0⟩ : ∃ N, MB.length = N := ⟨_, rfl⟩
  obtain ⟨NC, hNC0⟩ : ∃ N, EC.length = N := ⟨_, rfl⟩
  rw [hNA0] at hla hlc hpre0 hlp
  rw [hNC0] at hlc
  rw [hNB0] at hlb
  have hNA := Lib.hid hNA0
  have hNB := Lib.hid hNB0
  have hNC := Lib.hid hNC0
  have hle := Lib.hid hla
  have hle2 := Lib.hid hlb
  have hpre := Lib.hid (fun (a : Option Addr) (c : Nat) (wz : World) (h : RdB wz (.slice a NC c) EC) => (show RdB wz (.slice a NA c) MA from by have h1 := rdB_cut h hNC0 NA hlc; rw [hpre0] at h1; exact h1))
  have d1 : decide ((NC : Int) < (NA : Int)) = false := decide_eq_false (by omega)
  have d2 : ¬ ((NC : Int) < (NA : Int)) := by omega
  clear fo fp hf1 hf2 ffo ffp co cp hpre0 hNA0 hNB0 hNC0 hla hlb
  go_enter Tryd.func4, Tryd.ntmps4
  go_upto_region 1 with fail
  rw [← hW]
  clear hW
  go_upto_region 3 with (first | (refine wpList_load_row_g rfl 32 _ rfl w.heap.size rfl 32 (o.c (.slice pa o.n pc)) (0, 0) _ r0.out Tryd.underlying32 rfl info_op ?_) | (refine wpList_load_row_g rfl 32 _ rfl (w.heap.size + 1) rfl 32 (p.c (.slice qa p.n qc)) (0, 0) _ r1.out Tryd.underlying32 rfl info_op ?_) | (go_at_call 13; (with_reducible refine (hfo.out _ (hpw.out.mono hS.out)).mono ?_); rintro e9 w4 ⟨rfl, q2⟩; (try replace r0 := Lib.hid (rowB r0.out q2 (Array.getElem?_eq_some_iff.1 r0.out).1)); (try replace r1 := Lib.hid (rowB r1.out q2 (Array.getElem?_eq_some_iff.1 r1.out).1)); (try replace r2 := Lib.hid (rowB r2.out q2 (Array.getElem?_eq_some_iff.1 r2.out).1)); (try replace xa := Lib.hid (xa.out.kept q2)); (try replace xb := Lib.hid (xb.out.kept q2)); (try replace xc := Lib.hid (xc.out.kept q2)); (try replace xd := Lib.hid (xd.out.kept q2)); replace hT := Lib.hid (Nat.le_trans hT.out (q2).size); replace hS := Lib.hid (hS.out.trans (Below.mono q2 hS.out.size)); clear q2) | (go_at_call 13; (with_reducible refine (hfp.out _ (hqw.out.mono hS.out)).mono ?_); rintro e9 w4 ⟨rfl, q2⟩; (try replace r0 := Lib.hid (rowB r0.out q2 (Array.getElem?_eq_some_iff.1 r0.out).1)); (try replace r1 := Lib.hid (rowB r1.out q2 (Array.getElem?_eq_some_iff.1 r1.out).1)); (try replace r2 := Lib.hid (rowB r2.out q2 (Array.getElem?_eq_some_iff.1 r2.out).1)); (try replace xa := Lib.hid (xa.out.kept q2)); (try replace xb := Lib.hid (xb.out.kept q2)); (try replace xc := Lib.hid (xc.out.kept q2)); (try replace xd := Lib.hid (xd.out.kept q2)); replace hT := Lib.hid (Nat.le_trans hT.out (q2).size); replace hS := Lib.hid (hS.out.trans (Below.mono q2 hS.out.size)); clear q2))
  go_upto_region 4 with (first | (refine wpList_load_row_g rfl 32 _ rfl w.heap.size rfl 32 (o.c (.slice pa o.n pc)) (0, 0) _ r0.out Tryd.underlying32 rfl info_op ?_) | (go_at_call 10; (with_reducible refine (hmo.out _ (hpw.out.mono hS.out)).mono ?_); rintro e9 w4 ⟨sv, rfl, q1, q2⟩; have zz := hT.out; (try replace r0 := Lib.hid (rowB r0.out q2 (Array.getElem?_eq_some_iff.1 r0.out).1)); (try replace r1 := Lib.hid (rowB r1.out q2 (Array.getElem?_eq_some_iff.1 r1.out).1)); (try replace r2 := Lib.hid (rowB r2.out q2 (Array.getElem?_eq_some_iff.1 r2.out).1)); (try replace xa := Lib.hid (xa.out.kept q2)); (try replace xb := Lib.hid (xb.out.kept q2)); (try replace xc := Lib.hid (xc.out.kept q2)); (try replace xd := Lib.hid (xd.out.kept q2)); replace hT := Lib.hid (Nat.le_trans hT.out (q2).size); replace hS := Lib.hid (hS.out.trans (Below.mono q2 hS.out.size)); have xa := Lib.hid (q1.mono zz); obtain ⟨axa, cxa, hz4⟩ := own_slice xa.out _ hNA.out; subst hz4; clear q1 q2))
  go_upto_region 5 with (first | (refine wpList_load_row_g rfl 32 _ rfl (w.heap.size + 1) rfl 32 (p.c (.slice qa p.n qc)) (0, 0) _ r1.out Tryd.underlying32 rfl info_op ?_) | (go_at_call 10; (with_reducible refine (hmp.out _ (hqw.out.mono hS.out)).mono ?_); rintro e9 w4 ⟨sv, rfl, q1, q2⟩; have zz := hT.out; (try replace r0 := Lib.hid (rowB r0.out q2 (Array.getElem?_eq_some_iff.1 r0.out).1)); (try replace r1 := Lib.hid (rowB r1.out q2 (Array.getElem?_eq_some_iff.1 r1.out).1)); (try replace r2 := Lib.hid (rowB r2.out q2 (Array.getElem?_eq_some_iff.1 r2.out).1)); (try replace xa := Lib.hid (xa.out.kept q2)); (try replace xb := Lib.hid (xb.out.kept q2)); (try replace xc := Lib.hid (xc.out.kept q2)); (try replace xd := Lib.hid (xd.out.kept q2)); replace hT := Lib.hid (Nat.le_trans hT.out (q2).size); replace hS := Lib.hid (hS.out.trans (Below.mono q2 hS.out.size)); have xb := Lib.hid (q1.mono zz); obtain ⟨axb, cxb, hz4⟩ := own_slice xb.out _ hNB.out; subst hz4; clear q1 q2))
  go_upto_region 6 with (first | (refine wpList_load_row_g rfl 32 _ rfl w.heap.size rfl 32 (o.c (.slice pa o.n pc)) (0, 0) _ r0.out Tryd.underlying32 rfl info_op ?_) | (go_at_call 14; (with_reducible refine (hen.out _ (hpw.out.mono hS.out)).mono ?_); rintro e9 w4 ⟨sv, rfl, q1, q2⟩; have zz := hT.out; (try replace r0 := Lib.hid (rowB r0.out q2 (Array.getElem?_eq_some_iff.1 r0.out).1)); (try replace r1 := Lib.hid (rowB r1.out q2 (Array.getElem?_eq_some_iff.1 r1.out).1)); (try replace r2 := Lib.hid (rowB r2.out q2 (Array.getElem?_eq_some_iff.1 r2.out).1)); (try replace xa := Lib.hid (xa.out.kept q2)); (try replace xb := Lib.hid (xb.out.kept q2)); (try replace xc := Lib.hid (xc.out.kept q2)); (try replace xd := Lib.hid (xd.out.kept q2)); replace hT := Lib.hid (Nat.le_trans hT.out (q2).size); replace hS := Lib.hid (hS.out.trans (Below.mono q2 hS.out.size)); have xc := Lib.hid (q1.mono zz); obtain ⟨axc, cxc, hz4⟩ := own_slice xc.out _ hNC.out; subst hz4; clear q1 q2))
  obtain ⟨gx, rfl, hcx⟩ := own_form xc.out (by omega)
  have hcx2 : NA ≤ cxc := by omega
  go_upto_region 8 with (go_at_call 15; (with_reducible refine (same_true _ _ MA _ (by rw [hNA.out]; have := hle.out; omega) (hpre.out _ _ _ xc.out.rd) xa.out.rd).mono ?_); rintro e9 w4 ⟨rfl, q2⟩; (try replace r0 := Lib.hid (rowB r0.out q2 (Array.getElem?_eq_some_iff.1 r0.out).1)); (try replace r1 := Lib.hid (rowB r1.out q2 (Array.getElem?_eq_some_iff.1 r1.out).1)); (try replace r2 := Lib.hid (rowB r2.out q2 (Array.getElem?_eq_some_iff.1 r2.out).1)); (try replace xa := Lib.hid (xa.out.kept q2)); (try replace xb := Lib.hid (xb.out.kept q2)); (try replace xc := Lib.hid (xc.out.kept q2)); (try replace xd := Lib.hid (xd.out.kept q2)); replace hT := Lib.hid (Nat.le_trans hT.out (q2).size); replace hS := Lib.hid (hS.out.trans (Below.mono q2 hS.out.size)); clear q2)
  have hlt0 := Lib.hid (Array.getElem?_eq_some_iff.1 r0.out).1
  go_cut [] (fun wz => wz.heap[w.heap.size]? = some (.cells ((o.sg e s).c (.slice pa o.n pc)) 32 (0, 0)) ∧ wz.heap[w.heap.size + 1]? = some (.cells ((p.sg e s).c (.slice qa p.n qc)) 32 (0, 0)) ∧ OwnB (w.heap.size + 3) 5 wz (.slice axa NA cxa) MA ∧ OwnB (w.heap.size + 3) 5 wz (.slice axb NB cxb) MB ∧ Below w.heap.size w wz ∧ w.heap.size + 3 ≤ wz.heap.size)
  case first =>
    have k20 : w4.cell? ⟨w.heap.size + 1 + 1, 0, none⟩ = some (.int .u32 (e : Int)) := by rw [cell_of_row _ _ _ _ _ _ (show w4.heap[w.heap.size + 1 + 1]? = _ from r2.out)]; rfl
    have k21 : w4.cell? ⟨w.heap.size + 1 + 1, 1, none⟩ = some (.int .u32 (s : Int)) := by rw [cell_of_row _ _ _ _ _ _ (show w4.heap[w.heap.size + 1 + 1]? = _ from r2.out)]; rfl
    have f09 := frozen_of_row w4 w.heap.size 9 _ _ r0.out
    have f00 := frozen_of_row w4 w.heap.size 10 _ _ r0.out
    have f19 := frozen_of_row w4 (w.heap.size + 1) 9 _ _ r1.out
    have f10 := frozen_of_row w4 (w.heap.size + 1) 10 _ _ r1.out
    have x0 := (cellsO r0.out).2.2.2.2.2
    have x1 := (cellsO r1.out).2.2.2.2.2
    obtain ⟨x09, x00⟩ := x0
    obtain ⟨x19, x10⟩ := x1
    go_region
    go_wp2_with fail
    have e0 := setSg e s r0.out
    have g1 := (setRow_other w4 w.heap.size (w.heap.size + 1) ((o.sg e s).c (.slice pa o.n pc)) (by omega)).trans r1.out
    have e1 := setSg e s g1
    have g0 := setRow_heap w4 w.heap.size _ ((o.sg e s).c (.slice pa o.n pc)) _ _ r0.out
    rw [e0, e1]
    go_meet
    exact ⟨(setRow_other _ (w.heap.size + 1) w.heap.size _ (by omega)).trans g0, setRow_heap _ _ _ _ _ _ g1, ownB_setRow (ownB_setRow xa.out (Nat.le_refl _) (by omega) _) (Nat.le_refl _) (by omega) _, ownB_setRow (ownB_setRow xb.out (Nat.le_refl _) (by omega) _) (Nat.le_refl _) (by omega) _,
      (below_setRow' (below_setRow' hS.out (Nat.le_refl _) _) (Nat.le_succ _) _).drew, by simpa [World.setRow] using hT.out⟩
  case rest =>
    obtain ⟨c0, c1, ca, cb, cB, cT⟩ := hcut
    clear r0 r1 r2 xa xb xc hS hT hlt0
    have r0 := Lib.hid c0
    have r1 := Lib.hid c1
    have xa := Lib.hid ca
    have xb := Lib.hid cb
    have hS := Lib.hid cB
    have hT := Lib.hid cT
    clear c0 c1 ca cb cB cT
    go_upto_region 10 with (first | (refine wpList_load_row_g rfl 32 _ rfl w.heap.size rfl 32 ((o.sg e s).c (.slice pa o.n pc)) (0, 0) _ r0.out Tryd.underlying32 rfl info_op ?_) | (go_at_call 10; (with_reducible refine (hms.out _ (hpw.out.mono hS.out)).mono ?_); rintro e9 w4 ⟨sv, rfl, q1, q2⟩; have zz := hT.out; (try replace r0 := Lib.hid (rowB r0.out q2 (Array.getElem?_eq_some_iff.1 r0.out).1)); (try replace r1 := Lib.hid (rowB r1.out q2 (Array.getElem?_eq_some_iff.1 r1.out).1)); (try replace r2 := Lib.hid (rowB r2.out q2 (Array.getElem?_eq_some_iff.1 r2.out).1)); (try replace xa := Lib.hid (xa.out.kept q2)); (try replace xb := Lib.hid (xb.out.kept q2)); (try replace xc := Lib.hid (xc.out.kept q2)); (try replace xd := Lib.hid (xd.out.kept q2)); replace hT := Lib.hid (Nat.le_trans hT.out (q2).size); replace hS := Lib.hid (hS.out.trans (Below.mono q2 hS.out.size)); have xd := Lib.hid (q1.mono zz); obtain ⟨axd, cxd, hz4⟩ := own_slice xd.out _ hNA.out; subst hz4; clear q1 q2))
    have lt0 := Lib.hid (Array.getElem?_eq_some_iff.1 r0.out).1
    have lt1 := Lib.hid (Array.getElem?_eq_some_iff.1 r1.out).1
    have k0 := Lib.hid (fun (w' : World) (h : Below w4.heap.size w4 w') => rowB r0.out h lt0.out)
    have k1 := Lib.hid (fun (w' : World) (h : Below w4.heap.size w4 w') => rowB r1.out h lt1.out)
    have kD := Lib.hid (fun (w' : World) (h : Below w4.heap.size w4 w') => same_true _ _ MA w' (by rw [hNA.out]; have := hle.out; omega) (xa.out.rd.mono h) (xd.out.rd.mono h))
    have kM := Lib.hid (fun (w' : World) (h : Below w4.heap.size w4 w') => (same_any _ _ MA MB w' (by rw [hNA.out]; have := hle.out; omega) (xa.out.rd.mono h) (xb.out.rd.mono h)).mono fun x w2 ⟨q1, q2⟩ => (show x = Ending.returned (.bool RB) ∧ Below w'.heap.size w' w2 from ⟨by rw [q1, hsame.out], q2.below (Below.refl _ _)⟩))
    have kS := Lib.hid (fun (w' : World) (h : Below w4.heap.size w4 w') => hsm.out w' (hpw.out.mono (hS.out.trans (h.mono hS.out.size))) (hqw.out.mono (hS.out.trans (h.mono hS.out.size))))
    have kL := Lib.hid (fun (w' : World) (h : Below w4.heap.size w4 w') => alive6 w' (hG.out.mono (hS.out.trans (h.mono hS.out.size))))
    have hRR : (RB == RB) = true := by simp
    clear hmo hmp hms hen hsm hfo hfp r0 r1 xa xb xd hpre
    refine wp_region_quiet (C := fun w' => Below w4.heap.size w4 w') (by kernel_rfl) (by kernel_rfl) ((Below.refl _ _).drew) ?_
    simp only []
    (go_big_quiet_want; go_big_quiet_op; first | go_big_quiet_on | (refine ⟨_, fun _ _ => rfl, ?_⟩; go_big_quiet_on))
    (go_big_quiet_want; go_big_quiet_op; first | go_big_quiet_on | (refine ⟨_, fun _ _ => rfl, ?_⟩; go_big_quiet_on))
    (go_big_quiet_want; go_big_quiet_op; first | go_big_quiet_on | (refine ⟨_, fun _ _ => rfl, ?_⟩; go_big_quiet_on))
    (go_big_quiet_want; go_big_quiet_op; first | go_big_quiet_on | (refine ⟨_, fun _ _ => rfl, ?_⟩; go_big_quiet_on))
    (go_big_quiet_want; go_big_quiet_op; first | go_big_quiet_on | (refine ⟨_, fun _ _ => rfl, ?_⟩; go_big_quiet_on))
    refine wpq (.bool true) rfl (quiet_call2 rfl Tryd.func15 (by kernel_rfl) rfl (.slice axa NA cxa) (.slice axd NA cxd) (.bool true) rfl rfl rfl (fun w h => (kD.out w h).mono fun e w' ⟨he, hb⟩ => ⟨he, h.trans (hb.mono h.size)⟩)) rfl (fun K hK => ?_); go_simp; refine hK _ ?_; clear hK K
    (go_big_quiet_want; go_big_quiet_op; first | go_big_quiet_on | (refine ⟨_, fun _ _ => rfl, ?_⟩; go_big_quiet_on))
    (go_big_quiet_want; go_big_quiet_op; first | go_big_quiet_on | (refine ⟨_, fun _ _ => rfl, ?_⟩; go_big_quiet_on))
    (go_big_quiet_want; go_big_quiet_op; first | go_big_quiet_on | (refine ⟨_, fun _ _ => rfl, ?_⟩; go_big_quiet_on))
    (go_big_quiet_want; go_big_quiet_op; first | go_big_quiet_on | (refine ⟨_, fun _ _ => rfl, ?_⟩; go_big_quiet_on))
    refine wpq (.bool RB) rfl (quiet_call2 rfl Tryd.func15 (by kernel_rfl) rfl (.slice axa NA cxa) (.slice axb NB cxb) (.bool RB) rfl rfl rfl (fun w h => (kM.out w h).mono fun e w' ⟨he, hb⟩ => ⟨he, h.trans (hb.mono h.size)⟩)) rfl (fun K hK => ?_); go_simp; refine hK _ ?_; clear hK K
    refine wpq (.agg ((o.sg e s).c (.slice pa o.n pc))) rfl (quiet_row 32 _ rfl w.heap.size rfl 32 ((o.sg e s).c (.slice pa o.n pc)) (0, 0) _ k0.out Tryd.underlying32 rfl info_op) rfl (fun K hK => ?_); go_simp; refine hK _ ?_; clear hK K
    refine wpq (.agg ((p.sg e s).c (.slice qa p.n qc))) rfl (quiet_row 32 _ rfl (w.heap.size + 1) rfl 32 ((p.sg e s).c (.slice qa p.n qc)) (0, 0) _ k1.out Tryd.underlying32 rfl info_op) rfl (fun K hK => ?_); go_simp; refine hK _ ?_; clear hK K
    refine wpq (.bool RB) rfl (quiet_call2 rfl Tryd.func16 (by kernel_rfl) rfl (.agg ((o.sg e s).c (.slice pa o.n pc))) (.agg ((p.sg e s).c (.slice qa p.n qc))) (.bool RB) rfl rfl rfl (fun w h => (kS.out w h).mono fun e w' ⟨he, hb⟩ => ⟨he, h.trans (hb.mono h.size)⟩)) rfl (fun K hK => ?_); go_simp; refine hK _ ?_; clear hK K
    (go_big_quiet_want; go_big_quiet_op; first | go_big_quiet_on | (refine ⟨_, fun _ _ => rfl, ?_⟩; go_big_quiet_on))
    (go_big_quiet_want; go_big_quiet_op; first | go_big_quiet_on | (refine ⟨_, fun _ _ => rfl, ?_⟩; go_big_quiet_on))
    (go_big_quiet_want; go_big_quiet_op; first | go_big_quiet_on | (refine ⟨_, fun _ _ => rfl, ?_⟩; go_big_quiet_on))
    refine wpq (.bool true) rfl (qa_call0 rfl Tryd.func7 (by kernel_rfl) rfl rfl (fun w h => (kL.out w h).mono fun e w' ⟨he, hb⟩ => ⟨he, h.trans (hb.mono h.size)⟩)) rfl (fun K hK => ?_); go_simp; refine hK _ ?_; clear hK K
    (go_big_quiet_want; go_big_quiet_op; first | go_big_quiet_on | (refine ⟨_, fun _ _ => rfl, ?_⟩; go_big_quiet_on))
    (go_big_quiet_want; go_big_quiet_op; first | go_big_quiet_on | (refine ⟨_, fun _ _ => rfl, ?_⟩; go_big_quiet_on))
    refine wpQuiet_nil ?_
    intro w9 h9
    have hB9 := Lib.hid (hS.out.trans (h9.mono hS.out.size))
    clear h9
    go_wp2
    go_ret
    exact ⟨rfl, hB9.out⟩
end Go.Proofs.YtegffpjhdodldaaDoor.wir.val

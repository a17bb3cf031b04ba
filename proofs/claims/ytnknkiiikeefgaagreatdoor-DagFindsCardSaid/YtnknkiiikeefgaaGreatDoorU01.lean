/- Layer 6: a message tells all of an operation but its Sig (maths). Layer 6: two operations with one Sig are compared: contract of the reference. Layer 6: OpDiffer's walk. -/
import Derived.Test.YtnknkiiikeefgaaGreatDoorR01
namespace Go.Proofs.YtnknkiiikeefgaaGreatDoor.wir.val
open Go.RowKit Go.YtnknkiiikeefgaaGreatDoor
set_option linter.unusedVariables false
theorem num_cut {a b : Nat} (ha : a < 18446744073709551616) (hb : b < 18446744073709551616) {x y : List Int} (h : numB a ++ x = numB b ++ y) : a = b ∧ x = y := by
  have h1 := readF_num a ha x
  have h2 := readF_num b hb y
  rw [h, h2] at h1
  have e : b = a := congrArg Prod.fst (Option.some.inj h1)
  subst e
  exact ⟨rfl, List.append_cancel_left h⟩
theorem sI_inj {s t : ByteArray} (h : sI s = sI t) : s = t := by
  obtain ⟨⟨s⟩⟩ := s
  obtain ⟨⟨t⟩⟩ := t
  have h' : s.map (fun c : UInt8 => (c.toNat : Int)) = t.map (fun c : UInt8 => (c.toNat : Int)) := h
  have : s = t := (List.map_inj_right (fun x y e => UInt8.toNat_inj.1 (Int.ofNat.inj e))).1 h'
  rw [this]
theorem text_cut {s t : ByteArray} (hs : s.size ≤ 1000) (ht : t.size ≤ 1000) {x y : List Int} (h : textB (sI s) ++ x = textB (sI t) ++ y) : s = t ∧ x = y := by
  unfold textB at h
  rw [List.append_assoc, List.append_assoc] at h
  obtain ⟨h1, h2⟩ := num_cut (by rw [sI_length]; omega) (by rw [sI_length]; omega) h
  obtain ⟨h3, h4⟩ := List.append_inj h2 h1
  exact ⟨sI_inj h3, h4⟩
theorem size_nil {s : ByteArray} (h : s.size = 0) : s = ⟨#[]⟩ := by
  cases s with | mk a => simp only [ByteArray.mk.injEq]; exact Array.eq_empty_of_size_eq_zero h
theorem enc_head {k n : Int} {b : Nat} {s : ByteArray} (h : 1 ≤ k ∧ k ≤ 3) : ∃ t, encB k n b s = k :: t := by
  unfold encB
  rcases (show k = 1 ∨ k = 2 ∨ k = 3 by omega) with rfl | rfl | rfl
  · exact ⟨_, if_pos rfl⟩
  · exact ⟨_, by rw [if_neg (by decide), if_pos rfl]⟩
  · exact ⟨_, by rw [if_neg (by decide), if_neg (by decide)]⟩
theorem enc_cut {v u : Va} (fv : v.fit) (fu : u.fit) (hv : v.ok = true) (hu : u.ok = true) (h : encB v.k v.n v.b v.s = encB u.k u.n u.b u.s) : v = u := by
  obtain ⟨k, n, b, s⟩ := v
  obtain ⟨k', n', b', s'⟩ := u
  have hk := valid_kind hv
  have hk' := valid_kind hu
  have fn := fv.n
  have fn' := fu.n
  have fb := fv.b
  have fb' := fu.b
  dsimp only at h hk hk' fn fn' fb fb'
  obtain ⟨t, e1⟩ := enc_head (n := n) (b := b) (s := s) hk
  obtain ⟨t', e2⟩ := enc_head (n := n') (b := b') (s := s') hk'
  have h0 := h
  rw [e1, e2] at h0
  obtain ⟨rfl, _⟩ := List.cons.inj h0
  clear h0 e1 e2
  unfold Va.ok validV at hv hu
  dsimp only at hv hu
  unfold encB at h
  rcases (show k = 1 ∨ k = 2 ∨ k = 3 by omega) with rfl | rfl | rfl
  · rw [if_pos rfl, Bool.and_eq_true, decide_eq_true_eq, decide_eq_true_eq] at hv hu
    rw [if_pos rfl, if_pos rfl] at h
    have h1 := numB_inj (fold_lt n fn) (fold_lt n' fn') (List.cons.inj h).2
    have h2 := congrArg unfoldN h1
    rw [unfold_fold, unfold_fold] at h2
    rw [h2, hv.1, hu.1, size_nil hv.2, size_nil hu.2]
  · rw [if_neg (by decide), if_pos rfl, Bool.and_eq_true, Bool.and_eq_true, decide_eq_true_eq, decide_eq_true_eq, decide_eq_true_eq] at hv hu
    rw [if_neg (by decide), if_pos rfl, if_neg (by decide), if_pos rfl] at h
    have h1 := (List.cons.inj h).2
    have h2 : b = b' := by
      rw [← valN_be_all 8 b (Nat.lt_of_lt_of_le fb (by decide)), ← valN_be_all 8 b' (Nat.lt_of_lt_of_le fb' (by decide)), h1]
    rw [h2, hv.1, hu.1, size_nil hv.2.2, size_nil hu.2.2]
  · rw [if_neg (by decide), if_neg (by decide), if_pos rfl, Bool.and_eq_true, Bool.and_eq_true, Bool.and_eq_true, decide_eq_true_eq, decide_eq_true_eq, decide_eq_true_eq] at hv hu
    rw [if_neg (by decide), if_neg (by decide), if_neg (by decide), if_neg (by decide)] at h
    have h1 := (List.cons.inj h).2
    obtain ⟨h2, _⟩ := text_cut (s := s) (t := s') (x := []) (y := []) (by omega) (by omega) (by rw [List.append_nil, List.append_nil]; exact h1)
    rw [h2, hv.1, hu.1, hv.2.1, hu.2.1]
theorem zeroV_eq {v : Va} (h : zeroV v = true) : v = ⟨0, 0, 0, ⟨#[]⟩⟩ := by
  unfold zeroV eqB at h
  simp only [Bool.and_eq_true, decide_eq_true_eq] at h
  obtain ⟨h1, h2, h3, h4⟩ := h
  obtain ⟨k, n, b, s⟩ := v
  simp only at h1 h2 h3 h4
  rw [h1, h2, h3, h4]
theorem keyB_size {s : ByteArray} (h : keyB s = true) : s.size ≤ 20 := by
  unfold keyB at h
  simp only [Bool.and_eq_true, decide_eq_true_eq] at h
  exact h.2.1
theorem msg_tells {o p : Od} (fo : o.Fit) (fp : p.Fit) (lo : o.F.length = 32 * o.n) (lp : p.F.length = 32 * p.n) (ao : actB o.k o.key o.v = true) (ap : actB p.k p.key p.v = true) (h : msgB o = msgB p) :
    o.au = p.au ∧ o.F = p.F ∧ o.st = p.st ∧ o.k = p.k ∧ o.key = p.key ∧ o.v = p.v := by
  unfold msgB at h
  simp only [List.append_assoc] at h
  have h := List.append_cancel_left h
  obtain ⟨h1, h⟩ := num_cut (Nat.lt_trans fo.au (by decide)) (Nat.lt_trans fp.au (by decide)) h
  obtain ⟨h2, h⟩ := num_cut (Nat.lt_of_le_of_lt fo.n (by decide)) (Nat.lt_of_le_of_lt fp.n (by decide)) h
  obtain ⟨h3, h⟩ := List.append_inj h (by rw [lo, lp, h2])
  obtain ⟨h4, h⟩ := num_cut fo.st fp.st h
  rw [List.singleton_append, List.singleton_append] at h
  obtain ⟨h5, h⟩ := List.cons.inj h
  refine ⟨h1, h3, h4, h5, ?_⟩
  clear h1 h2 h3 h4 lo lp
  rw [← h5] at ap h
  generalize o.k = k at *
  clear h5
  unfold actB at ao ap
  by_cases k1 : k = 1
  · rw [if_pos k1, Bool.and_eq_true, decide_eq_true_eq] at ao ap
    rw [zeroV_eq ao.2, zeroV_eq ap.2, size_nil ao.1, size_nil ap.1]
    exact ⟨rfl, rfl⟩
  · rw [if_neg k1] at ao ap
    rw [if_neg k1, if_neg k1] at h
    by_cases k2 : k = 2 ∨ k = 3
    · rw [if_pos k2, Bool.and_eq_true] at ao ap
      have k4 : ¬ k = 4 := by omega
      obtain ⟨e, _⟩ := text_cut (Nat.le_trans (keyB_size ao.1) (by decide)) (Nat.le_trans (keyB_size ap.1) (by decide)) h
      exact ⟨e, by rw [zeroV_eq ao.2, zeroV_eq ap.2]⟩
    · rw [if_neg k2] at ao ap
      by_cases k4 : k = 4
      · rw [if_pos k4, Bool.and_eq_true] at ao ap
        rw [if_pos k4, if_pos k4] at h
        obtain ⟨e, h⟩ := text_cut (Nat.le_trans (keyB_size ao.1) (by decide)) (Nat.le_trans (keyB_size ap.1) (by decide)) h
        exact ⟨e, enc_cut fo.v fp.v ao.2 ap.2 h⟩
      · rw [if_neg k4] at ao
        cases ao
/-- Are two operations the same, but for Sig? -/
def sameM (o p : Od) : Bool := decide (o.au = p.au) && (sameF o.F p.F && (decide (o.st = p.st) && (decide (o.k = p.k) && (decide (o.key = p.key) && eqB o.v.k o.v.n o.v.b o.v.s p.v.k p.v.n p.v.b p.v.s))))
theorem same_msg {o p : Od} (fo : o.Fit) (fp : p.Fit) (lo : o.F.length = 32 * o.n) (lp : p.F.length = 32 * p.n) (ho : chkO o = 0) (hp : chkO p = 0) : sameF (msgB o) (msgB p) = sameM o p := by
  rw [Bool.eq_iff_iff]
  unfold sameM sameF eqB
  simp only [Bool.and_eq_true, decide_eq_true_eq]
  constructor
  · intro h
    obtain ⟨h1, h2, h3, h4, h5, h6⟩ := msg_tells fo fp lo lp (chk_zero ho).2.2 (chk_zero hp).2.2 h
    rw [h6]
    exact ⟨h1, h2, h3, h4, h5, rfl, rfl, rfl, rfl⟩
  · rintro ⟨h1, h2, h3, h4, h5, h6, h7, h8, h9⟩
    unfold msgB
    rw [h1, h2, h3, h4, h5, h6, h7, h8, h9]
    have : o.n = p.n := by
      have := congrArg List.length h2
      rw [lo, lp] at this
      omega
    rw [this]
end Go.Proofs.YtnknkiiikeefgaaGreatDoor.wir.val
namespace Go.Proofs.YtnknkiiikeefgaaGreatDoor.wir.val
open Go.RowKit Go.YtnknkiiikeefgaaGreatDoor
set_option linter.unusedVariables false
set_option maxHeartbeats 4000000 in
set_option maxRecDepth 100000 in
theorem sameO_any (o p : Od) (hn : o.n ≤ 20) (hE : p.e = o.e) (hS : p.s = o.s) (pv qv : Value) (w : World) (hp : RdI w pv o.n o.F) (hq : RdI w qv p.n p.F) :
    Calls Tryz.prog 30 #[.agg (o.c pv), .agg (p.c qv)] w fun e w' => e = .returned (.bool (sameM o p)) ∧ Below w.heap.size w w' := by
  have hm : sameM o p = (decide (o.au = p.au) && (sameF o.F p.F && (decide (o.st = p.st) && (decide (o.k = p.k) && (decide (o.key = p.key) && eqB o.v.k o.v.n o.v.b o.v.s p.v.k p.v.n p.v.b p.v.s))))) := rfl
  generalize sameM o p = R at *
  obtain ⟨au', n', F', st', k', key', v', e', s'⟩ := p
  dsimp only at hE hS hq hm ⊢
  subst hE hS
  obtain ⟨pa, pc, rfl⟩ := hp.slice
  obtain ⟨qa, qc, rfl⟩ := hq.slice
  obtain ⟨W, hW⟩ : ∃ W, W = (w.alloc (.cells (o.c (.slice pa o.n pc)) 35)).alloc (.cells ((⟨au', n', F', st', k', key', v', o.e, o.s⟩ : Od).c (.slice qa n' qc)) 35) := ⟨_, rfl⟩
  have hr0 : W.heap[w.heap.size]? = some (.cells (o.c (.slice pa o.n pc)) 35 (0, 0)) := by rw [hW]; exact rowB (heap_alloc_new w _) (below_a _ _) (by simp)
  have hr1 : W.heap[w.heap.size + 1]? = some (.cells ((⟨au', n', F', st', k', key', v', o.e, o.s⟩ : Od).c (.slice qa n' qc)) 35 (0, 0)) := by rw [hW]; exact hn2 w _ _
  have hb0 : Below w.heap.size w W := by rw [hW]; exact ((Below.refl w.heap.size w).alloc (Nat.le_refl _) _).alloc (by simp) _
  have hb1 := Lib.hid hb0
  have hB := Lib.hid (Below.refl W.heap.size W)
  have hlt := Lib.hid (Array.getElem?_eq_some_iff.1 hr0).1
  have hlt1 := Lib.hid (Array.getElem?_eq_some_iff.1 hr1).1
  have hrows := Lib.hid (fun (wz : World) (h : Below W.heap.size W wz) => cellsO (rowB hr0 h hlt.out))
  have hress := Lib.hid (fun (wz : World) (h : Below W.heap.size W wz) => cellsO (rowB hr1 h hlt1.out))
  dsimp only at hress
  have hI := Lib.hid (sameIDs_any o.n n' o.F F' _ _ W (by omega) (hp.mono hb0) (hq.mono hb0))
  obtain ⟨c0, c1, c2, _, _, c9, c10⟩ := cellsO hr0
  obtain ⟨d0, d1, d2, _, _, d9, d10⟩ := cellsO hr1
  dsimp only at d0 d1 d2 d9 d10
  have hqA := Lib.hid (fun wz => eqlA o.k o.key o.v k' key' v' wz)
  clear hr0 hr1 hb0 hp hq hn
  obtain ⟨AB, hAB⟩ : ∃ AB, (decide (o.k = k') && (decide (o.key = key') && eqB o.v.k o.v.n o.v.b o.v.s v'.k v'.n v'.b v'.s)) = AB := ⟨_, rfl⟩
  rw [hAB] at hm hqA
  clear hAB
  by_cases h1 : o.au = au'
  · have k1 : ((o.au : Int) == (au' : Int)) = true := by rw [h1]; simp
    rw [decide_eq_true h1, Bool.true_and] at hm
    clear h1
    cases hF : sameF o.F F'
    · rw [hF] at hI hm
      have e := Lib.hid (hm.trans rfl)
      clear hm hF
      go_enter Tryz.func30, Tryz.ntmps30
      go_upto_region 1 with fail
      rw [← hW]
      clear hW
      go_wp2_with (first
        | (go_at_call 76; (with_reducible refine (hI.out).mono ?_); rintro e w3 ⟨rfl, h3⟩; replace hB := Lib.hid (h3.below hB.out); clear h3 c0 c1 c2 c9 c10 d0 d1 d2 d9 d10; obtain ⟨c0, c1, c2, _, _, c9, c10⟩ := hrows.out _ hB.out; obtain ⟨d0, d1, d2, _, _, d9, d10⟩ := hress.out _ hB.out)
        | (refine wpList_midV rfl 31 _ rfl w.heap.size 3 rfl [.int .u8 o.k, .string o.key, .int .u8 o.v.k, .int .i64 o.v.n, .int .u64 (o.v.b : Int), .string o.v.s] _ (hrows.out _ hB.out).2.2.2.1 Tryz.underlying31 rfl info_act ?_)
        | (refine wpList_midV rfl 31 _ rfl (w.heap.size + 1) 3 rfl [.int .u8 k', .string key', .int .u8 v'.k, .int .i64 v'.n, .int .u64 (v'.b : Int), .string v'.s] _ (hress.out _ hB.out).2.2.2.1 Tryz.underlying31 rfl info_act ?_)
        | (refine wpList_midV rfl 33 _ rfl w.heap.size 9 rfl [.int .u32 (o.e : Int), .int .u32 (o.s : Int)] _ (hrows.out _ hB.out).2.2.2.2.1 Tryz.underlying33 rfl info_sig ?_)
        | (refine wpList_midV rfl 33 _ rfl (w.heap.size + 1) 9 rfl [.int .u32 (o.e : Int), .int .u32 (o.s : Int)] _ (hress.out _ hB.out).2.2.2.2.1 Tryz.underlying33 rfl info_sig ?_)
        | (refine wpList_eqlS rfl 31 _ _ rfl (aC o.k o.key o.v) (aC k' key' v') rfl rfl (by kernel_rfl) AB (hqA.out _) ?_))
      go_ret
      exact ⟨ret_bool (by first | exact e.out.symm | (rw [e.out]; simp)), hb1.out.trans (hB.out.mono hb1.out.size)⟩
    · rw [hF] at hI hm
      rw [Bool.true_and] at hm
      clear hF
      by_cases h2 : o.st = st'
      · have k2 : ((o.st : Int) == (st' : Int)) = true := by rw [h2]; simp
        rw [decide_eq_true h2, Bool.true_and] at hm
        have e := Lib.hid hm
        clear hm h2
        cases AB
        · go_enter Tryz.func30, Tryz.ntmps30
          go_upto_region 1 with fail
          rw [← hW]
          clear hW
          go_wp2_with (first
            | (go_at_call 76; (with_reducible refine (hI.out).mono ?_); rintro e w3 ⟨rfl, h3⟩; replace hB := Lib.hid (h3.below hB.out); clear h3 c0 c1 c2 c9 c10 d0 d1 d2 d9 d10; obtain ⟨c0, c1, c2, _, _, c9, c10⟩ := hrows.out _ hB.out; obtain ⟨d0, d1, d2, _, _, d9, d10⟩ := hress.out _ hB.out)
            | (refine wpList_midV rfl 31 _ rfl w.heap.size 3 rfl [.int .u8 o.k, .string o.key, .int .u8 o.v.k, .int .i64 o.v.n, .int .u64 (o.v.b : Int), .string o.v.s] _ (hrows.out _ hB.out).2.2.2.1 Tryz.underlying31 rfl info_act ?_)
            | (refine wpList_midV rfl 31 _ rfl (w.heap.size + 1) 3 rfl [.int .u8 k', .string key', .int .u8 v'.k, .int .i64 v'.n, .int .u64 (v'.b : Int), .string v'.s] _ (hress.out _ hB.out).2.2.2.1 Tryz.underlying31 rfl info_act ?_)
            | (refine wpList_midV rfl 33 _ rfl w.heap.size 9 rfl [.int .u32 (o.e : Int), .int .u32 (o.s : Int)] _ (hrows.out _ hB.out).2.2.2.2.1 Tryz.underlying33 rfl info_sig ?_)
            | (refine wpList_midV rfl 33 _ rfl (w.heap.size + 1) 9 rfl [.int .u32 (o.e : Int), .int .u32 (o.s : Int)] _ (hress.out _ hB.out).2.2.2.2.1 Tryz.underlying33 rfl info_sig ?_)
            | (refine wpList_eqlS rfl 31 _ _ rfl (aC o.k o.key o.v) (aC k' key' v') rfl rfl (by kernel_rfl) false (hqA.out _) ?_))
          go_ret
          exact ⟨ret_bool (by first | exact e.out.symm | (rw [e.out]; simp)), hb1.out.trans (hB.out.mono hb1.out.size)⟩
        · go_enter Tryz.func30, Tryz.ntmps30
          go_upto_region 1 with fail
          rw [← hW]
          clear hW
          go_wp2_with (first
            | (go_at_call 76; (with_reducible refine (hI.out).mono ?_); rintro e w3 ⟨rfl, h3⟩; replace hB := Lib.hid (h3.below hB.out); clear h3 c0 c1 c2 c9 c10 d0 d1 d2 d9 d10; obtain ⟨c0, c1, c2, _, _, c9, c10⟩ := hrows.out _ hB.out; obtain ⟨d0, d1, d2, _, _, d9, d10⟩ := hress.out _ hB.out)
            | (refine wpList_midV rfl 31 _ rfl w.heap.size 3 rfl [.int .u8 o.k, .string o.key, .int .u8 o.v.k, .int .i64 o.v.n, .int .u64 (o.v.b : Int), .string o.v.s] _ (hrows.out _ hB.out).2.2.2.1 Tryz.underlying31 rfl info_act ?_)
            | (refine wpList_midV rfl 31 _ rfl (w.heap.size + 1) 3 rfl [.int .u8 k', .string key', .int .u8 v'.k, .int .i64 v'.n, .int .u64 (v'.b : Int), .string v'.s] _ (hress.out _ hB.out).2.2.2.1 Tryz.underlying31 rfl info_act ?_)
            | (refine wpList_midV rfl 33 _ rfl w.heap.size 9 rfl [.int .u32 (o.e : Int), .int .u32 (o.s : Int)] _ (hrows.out _ hB.out).2.2.2.2.1 Tryz.underlying33 rfl info_sig ?_)
            | (refine wpList_midV rfl 33 _ rfl (w.heap.size + 1) 9 rfl [.int .u32 (o.e : Int), .int .u32 (o.s : Int)] _ (hress.out _ hB.out).2.2.2.2.1 Tryz.underlying33 rfl info_sig ?_)
            | (refine wpList_eqlS rfl 31 _ _ rfl (aC o.k o.key o.v) (aC k' key' v') rfl rfl (by kernel_rfl) true (hqA.out _) ?_))
          go_ret
          exact ⟨ret_bool (by first | exact e.out.symm | (rw [e.out]; simp)), hb1.out.trans (hB.out.mono hb1.out.size)⟩
      · have k2 : ((o.st : Int) == (st' : Int)) = false := by simp only [beq_eq_false_iff_ne, ne_eq]; omega
        rw [decide_eq_false h2, Bool.false_and] at hm
        have e := Lib.hid hm
        clear hm h2
        go_enter Tryz.func30, Tryz.ntmps30
        go_upto_region 1 with fail
        rw [← hW]
        clear hW
        go_wp2_with (first
          | (go_at_call 76; (with_reducible refine (hI.out).mono ?_); rintro e w3 ⟨rfl, h3⟩; replace hB := Lib.hid (h3.below hB.out); clear h3 c0 c1 c2 c9 c10 d0 d1 d2 d9 d10; obtain ⟨c0, c1, c2, _, _, c9, c10⟩ := hrows.out _ hB.out; obtain ⟨d0, d1, d2, _, _, d9, d10⟩ := hress.out _ hB.out)
          | (refine wpList_midV rfl 31 _ rfl w.heap.size 3 rfl [.int .u8 o.k, .string o.key, .int .u8 o.v.k, .int .i64 o.v.n, .int .u64 (o.v.b : Int), .string o.v.s] _ (hrows.out _ hB.out).2.2.2.1 Tryz.underlying31 rfl info_act ?_)
          | (refine wpList_midV rfl 31 _ rfl (w.heap.size + 1) 3 rfl [.int .u8 k', .string key', .int .u8 v'.k, .int .i64 v'.n, .int .u64 (v'.b : Int), .string v'.s] _ (hress.out _ hB.out).2.2.2.1 Tryz.underlying31 rfl info_act ?_)
          | (refine wpList_midV rfl 33 _ rfl w.heap.size 9 rfl [.int .u32 (o.e : Int), .int .u32 (o.s : Int)] _ (hrows.out _ hB.out).2.2.2.2.1 Tryz.underlying33 rfl info_sig ?_)
          | (refine wpList_midV rfl 33 _ rfl (w.heap.size + 1) 9 rfl [.int .u32 (o.e : Int), .int .u32 (o.s : Int)] _ (hress.out _ hB.out).2.2.2.2.1 Tryz.underlying33 rfl info_sig ?_)
          | (refine wpList_eqlS rfl 31 _ _ rfl (aC o.k o.key o.v) (aC k' key' v') rfl rfl (by kernel_rfl) AB (hqA.out _) ?_))
        go_ret
        exact ⟨ret_bool (by first | exact e.out.symm | (rw [e.out]; simp)), hb1.out.trans (hB.out.mono hb1.out.size)⟩
  · have k1 : ((o.au : Int) == (au' : Int)) = false := by simp only [beq_eq_false_iff_ne, ne_eq]; omega
    rw [decide_eq_false h1, Bool.false_and] at hm
    have e := Lib.hid hm
    clear hm h1
    go_enter Tryz.func30, Tryz.ntmps30
    go_upto_region 1 with fail
    rw [← hW]
    clear hW
    go_wp2_with (first
      | (go_at_call 76; (with_reducible refine (hI.out).mono ?_); rintro e w3 ⟨rfl, h3⟩; replace hB := Lib.hid (h3.below hB.out); clear h3 c0 c1 c2 c9 c10 d0 d1 d2 d9 d10; obtain ⟨c0, c1, c2, _, _, c9, c10⟩ := hrows.out _ hB.out; obtain ⟨d0, d1, d2, _, _, d9, d10⟩ := hress.out _ hB.out)
      | (refine wpList_midV rfl 31 _ rfl w.heap.size 3 rfl [.int .u8 o.k, .string o.key, .int .u8 o.v.k, .int .i64 o.v.n, .int .u64 (o.v.b : Int), .string o.v.s] _ (hrows.out _ hB.out).2.2.2.1 Tryz.underlying31 rfl info_act ?_)
      | (refine wpList_midV rfl 31 _ rfl (w.heap.size + 1) 3 rfl [.int .u8 k', .string key', .int .u8 v'.k, .int .i64 v'.n, .int .u64 (v'.b : Int), .string v'.s] _ (hress.out _ hB.out).2.2.2.1 Tryz.underlying31 rfl info_act ?_)
      | (refine wpList_midV rfl 33 _ rfl w.heap.size 9 rfl [.int .u32 (o.e : Int), .int .u32 (o.s : Int)] _ (hrows.out _ hB.out).2.2.2.2.1 Tryz.underlying33 rfl info_sig ?_)
      | (refine wpList_midV rfl 33 _ rfl (w.heap.size + 1) 9 rfl [.int .u32 (o.e : Int), .int .u32 (o.s : Int)] _ (hress.out _ hB.out).2.2.2.2.1 Tryz.underlying33 rfl info_sig ?_)
      | (refine wpList_eqlS rfl 31 _ _ rfl (aC o.k o.key o.v) (aC k' key' v') rfl rfl (by kernel_rfl) AB (hqA.out _) ?_))
    go_ret
    exact ⟨ret_bool (by first | exact e.out.symm | (rw [e.out]; simp)), hb1.out.trans (hB.out.mono hb1.out.size)⟩
end Go.Proofs.YtnknkiiikeefgaaGreatDoor.wir.val
namespace Go.Proofs.YtnknkiiikeefgaaGreatDoor.wir.val
open Go.RowKit Go.YtnknkiiikeefgaaGreatDoor
set_option linter.unusedVariables false
def fitO (o : Od) : Bool := !greatB o && decide (chkO o = 0)
theorem fitO_parts {o : Od} (fr : o.Raw) (h : fitO o = true) : o.Fit ∧ greatB o = false ∧ chkO o = 0 := by
  unfold fitO at h
  rw [Bool.and_eq_true, decide_eq_true_eq] at h
  have hg : greatB o = false := by
    cases hc : greatB o
    · rfl
    · have := h.1; rw [hc] at this; cases this
  exact ⟨raw_fit fr hg, hg, h.2⟩
/-- An operation with another Sig. -/
def Od.sg (o : Od) (e s : Nat) : Od := { o with e := e, s := s }
theorem sg_bare (o : Od) (e s : Nat) : (o.sg e s).bare = o.bare := rfl
theorem sg_msg (o : Od) (e s : Nat) : msgB (o.sg e s) = msgB o := rfl
theorem fit_sg {o : Od} (h : o.Fit) (e s : Nat) (he : e < 4294967296) (hs : s < 4294967296) : (o.sg e s).Fit := ⟨h.au, h.F, h.n, h.st, h.k, h.key, h.v, he, hs⟩
theorem setSg {w : World} {g : Nat} {o : Od} {pv : Value} (e s : Nat) (h : w.heap[g]? = some (.cells (o.c pv) 35 (0, 0))) :
    (w.setCell ⟨g, 9, none⟩ (.int .u32 (e : Int))).setCell ⟨g, 10, none⟩ (.int .u32 (s : Int)) = w.setRow g ((o.sg e s).c pv) := by
  have h1 := setCell_eq h 9 (.int .u32 (e : Int))
  rw [h1]
  have h2 := setRow_heap w g (o.c pv) ((o.c pv).setIfInBounds 9 (.int .u32 (e : Int))) _ _ h
  rw [setCell_eq h2 10, setRow2 h]
  rfl
theorem own_form {B : Nat} {E : TypeId} {w : World} {a : Option Addr} {n c : Nat} {l : List Int} (h : OwnB B E w (.slice a n c) l) (hn : 0 < n) : ∃ g, a = some ⟨g, 0, none⟩ ∧ n ≤ c := by
  rcases h.2 with ⟨he, _⟩ | ⟨g, cap, cur, he, _, _, h1, _⟩
  · obtain ⟨_, e2, _⟩ := Value.slice.inj he
    omega
  · obtain ⟨e1, e2, e3⟩ := Value.slice.inj he
    exact ⟨g, e1, by omega⟩
theorem msg_pos (o : Od) : 1 ≤ (msgB o).length := by
  unfold msgB
  simp only [List.length_append, List.length_singleton]
  omega
theorem rdB_cut {w : World} {a : Option Addr} {n c : Nat} {l : List Int} (h : RdB w (.slice a n c) l) (hn : l.length = n) (k : Nat) (hk : k ≤ n) : RdB w (.slice a k c) (l.take k) := by
  rcases h with ⟨a', c', e, h1, rfl⟩ | ⟨b, o, c', e, h1, h2, h3, h4⟩
  · cases e
    obtain rfl : k = 0 := by simp at hn; omega
    exact .inl ⟨_, _, rfl, h1, rfl⟩
  · cases e
    have hl : (l.take k).length = k := by rw [List.length_take]; omega
    refine .inr ⟨b, o, c, by rw [hl], by rw [hl]; omega, h2, h3, fun i hi => ?_⟩
    rw [hl] at hi
    rw [ith_take _ _ _ hi]
    exact h4 i (by omega)
end Go.Proofs.YtnknkiiikeefgaaGreatDoor.wir.val

/- Texts that the row stands on, part 2. -/
import Derived.Test.YtfaojjleapenaabRWritesFq01
namespace Go.Proofs.Ytfaojjleapenaab
open Go.RowKit Go.Ytfaojjleapenaab
set_option linter.unusedVariables false
set_option maxHeartbeats 2000000 in
set_option maxRecDepth 100000 in
theorem rBytesF_any (f : Fr) (ff : f.Fit) (hp : partsB f = true) (iv ov : Value) (w : World) (hi : RdI w iv f.n f.F) (ho : RdS w ov f.L) :
    Calls Try.prog 20 #[.agg (f.c iv ov)] w fun e w' => ∃ sv, e = .returned sv ∧ OwnB w.heap.size 5 w' sv (frB f) ∧ Below w.heap.size w w' := by
  obtain ⟨W, hW⟩ : ∃ W, W = w.alloc (.cells (f.c iv ov) 26) := ⟨_, rfl⟩
  have hr0 := heap_alloc_new w (.cells (f.c iv ov) 26)
  have hb0 := (Below.refl w.heap.size w).alloc (Nat.le_refl _) (.cells (f.c iv ov) 26)
  rw [← hW] at hr0 hb0
  obtain ⟨ia, ic, rfl⟩ := hi.slice
  obtain ⟨oa, oc, rfl⟩ := ho.slice
  have hrow := Lib.hid hr0
  have hmids := Lib.hid (fun (wz : World) (h : Below W.heap.size W wz) => (cellsF (rowB hrow.out h (Array.getElem?_eq_some_iff.1 hr0).1)))
  obtain ⟨c0, c1, c2, c3⟩ := cellsF hr0
  have hb1 := Lib.hid hb0
  have hi' := Lib.hid (hi.mono hb0)
  have ho' := Lib.hid (ho.mono hb0)
  have hD := Lib.hid (fun wz => listed_any f.k wz)
  have ffh := Lib.hid ff
  have p1 := Lib.hid (fun h => (parts_num (f := f) h).symm.trans hp)
  have p2 := Lib.hid (fun h h2 => (parts_ids (f := f) h h2).symm.trans hp)
  have p3 := Lib.hid (fun h h2 => (parts_ops (f := f) h h2).symm.trans hp)
  have hfr := Lib.hid (show frB f = [f.k] ++ (if numK f.k = true then numB f.N else if idsK f.k = true then numB f.n ++ f.F else numB f.L.length ++ txts f.L f.L.length) from rfl)
  have hOw := Lib.hid (own_byte W f.k)
  have hBw := Lib.hid (below_a W (.cells #[.int .u8 f.k] 5))
  clear hr0 hb0 hi ho ff hp
  go_enter Try.func20, Try.ntmps20
  go_upto_region 1 with fail
  rw [← hW]
  clear hW
  go_upto_region 2 with fail
  generalize W.alloc (.cells #[.int .u8 f.k] 5) = W1 at *
  generalize Value.slice (some ⟨W.heap.size, 0, none⟩) 1 1 = sv at *
  obtain ⟨sa, sc, rfl⟩ := own_slice hOw.out 1 rfl
  replace c0 := (hmids.out _ hBw.out).1
  replace c1 := (hmids.out _ hBw.out).2.1
  replace c2 := (hmids.out _ hBw.out).2.2.1
  replace c3 := (hmids.out _ hBw.out).2.2.2
  cases hk : numK f.k
  · rw [hk] at hfr
    rw [if_neg (by decide)] at hfr
    replace p2 := Lib.hid (p2.out hk)
    replace p3 := Lib.hid (p3.out hk)
    cases hd : idsK f.k
    · rw [hd] at hD hfr
      rw [if_neg (by decide)] at hfr
      replace p3 := p3.out hd
      rw [Bool.and_eq_true, Bool.and_eq_true, Bool.and_eq_true] at p3
      obtain ⟨hl8, hl4⟩ := okL_parts p3.2.2.2
      have k5 : (f.k != 5) = false := by have h := of_decide_eq_true p3.1; rw [h]; rfl
      have hnu := Lib.hid (fun (wz : World) => rnum_any f.L.length (by omega) wz)
      have hln := Lib.hid (numL_le f.L.length (by omega))
      have hlt := Lib.hid (txts_len f.L hl4)
      have h4 := Lib.hid hl4
      have hN0 := Lib.hid (numB_length f.L.length)
      have hu6 : IntKind.u64.wrap (f.L.length : Int) = (f.L.length : Int) := IntWalk.u64_in _ (by omega)
      clear p1 p2 p3 hk hd hl4
      generalize hm : f.L.length = m at *
      have hm' := Lib.hid hm
      clear hm
      go_upto_region 6 with (first
        | (go_at_call 24; (with_reducible refine (hD.out _).mono ?_); rintro e w2 ⟨rfl, rfl⟩))
      go_wp2_with (first
        | (go_at_call 34; (with_reducible refine (hnu.out _).mono ?_); rintro e w4 ⟨r4, rfl, q1, q2⟩; replace hOw := Lib.hid (hOw.out.kept q2); replace hBw := Lib.hid (hBw.out.trans (q2.mono hBw.out.size)); have hr := Lib.hid q1.rd; clear q1 q2)
        | (refine appendB rfl _ _ 29 rfl W.heap.size 5 Try.underlying29 (by kernel_rfl) _ rfl [f.k] hOw.out _ rfl (numB m) hr.out (by rw [hN0.out, List.length_singleton]; have h1 := hln.out; omega) hBw.out.size ?_))
      intro v5 w5 h1 h2
      replace hBw := Lib.hid (hBw.out.trans (hOw.out.below h2 hBw.out.size))
      clear hOw hr h2 hnu
      have hOw := Lib.hid h1
      clear h1
      refine Stop.go ?_
      have c3 := (hmids.out _ hBw.out).2.2.2
      have hw5 := Lib.hid hBw.out.size
      go_wp2
      go_loopw [3, 4] (fun b i wr => ∃ k : Nat, k ≤ m ∧ i = .int .i64 k ∧ OwnB W.heap.size 5 wr b (([f.k] ++ numB m) ++ txts f.L k) ∧ Below W.heap.size W wr) (fun _ i _ => m - (intOf i).toNat)
      case atStart => exact ⟨0, Nat.zero_le _, rfl, by rw [show txts f.L 0 = [] from rfl, List.append_nil]; exact hOw.out, hBw.out⟩
      case round =>
        obtain ⟨k, hk, rfl, ho, hb⟩ := hrel
        obtain ⟨ba, bc, rfl⟩ := own_slice ho _ rfl
        have ho2 := Lib.hid ho
        have hb2 := Lib.hid hb
        obtain ⟨Z, hZ⟩ : ∃ Z, (([f.k] ++ numB m) ++ txts f.L k).length = Z := ⟨_, rfl⟩
        have hZ' := Lib.hid hZ
        have hZ2 : Z ≤ 4000 := by
          have h1 := hlt.out k
          have h2 := hln.out
          rw [← hZ, List.length_append, List.length_append, List.length_singleton, hN0.out]
          omega
        rw [hZ]
        clear ho hb hZ
        by_cases hlt2 : k < m
        · obtain ⟨b, o, rfl, hbw, s, hc, hs⟩ := ho'.out.at k (by rw [hm'.out]; exact hlt2)
          have hc2 := (hb2.out.cell (p := (⟨b, o + k, none⟩ : Addr)) hbw).trans hc
          have hs2 := Lib.hid (hs.mono hb2.out)
          obtain ⟨qa, qc, rfl⟩ := hs.slice
          have hby := Lib.hid (fun (wz : World) (h : RdB wz (.slice qa (nthL f.L k).length qc) (nthL f.L k)) => rtext_any _ _ wz h (Nat.le_trans (h4.out k) (by decide)))
          have htl := Lib.hid (show (textB (nthL f.L k)).length ≤ 409 by rw [textB_length]; have h1 := h4.out k; have h2 := numL_le (nthL f.L k).length (by omega); omega)
          clear hs hc
          have c3 := (hmids.out _ hb2.out).2.2.2
          go_wp2_with (first
            | (go_at_call 35; (with_reducible refine (hby.out _ hs2.out).mono ?_); rintro e w6 ⟨r6, rfl, q1, q2⟩; have ho3 := Lib.hid (ho2.out.kept q2); have hb3 := Lib.hid (hb2.out.trans (q2.mono hb2.out.size)); have hr := Lib.hid q1.rd; clear q1 q2)
            | (refine appendB rfl _ _ 29 rfl W.heap.size 5 Try.underlying29 (by kernel_rfl) _ rfl (([f.k] ++ numB m) ++ txts f.L k) (by have h := ho3.out; rw [hZ'.out] at h; exact h) _ rfl (textB (nthL f.L k)) hr.out (by rw [hZ'.out]; have h1 := htl.out; omega) hb3.out.size ?_))
          intro v7 w7 h1 h2
          have hb4 := Lib.hid (hb3.out.trans ((by have h := ho3.out; rw [hZ'.out] at h; exact h : OwnB W.heap.size 5 w6 (.slice ba Z bc) (([f.k] ++ numB m) ++ txts f.L k)).below h2 hb3.out.size))
          have ho4 := Lib.hid (show OwnB W.heap.size 5 w7 v7 (([f.k] ++ numB m) ++ txts f.L (k + 1)) by rw [show (([f.k] ++ numB m) ++ txts f.L (k + 1)) = f.k :: (numB m ++ (txts f.L k ++ textB (nthL f.L k))) by simp [txts]]; exact h1)
          clear h1 h2 ho3 hb3 hr hby hs2
          refine Stop.go ?_
          go_wp2
          go_roundw
          case rel => exact ⟨k + 1, by omega, by go_num, ho4.out, hb4.out⟩
          case measure => simp [intOf]; omega
        · obtain rfl : k = m := by omega
          have c3 := (hmids.out _ hb2.out).2.2.2
          go_wp2
          go_ret
          exact ⟨_, rfl, by rw [hfr.out, ← List.append_assoc]; have h := ho2.out.mono hb1.out.size; rw [hZ'.out] at h; exact h, hb1.out.trans (hb2.out.mono hb1.out.size)⟩
    · rw [hd] at hD hfr
      rw [if_pos rfl] at hfr
      replace p2 := p2.out hd
      rw [Bool.and_eq_true, Bool.and_eq_true, Bool.and_eq_true, decide_eq_true_eq, decide_eq_true_eq, decide_eq_true_eq] at p2
      obtain ⟨_, _, hn, hri⟩ := p2
      have hid := Lib.hid (fun (wz : World) (h : Below W.heap.size W wz) => rlist_any f.F f.n (.slice ia f.n ic) wz (hi'.out.mono h) (by omega))
      have hln := Lib.hid (numL_le f.n (by omega))
      have hlF := Lib.hid ffh.out.len
      clear p1 p3 hk hd
      go_wp2_with (first
        | (go_at_call 24; (with_reducible refine (hD.out _).mono ?_); rintro e w2 ⟨rfl, rfl⟩)
        | (go_at_call 33; (with_reducible refine (hid.out _ hBw.out).mono ?_); rintro e w4 ⟨r4, rfl, q1, q2⟩; replace hOw := Lib.hid (hOw.out.kept q2); replace hBw := Lib.hid (hBw.out.trans (q2.mono hBw.out.size)); have hr := Lib.hid q1.rd; clear q1 q2)
        | (refine appendB rfl _ _ 29 rfl W.heap.size 5 Try.underlying29 (by kernel_rfl) _ rfl [f.k] hOw.out _ rfl (numB f.n ++ f.F) hr.out (by rw [List.length_append, numB_length, hlF.out, List.length_singleton]; have h1 := hln.out; omega) hBw.out.size ?_))
      intro v5 w5 h1 h2
      replace hBw := Lib.hid (hBw.out.trans (hOw.out.below h2 hBw.out.size))
      refine Stop.go ?_
      go_wp2
      go_ret
      exact ⟨_, rfl, by rw [hfr.out]; exact h1.mono hb1.out.size, hb1.out.trans (hBw.out.mono hb1.out.size)⟩
  · rw [hk] at hfr
    rw [if_pos rfl] at hfr
    have k5 : (f.k != 5) = true := by
      have h : f.k = 1 ∨ f.k = 6 := by unfold numK at hk; simpa using hk
      rcases h with h | h <;> (rw [h]; rfl)
    rw [kinds_apart hk] at hD
    have hnu := Lib.hid (fun (wz : World) => rnum_any f.N ffh.out.N wz)
    have hln := Lib.hid (numL_le f.N ffh.out.N)
    clear p1 p2 p3 hk
    go_wp2_with (first
      | (go_at_call 24; (with_reducible refine (hD.out _).mono ?_); rintro e w2 ⟨rfl, rfl⟩)
      | (go_at_call 34; (with_reducible refine (hnu.out _).mono ?_); rintro e w4 ⟨r4, rfl, q1, q2⟩; replace hOw := Lib.hid (hOw.out.kept q2); replace hBw := Lib.hid (hBw.out.trans (q2.mono hBw.out.size)); have hr := Lib.hid q1.rd; clear q1 q2)
      | (refine appendB rfl _ _ 29 rfl W.heap.size 5 Try.underlying29 (by kernel_rfl) _ rfl [f.k] hOw.out _ rfl (numB f.N) hr.out (by rw [numB_length, List.length_singleton]; have h1 := hln.out; omega) hBw.out.size ?_))
    intro v5 w5 h1 h2
    replace hBw := Lib.hid (hBw.out.trans (hOw.out.below h2 hBw.out.size))
    refine Stop.go ?_
    go_wp2
    go_ret
    exact ⟨_, rfl, by rw [hfr.out]; exact h1.mono hb1.out.size, hb1.out.trans (hBw.out.mono hb1.out.size)⟩
end Go.Proofs.Ytfaojjleapenaab
namespace Go.Proofs.Ytfaojjleapenaab
open Go.RowKit Go.Ytfaojjleapenaab
set_option linter.unusedVariables false
set_option maxHeartbeats 8000000 in
set_option maxRecDepth 100000 in
theorem rCheckF_any (f : Fr) (ff : f.Fit) (iv ov : Value) (w : World) (hi : RdI w iv f.n f.F) (ho : RdS w ov f.L) :
    Calls Try.prog 12 #[.agg (f.c iv ov)] w fun e w' => e = .returned (.int .i64 (chkR f)) ∧ Below w.heap.size w w' := by
  obtain ⟨W, hW⟩ : ∃ W, W = w.alloc (.cells (f.c iv ov) 26) := ⟨_, rfl⟩
  have hr0 := heap_alloc_new w (.cells (f.c iv ov) 26)
  have hb0 := (Below.refl w.heap.size w).alloc (Nat.le_refl _) (.cells (f.c iv ov) 26)
  rw [← hW] at hr0 hb0
  obtain ⟨ia, ic, rfl⟩ := hi.slice
  obtain ⟨oa, oc, rfl⟩ := ho.slice
  have hlt := (Array.getElem?_eq_some_iff.1 hr0).1
  have hrows := Lib.hid (fun (wz : World) (h : Below W.heap.size W wz) => rowB hr0 h hlt)
  have hmids := Lib.hid (fun (wz : World) (h : Below W.heap.size W wz) => cellsF (rowB hr0 h hlt))
  obtain ⟨c0, c1, c2, c3⟩ := cellsF hr0
  have hb1 := Lib.hid hb0
  have hB := Lib.hid (Below.refl W.heap.size W)
  have hI := Lib.hid (fun (wz : World) (h : Below W.heap.size W wz) => rising_any f.F f.n _ wz ((hi.mono hb0).mono h) ff.F ff.n)
  have hD := Lib.hid (fun wz => listed_any f.k wz)
  have hoW := Lib.hid (ho.mono hb0)
  have hBy := Lib.hid (fun (hp : partsB f = true) (wz : World) (h : Below W.heap.size W wz) => rBytesF_any f ff hp _ _ wz ((hi.mono hb0).mono h) ((ho.mono hb0).mono h))
  have hbad := Lib.hid (fun h => chkR_no (f := f) h)
  have hlong := Lib.hid (fun h => chkR_long (f := f) h)
  have hok := Lib.hid (fun h h2 => chkR_ok (f := f) h h2)
  have p1 := Lib.hid (fun h => parts_num (f := f) h)
  have p2 := Lib.hid (fun h h2 => parts_ids (f := f) h h2)
  have p3 := Lib.hid (fun h h2 => parts_ops (f := f) h h2)
  have hl' := Lib.hid ff.l
  have hn' := Lib.hid ff.n
  obtain ⟨Z, hZ⟩ : ∃ Z, (frB f).length = Z := ⟨_, rfl⟩
  rw [hZ] at hlong hok
  have hZ' := Lib.hid hZ
  clear hr0 hb0 hi ho ff hZ
  generalize chkR f = R at *
  obtain ⟨k, N, n, F, L⟩ := f
  dsimp only at *
  generalize hm : L.length = m at *
  have hm' := Lib.hid hm
  clear hm
  by_cases hk : k = 1 ∨ k = 6
  · replace p1 := Lib.hid (p1.out (by rcases hk with rfl | rfl <;> rfl))
    clear p2 p3
    by_cases hn : n = 0
    · subst hn
      have hrf : riseF F 0 = true := rfl
      rw [hrf] at hI
      clear hrf
      by_cases hm : m = 0
      · have hpt := Lib.hid (show okS L = true → partsB ⟨k, N, 0, F, L⟩ = true from fun _ => by rw [p1.out, decide_eq_true hm]; rfl)
        have hpf := Lib.hid (show okS L = false → R = 8 from fun h => by
          have h0 : L = [] := nil_of_len (hm'.out.trans hm)
          rw [h0] at h; cases h)
        have hm0 : ¬ (0 : Int) < (m : Int) := by omega
        clear p1 hbad hm
        rcases hk with rfl | rfl
        · go_enter Try.func12, Try.ntmps12
          go_upto_region 1 with fail
          rw [← hW]
          clear hW
          go_upto_region 8 with (first
            | (go_at_call 24; (with_reducible refine (hD.out _).mono ?_); rintro e w2 ⟨rfl, rfl⟩)
            | (go_at_call 25; (with_reducible refine (hI.out _ hB.out).mono ?_); rintro e w3 ⟨rfl, h3⟩; replace hB := Lib.hid (hB.out.trans (Below.mono h3 hB.out.size)); clear h3 c0 c1 c2 c3; obtain ⟨c0, c1, c2, c3⟩ := hmids.out _ hB.out))
          go_wp2
          have hm5 := hl'.out
          go_loopw [4] (fun i wr => ∃ k : Nat, k ≤ m ∧ i = .int .i64 k ∧ Below W.heap.size W wr ∧ ∀ j, j < k → (nthL L j).length ≤ 400) (fun i _ => m - (intOf i).toNat)
          case atStart => exact ⟨0, Nat.zero_le _, rfl, hB.out, fun j hj => absurd hj (Nat.not_lt_zero _)⟩
          case round =>
            obtain ⟨k, hk, rfl, hb, he⟩ := hrel
            have hBr := Lib.hid hb
            have he' := Lib.hid he
            clear c0 c1 c2 c3
            obtain ⟨c0, c1, c2, c3⟩ := hmids.out _ hb
            clear hb he
            by_cases hlt : k < m
            · exfalso; omega
            · have hp := hpt.out (okS_yes (fun i hi => he'.out i (by rw [hm'.out] at hi; omega)))
              have hby2 := Lib.hid (hBy.out hp)
              by_cases hZ : 2000 < Z
              · have hh := Lib.hid (hlong.out hZ)
                clear hp
                go_wp2_with (first
                  | (refine wpList_load_row_g rfl 26 _ rfl w.heap.size rfl 26 ((⟨1, N, 0, F, L⟩ : Fr).c (.slice ia 0 ic) (.slice oa m oc)) (0, 0) _ (hrows.out _ hBr.out) Try.underlying26 rfl info_frame ?_)
                  | (go_at_call 20; (with_reducible refine (hby2.out _ hBr.out).mono ?_); rintro e w3 ⟨sv, rfl, hO, h3⟩; obtain ⟨sa, sc, rfl⟩ := own_slice hO _ hZ'.out; clear hO; replace hBr := Lib.hid (hBr.out.trans (Below.mono h3 hBr.out.size)); clear h3))
                go_ret
                exact ⟨ret_int hh.out.symm, hb1.out.trans (hBr.out.mono hb1.out.size)⟩
              · have hh := Lib.hid (hok.out hp (by omega))
                clear hp
                go_wp2_with (first
                  | (refine wpList_load_row_g rfl 26 _ rfl w.heap.size rfl 26 ((⟨1, N, 0, F, L⟩ : Fr).c (.slice ia 0 ic) (.slice oa m oc)) (0, 0) _ (hrows.out _ hBr.out) Try.underlying26 rfl info_frame ?_)
                  | (go_at_call 20; (with_reducible refine (hby2.out _ hBr.out).mono ?_); rintro e w3 ⟨sv, rfl, hO, h3⟩; obtain ⟨sa, sc, rfl⟩ := own_slice hO _ hZ'.out; clear hO; replace hBr := Lib.hid (hBr.out.trans (Below.mono h3 hBr.out.size)); clear h3))
                go_ret
                exact ⟨ret_int hh.out.symm, hb1.out.trans (hBr.out.mono hb1.out.size)⟩
        · go_enter Try.func12, Try.ntmps12
          go_upto_region 1 with fail
          rw [← hW]
          clear hW
          go_upto_region 8 with (first
            | (go_at_call 24; (with_reducible refine (hD.out _).mono ?_); rintro e w2 ⟨rfl, rfl⟩)
            | (go_at_call 25; (with_reducible refine (hI.out _ hB.out).mono ?_); rintro e w3 ⟨rfl, h3⟩; replace hB := Lib.hid (hB.out.trans (Below.mono h3 hB.out.size)); clear h3 c0 c1 c2 c3; obtain ⟨c0, c1, c2, c3⟩ := hmids.out _ hB.out))
          go_wp2
          have hm5 := hl'.out
          go_loopw [4] (fun i wr => ∃ k : Nat, k ≤ m ∧ i = .int .i64 k ∧ Below W.heap.size W wr ∧ ∀ j, j < k → (nthL L j).length ≤ 400) (fun i _ => m - (intOf i).toNat)
          case atStart => exact ⟨0, Nat.zero_le _, rfl, hB.out, fun j hj => absurd hj (Nat.not_lt_zero _)⟩
          case round =>
            obtain ⟨k, hk, rfl, hb, he⟩ := hrel
            have hBr := Lib.hid hb
            have he' := Lib.hid he
            clear c0 c1 c2 c3
            obtain ⟨c0, c1, c2, c3⟩ := hmids.out _ hb
            clear hb he
            by_cases hlt : k < m
            · exfalso; omega
            · have hp := hpt.out (okS_yes (fun i hi => he'.out i (by rw [hm'.out] at hi; omega)))
              have hby2 := Lib.hid (hBy.out hp)
              by_cases hZ : 2000 < Z
              · have hh := Lib.hid (hlong.out hZ)
                clear hp
                go_wp2_with (first
                  | (refine wpList_load_row_g rfl 26 _ rfl w.heap.size rfl 26 ((⟨6, N, 0, F, L⟩ : Fr).c (.slice ia 0 ic) (.slice oa m oc)) (0, 0) _ (hrows.out _ hBr.out) Try.underlying26 rfl info_frame ?_)
                  | (go_at_call 20; (with_reducible refine (hby2.out _ hBr.out).mono ?_); rintro e w3 ⟨sv, rfl, hO, h3⟩; obtain ⟨sa, sc, rfl⟩ := own_slice hO _ hZ'.out; clear hO; replace hBr := Lib.hid (hBr.out.trans (Below.mono h3 hBr.out.size)); clear h3))
                go_ret
                exact ⟨ret_int hh.out.symm, hb1.out.trans (hBr.out.mono hb1.out.size)⟩
              · have hh := Lib.hid (hok.out hp (by omega))
                clear hp
                go_wp2_with (first
                  | (refine wpList_load_row_g rfl 26 _ rfl w.heap.size rfl 26 ((⟨6, N, 0, F, L⟩ : Fr).c (.slice ia 0 ic) (.slice oa m oc)) (0, 0) _ (hrows.out _ hBr.out) Try.underlying26 rfl info_frame ?_)
                  | (go_at_call 20; (with_reducible refine (hby2.out _ hBr.out).mono ?_); rintro e w3 ⟨sv, rfl, hO, h3⟩; obtain ⟨sa, sc, rfl⟩ := own_slice hO _ hZ'.out; clear hO; replace hBr := Lib.hid (hBr.out.trans (Below.mono h3 hBr.out.size)); clear h3))
                go_ret
                exact ⟨ret_int hh.out.symm, hb1.out.trans (hBr.out.mono hb1.out.size)⟩
      · have e := Lib.hid (hbad.out (by rw [p1.out, decide_eq_false hm, Bool.and_false]))
        have hm0 : (0 : Int) < (m : Int) := by omega
        clear p1 hm
        rcases hk with rfl | rfl
        all_goals
          go_enter Try.func12, Try.ntmps12
          go_upto_region 1 with fail
          rw [← hW]
          clear hW
          go_wp2_with (first
            | (go_at_call 24; (with_reducible refine (hD.out _).mono ?_); rintro e w2 ⟨rfl, rfl⟩)
            | (go_at_call 25; (with_reducible refine (hI.out _ hB.out).mono ?_); rintro e w3 ⟨rfl, h3⟩; replace hB := Lib.hid (hB.out.trans (Below.mono h3 hB.out.size)); clear h3 c0 c1 c2 c3; obtain ⟨c0, c1, c2, c3⟩ := hmids.out _ hB.out))
          go_ret
          exact ⟨ret_int e.out.symm, hb1.out.trans (hB.out.mono hb1.out.size)⟩
    · have e := Lib.hid (hbad.out (by rw [p1.out, decide_eq_false hn]; rfl))
      have hn0 : (0 : Int) < (n : Int) := by omega
      clear p1 hn
      rcases hk with rfl | rfl
      all_goals
        go_enter Try.func12, Try.ntmps12
        go_upto_region 1 with fail
        rw [← hW]
        clear hW
        go_wp2_with (first
          | (go_at_call 24; (with_reducible refine (hD.out _).mono ?_); rintro e w2 ⟨rfl, rfl⟩)
          | (go_at_call 25; (with_reducible refine (hI.out _ hB.out).mono ?_); rintro e w3 ⟨rfl, h3⟩; replace hB := Lib.hid (hB.out.trans (Below.mono h3 hB.out.size)); clear h3 c0 c1 c2 c3; obtain ⟨c0, c1, c2, c3⟩ := hmids.out _ hB.out))
        go_ret
        exact ⟨ret_int e.out.symm, hb1.out.trans (hB.out.mono hb1.out.size)⟩
  by_cases hk2 : k = 2 ∨ k = 3 ∨ k = 4
  · replace p2 := Lib.hid (p2.out (by rcases hk2 with rfl | rfl | rfl <;> rfl) (by rcases hk2 with rfl | rfl | rfl <;> rfl))
    clear p1 p3 hk
    by_cases hN : N = 0
    · subst hN
      by_cases hm : m = 0
      · have hm0 : ¬ (0 : Int) < (m : Int) := by omega
        by_cases hn : n ≤ 40
        · have hn1 : ¬ (40 : Int) < (n : Int) := by omega
          cases hri : riseF F n
          · have e := Lib.hid (hbad.out (by rw [p2.out, hri, Bool.and_false, Bool.and_false, Bool.and_false]))
            rw [hri] at hI
            clear p2 hri hm hn
            rcases hk2 with rfl | rfl | rfl
            all_goals
              go_enter Try.func12, Try.ntmps12
              go_upto_region 1 with fail
              rw [← hW]
              clear hW
              go_wp2_with (first
                | (go_at_call 24; (with_reducible refine (hD.out _).mono ?_); rintro e w2 ⟨rfl, rfl⟩)
                | (go_at_call 25; (with_reducible refine (hI.out _ hB.out).mono ?_); rintro e w3 ⟨rfl, h3⟩; replace hB := Lib.hid (hB.out.trans (Below.mono h3 hB.out.size)); clear h3 c0 c1 c2 c3; obtain ⟨c0, c1, c2, c3⟩ := hmids.out _ hB.out))
              go_ret
              exact ⟨ret_int e.out.symm, hb1.out.trans (hB.out.mono hb1.out.size)⟩
          · rw [hri] at hI
            have hpt := Lib.hid (show okS L = true → partsB ⟨k, 0, n, F, L⟩ = true from fun _ => by rw [p2.out, decide_eq_true hm, decide_eq_true hn, hri]; rfl)
            have hpf := Lib.hid (show okS L = false → R = 8 from fun h => by
              have h0 : L = [] := nil_of_len (hm'.out.trans hm)
              rw [h0] at h; cases h)
            clear p2 hri hbad hm hn
            rcases hk2 with rfl | rfl | rfl
            · go_enter Try.func12, Try.ntmps12
              go_upto_region 1 with fail
              rw [← hW]
              clear hW
              go_upto_region 8 with (first
                | (go_at_call 24; (with_reducible refine (hD.out _).mono ?_); rintro e w2 ⟨rfl, rfl⟩)
                | (go_at_call 25; (with_reducible refine (hI.out _ hB.out).mono ?_); rintro e w3 ⟨rfl, h3⟩; replace hB := Lib.hid (hB.out.trans (Below.mono h3 hB.out.size)); clear h3 c0 c1 c2 c3; obtain ⟨c0, c1, c2, c3⟩ := hmids.out _ hB.out))
              go_wp2
              have hm5 := hl'.out
              go_loopw [4] (fun i wr => ∃ k : Nat, k ≤ m ∧ i = .int .i64 k ∧ Below W.heap.size W wr ∧ ∀ j, j < k → (nthL L j).length ≤ 400) (fun i _ => m - (intOf i).toNat)
              case atStart => exact ⟨0, Nat.zero_le _, rfl, hB.out, fun j hj => absurd hj (Nat.not_lt_zero _)⟩
              case round =>
                obtain ⟨k, hk, rfl, hb, he⟩ := hrel
                have hBr := Lib.hid hb
                have he' := Lib.hid he
                clear c0 c1 c2 c3
                obtain ⟨c0, c1, c2, c3⟩ := hmids.out _ hb
                clear hb he
                by_cases hlt : k < m
                · exfalso; omega
                · have hp := hpt.out (okS_yes (fun i hi => he'.out i (by rw [hm'.out] at hi; omega)))
                  have hby2 := Lib.hid (hBy.out hp)
                  by_cases hZ : 2000 < Z
                  · have hh := Lib.hid (hlong.out hZ)
                    clear hp
                    go_wp2_with (first
                      | (refine wpList_load_row_g rfl 26 _ rfl w.heap.size rfl 26 ((⟨2, 0, n, F, L⟩ : Fr).c (.slice ia n ic) (.slice oa m oc)) (0, 0) _ (hrows.out _ hBr.out) Try.underlying26 rfl info_frame ?_)
                      | (go_at_call 20; (with_reducible refine (hby2.out _ hBr.out).mono ?_); rintro e w3 ⟨sv, rfl, hO, h3⟩; obtain ⟨sa, sc, rfl⟩ := own_slice hO _ hZ'.out; clear hO; replace hBr := Lib.hid (hBr.out.trans (Below.mono h3 hBr.out.size)); clear h3))
                    go_ret
                    exact ⟨ret_int hh.out.symm, hb1.out.trans (hBr.out.mono hb1.out.size)⟩
                  · have hh := Lib.hid (hok.out hp (by omega))
                    clear hp
                    go_wp2_with (first
                      | (refine wpList_load_row_g rfl 26 _ rfl w.heap.size rfl 26 ((⟨2, 0, n, F, L⟩ : Fr).c (.slice ia n ic) (.slice oa m oc)) (0, 0) _ (hrows.out _ hBr.out) Try.underlying26 rfl info_frame ?_)
                      | (go_at_call 20; (with_reducible refine (hby2.out _ hBr.out).mono ?_); rintro e w3 ⟨sv, rfl, hO, h3⟩; obtain ⟨sa, sc, rfl⟩ := own_slice hO _ hZ'.out; clear hO; replace hBr := Lib.hid (hBr.out.trans (Below.mono h3 hBr.out.size)); clear h3))
                    go_ret
                    exact ⟨ret_int hh.out.symm, hb1.out.trans (hBr.out.mono hb1.out.size)⟩
            · go_enter Try.func12, Try.ntmps12
              go_upto_region 1 with fail
              rw [← hW]
              clear hW
              go_upto_region 8 with (first
                | (go_at_call 24; (with_reducible refine (hD.out _).mono ?_); rintro e w2 ⟨rfl, rfl⟩)
                | (go_at_call 25; (with_reducible refine (hI.out _ hB.out).mono ?_); rintro e w3 ⟨rfl, h3⟩; replace hB := Lib.hid (hB.out.trans (Below.mono h3 hB.out.size)); clear h3 c0 c1 c2 c3; obtain ⟨c0, c1, c2, c3⟩ := hmids.out _ hB.out))
              go_wp2
              have hm5 := hl'.out
              go_loopw [4] (fun i wr => ∃ k : Nat, k ≤ m ∧ i = .int .i64 k ∧ Below W.heap.size W wr ∧ ∀ j, j < k → (nthL L j).length ≤ 400) (fun i _ => m - (intOf i).toNat)
              case atStart => exact ⟨0, Nat.zero_le _, rfl, hB.out, fun j hj => absurd hj (Nat.not_lt_zero _)⟩
              case round =>
                obtain ⟨k, hk, rfl, hb, he⟩ := hrel
                have hBr := Lib.hid hb
                have he' := Lib.hid he
                clear c0 c1 c2 c3
                obtain ⟨c0, c1, c2, c3⟩ := hmids.out _ hb
                clear hb he
                by_cases hlt : k < m
                · exfalso; omega
                · have hp := hpt.out (okS_yes (fun i hi => he'.out i (by rw [hm'.out] at hi; omega)))
                  have hby2 := Lib.hid (hBy.out hp)
                  by_cases hZ : 2000 < Z
                  · have hh := Lib.hid (hlong.out hZ)
                    clear hp
                    go_wp2_with (first
                      | (refine wpList_load_row_g rfl 26 _ rfl w.heap.size rfl 26 ((⟨3, 0, n, F, L⟩ : Fr).c (.slice ia n ic) (.slice oa m oc)) (0, 0) _ (hrows.out _ hBr.out) Try.underlying26 rfl info_frame ?_)
                      | (go_at_call 20; (with_reducible refine (hby2.out _ hBr.out).mono ?_); rintro e w3 ⟨sv, rfl, hO, h3⟩; obtain ⟨sa, sc, rfl⟩ := own_slice hO _ hZ'.out; clear hO; replace hBr := Lib.hid (hBr.out.trans (Below.mono h3 hBr.out.size)); clear h3))
                    go_ret
                    exact ⟨ret_int hh.out.symm, hb1.out.trans (hBr.out.mono hb1.out.size)⟩
                  · have hh := Lib.hid (hok.out hp (by omega))
                    clear hp
                    go_wp2_with (first
                      | (refine wpList_load_row_g rfl 26 _ rfl w.heap.size rfl 26 ((⟨3, 0, n, F, L⟩ : Fr).c (.slice ia n ic) (.slice oa m oc)) (0, 0) _ (hrows.out _ hBr.out) Try.underlying26 rfl info_frame ?_)
                      | (go_at_call 20; (with_reducible refine (hby2.out _ hBr.out).mono ?_); rintro e w3 ⟨sv, rfl, hO, h3⟩; obtain ⟨sa, sc, rfl⟩ := own_slice hO _ hZ'.out; clear hO; replace hBr := Lib.hid (hBr.out.trans (Below.mono h3 hBr.out.size)); clear h3))
                    go_ret
                    exact ⟨ret_int hh.out.symm, hb1.out.trans (hBr.out.mono hb1.out.size)⟩
            · go_enter Try.func12, Try.ntmps12
              go_upto_region 1 with fail
              rw [← hW]
              clear hW
              go_upto_region 8 with (first
                | (go_at_call 24; (with_reducible refine (hD.out _).mono ?_); rintro e w2 ⟨rfl, rfl⟩)
                | (go_at_call 25; (with_reducible refine (hI.out _ hB.out).mono ?_); rintro e w3 ⟨rfl, h3⟩; replace hB := Lib.hid (hB.out.trans (Below.mono h3 hB.out.size)); clear h3 c0 c1 c2 c3; obtain ⟨c0, c1, c2, c3⟩ := hmids.out _ hB.out))
              go_wp2
              have hm5 := hl'.out
              go_loopw [4] (fun i wr => ∃ k : Nat, k ≤ m ∧ i = .int .i64 k ∧ Below W.heap.size W wr ∧ ∀ j, j < k → (nthL L j).length ≤ 400) (fun i _ => m - (intOf i).toNat)
              case atStart => exact ⟨0, Nat.zero_le _, rfl, hB.out, fun j hj => absurd hj (Nat.not_lt_zero _)⟩
              case round =>
                obtain ⟨k, hk, rfl, hb, he⟩ := hrel
                have hBr := Lib.hid hb
                have he' := Lib.hid he
                clear c0 c1 c2 c3
                obtain ⟨c0, c1, c2, c3⟩ := hmids.out _ hb
                clear hb he
                by_cases hlt : k < m
                · exfalso; omega
                · have hp := hpt.out (okS_yes (fun i hi => he'.out i (by rw [hm'.out] at hi; omega)))
                  have hby2 := Lib.hid (hBy.out hp)
                  by_cases hZ : 2000 < Z
                  · have hh := Lib.hid (hlong.out hZ)
                    clear hp
                    go_wp2_with (first
                      | (refine wpList_load_row_g rfl 26 _ rfl w.heap.size rfl 26 ((⟨4, 0, n, F, L⟩ : Fr).c (.slice ia n ic) (.slice oa m oc)) (0, 0) _ (hrows.out _ hBr.out) Try.underlying26 rfl info_frame ?_)
                      | (go_at_call 20; (with_reducible refine (hby2.out _ hBr.out).mono ?_); rintro e w3 ⟨sv, rfl, hO, h3⟩; obtain ⟨sa, sc, rfl⟩ := own_slice hO _ hZ'.out; clear hO; replace hBr := Lib.hid (hBr.out.trans (Below.mono h3 hBr.out.size)); clear h3))
                    go_ret
                    exact ⟨ret_int hh.out.symm, hb1.out.trans (hBr.out.mono hb1.out.size)⟩
                  · have hh := Lib.hid (hok.out hp (by omega))
                    clear hp
                    go_wp2_with (first
                      | (refine wpList_load_row_g rfl 26 _ rfl w.heap.size rfl 26 ((⟨4, 0, n, F, L⟩ : Fr).c (.slice ia n ic) (.slice oa m oc)) (0, 0) _ (hrows.out _ hBr.out) Try.underlying26 rfl info_frame ?_)
                      | (go_at_call 20; (with_reducible refine (hby2.out _ hBr.out).mono ?_); rintro e w3 ⟨sv, rfl, hO, h3⟩; obtain ⟨sa, sc, rfl⟩ := own_slice hO _ hZ'.out; clear hO; replace hBr := Lib.hid (hBr.out.trans (Below.mono h3 hBr.out.size)); clear h3))
                    go_ret
                    exact ⟨ret_int hh.out.symm, hb1.out.trans (hBr.out.mono hb1.out.size)⟩
        · have hn1 : (40 : Int) < (n : Int) := by omega
          have e := Lib.hid (hbad.out (by rw [p2.out, decide_eq_false hn, Bool.false_and, Bool.and_false, Bool.and_false]))
          clear p2 hn hm
          rcases hk2 with rfl | rfl | rfl
          all_goals
            go_enter Try.func12, Try.ntmps12
            go_upto_region 1 with fail
            rw [← hW]
            clear hW
            go_wp2_with (first
              | (go_at_call 24; (with_reducible refine (hD.out _).mono ?_); rintro e w2 ⟨rfl, rfl⟩)
              | (go_at_call 25; (with_reducible refine (hI.out _ hB.out).mono ?_); rintro e w3 ⟨rfl, h3⟩; replace hB := Lib.hid (hB.out.trans (Below.mono h3 hB.out.size)); clear h3 c0 c1 c2 c3; obtain ⟨c0, c1, c2, c3⟩ := hmids.out _ hB.out))
            go_ret
            exact ⟨ret_int e.out.symm, hb1.out.trans (hB.out.mono hb1.out.size)⟩
      · have e := Lib.hid (hbad.out (by rw [p2.out, decide_eq_false hm, Bool.false_and, Bool.and_false]))
        have hm0 : (0 : Int) < (m : Int) := by omega
        clear p2 hm
        rcases hk2 with rfl | rfl | rfl
        all_goals
          go_enter Try.func12, Try.ntmps12
          go_upto_region 1 with fail
          rw [← hW]
          clear hW
          go_wp2_with (first
            | (go_at_call 24; (with_reducible refine (hD.out _).mono ?_); rintro e w2 ⟨rfl, rfl⟩)
            | (go_at_call 25; (with_reducible refine (hI.out _ hB.out).mono ?_); rintro e w3 ⟨rfl, h3⟩; replace hB := Lib.hid (hB.out.trans (Below.mono h3 hB.out.size)); clear h3 c0 c1 c2 c3; obtain ⟨c0, c1, c2, c3⟩ := hmids.out _ hB.out))
          go_ret
          exact ⟨ret_int e.out.symm, hb1.out.trans (hB.out.mono hb1.out.size)⟩
    · have e := Lib.hid (hbad.out (by rw [p2.out, decide_eq_false hN]; rfl))
      have hN0 : ((N : Int) != 0) = true := by simp only [bne_iff_ne, ne_eq]; omega
      clear p2 hN
      rcases hk2 with rfl | rfl | rfl
      all_goals
        go_enter Try.func12, Try.ntmps12
        go_upto_region 1 with fail
        rw [← hW]
        clear hW
        go_wp2_with (first
          | (go_at_call 24; (with_reducible refine (hD.out _).mono ?_); rintro e w2 ⟨rfl, rfl⟩)
          | (go_at_call 25; (with_reducible refine (hI.out _ hB.out).mono ?_); rintro e w3 ⟨rfl, h3⟩; replace hB := Lib.hid (hB.out.trans (Below.mono h3 hB.out.size)); clear h3 c0 c1 c2 c3; obtain ⟨c0, c1, c2, c3⟩ := hmids.out _ hB.out))
        go_ret
        exact ⟨ret_int e.out.symm, hb1.out.trans (hB.out.mono hb1.out.size)⟩
  by_cases hk5 : k = 5
  · subst hk5
    replace p3 := Lib.hid (p3.out rfl rfl)
    clear p1 p2 hk hk2
    by_cases hN : N = 0
    · subst hN
      by_cases hn : n = 0
      · subst hn
        have hrf : riseF F 0 = true := rfl
        rw [hrf] at hI
        clear hrf
        by_cases hm : m ≤ 8
        · have hpt := Lib.hid (show okS L = true → partsB ⟨5, 0, 0, F, L⟩ = true from fun h => by rw [p3.out]; unfold okL; rw [hm'.out, decide_eq_true hm, h]; rfl)
          have hpf := Lib.hid (show okS L = false → R = 8 from fun h => hbad.out (by rw [p3.out]; unfold okL; rw [h, Bool.and_false, Bool.and_false, Bool.and_false, Bool.and_false]))
          have hm8 : ¬ (8 : Int) < (m : Int) := by omega
          clear p3 hbad hm
          go_enter Try.func12, Try.ntmps12
          go_upto_region 1 with fail
          rw [← hW]
          clear hW
          go_upto_region 8 with (first
            | (go_at_call 24; (with_reducible refine (hD.out _).mono ?_); rintro e w2 ⟨rfl, rfl⟩)
            | (go_at_call 25; (with_reducible refine (hI.out _ hB.out).mono ?_); rintro e w3 ⟨rfl, h3⟩; replace hB := Lib.hid (hB.out.trans (Below.mono h3 hB.out.size)); clear h3 c0 c1 c2 c3; obtain ⟨c0, c1, c2, c3⟩ := hmids.out _ hB.out))
          go_wp2
          have hm5 := hl'.out
          go_loopw [4] (fun i wr => ∃ k : Nat, k ≤ m ∧ i = .int .i64 k ∧ Below W.heap.size W wr ∧ ∀ j, j < k → (nthL L j).length ≤ 400) (fun i _ => m - (intOf i).toNat)
          case atStart => exact ⟨0, Nat.zero_le _, rfl, hB.out, fun j hj => absurd hj (Nat.not_lt_zero _)⟩
          case round =>
            obtain ⟨k, hk, rfl, hb, he⟩ := hrel
            have hBr := Lib.hid hb
            have he' := Lib.hid he
            clear c0 c1 c2 c3
            obtain ⟨c0, c1, c2, c3⟩ := hmids.out _ hb
            clear hb he
            by_cases hlt : k < m
            · obtain ⟨b, o, rfl, hbw, s, hc, hs⟩ := (hoW.out.mono hBr.out).at k (by rw [hm'.out]; exact hlt)
              obtain ⟨qa, qc, rfl⟩ := hs.slice
              obtain ⟨M, hM⟩ : ∃ M, (nthL L k).length = M := ⟨_, rfl⟩
              have hM' := Lib.hid hM
              rw [hM] at hc
              clear hs hM
              by_cases h4 : M ≤ 400
              · have hh := Lib.hid (show ∀ j, j < k + 1 → (nthL L j).length ≤ 400 from fun j hj => by
                  rcases Nat.lt_or_ge j k with h1 | h1
                  · exact he'.out j h1
                  · obtain rfl : j = k := by omega
                    rw [hM'.out]; exact h4)
                go_wp2
                go_roundw
                case rel => exact ⟨k + 1, by omega, by go_num, hBr.out, hh.out⟩
                case measure => simp [intOf]; omega
              · have hh := Lib.hid (hpf.out (okS_no k (by rw [hM'.out]; omega)))
                go_wp2
                go_ret
                exact ⟨ret_int hh.out.symm, hb1.out.trans (hBr.out.mono hb1.out.size)⟩
            · have hp := hpt.out (okS_yes (fun i hi => he'.out i (by rw [hm'.out] at hi; omega)))
              have hby2 := Lib.hid (hBy.out hp)
              by_cases hZ : 2000 < Z
              · have hh := Lib.hid (hlong.out hZ)
                clear hp
                go_wp2_with (first
                  | (refine wpList_load_row_g rfl 26 _ rfl w.heap.size rfl 26 ((⟨5, 0, 0, F, L⟩ : Fr).c (.slice ia 0 ic) (.slice oa m oc)) (0, 0) _ (hrows.out _ hBr.out) Try.underlying26 rfl info_frame ?_)
                  | (go_at_call 20; (with_reducible refine (hby2.out _ hBr.out).mono ?_); rintro e w3 ⟨sv, rfl, hO, h3⟩; obtain ⟨sa, sc, rfl⟩ := own_slice hO _ hZ'.out; clear hO; replace hBr := Lib.hid (hBr.out.trans (Below.mono h3 hBr.out.size)); clear h3))
                go_ret
                exact ⟨ret_int hh.out.symm, hb1.out.trans (hBr.out.mono hb1.out.size)⟩
              · have hh := Lib.hid (hok.out hp (by omega))
                clear hp
                go_wp2_with (first
                  | (refine wpList_load_row_g rfl 26 _ rfl w.heap.size rfl 26 ((⟨5, 0, 0, F, L⟩ : Fr).c (.slice ia 0 ic) (.slice oa m oc)) (0, 0) _ (hrows.out _ hBr.out) Try.underlying26 rfl info_frame ?_)
                  | (go_at_call 20; (with_reducible refine (hby2.out _ hBr.out).mono ?_); rintro e w3 ⟨sv, rfl, hO, h3⟩; obtain ⟨sa, sc, rfl⟩ := own_slice hO _ hZ'.out; clear hO; replace hBr := Lib.hid (hBr.out.trans (Below.mono h3 hBr.out.size)); clear h3))
                go_ret
                exact ⟨ret_int hh.out.symm, hb1.out.trans (hBr.out.mono hb1.out.size)⟩
        · have e := Lib.hid (hbad.out (by rw [p3.out]; unfold okL; rw [hm'.out, decide_eq_false hm, Bool.false_and, Bool.and_false, Bool.and_false, Bool.and_false]))
          have hm8 : (8 : Int) < (m : Int) := by omega
          clear p3 hm
          go_enter Try.func12, Try.ntmps12
          go_upto_region 1 with fail
          rw [← hW]
          clear hW
          go_wp2_with (first
            | (go_at_call 24; (with_reducible refine (hD.out _).mono ?_); rintro e w2 ⟨rfl, rfl⟩)
            | (go_at_call 25; (with_reducible refine (hI.out _ hB.out).mono ?_); rintro e w3 ⟨rfl, h3⟩; replace hB := Lib.hid (hB.out.trans (Below.mono h3 hB.out.size)); clear h3 c0 c1 c2 c3; obtain ⟨c0, c1, c2, c3⟩ := hmids.out _ hB.out))
          go_ret
          exact ⟨ret_int e.out.symm, hb1.out.trans (hB.out.mono hb1.out.size)⟩
      · have e := Lib.hid (hbad.out (by rw [p3.out, decide_eq_false hn, Bool.false_and, Bool.and_false, Bool.and_false]))
        have hn0 : (0 : Int) < (n : Int) := by omega
        clear p3 hn
        go_enter Try.func12, Try.ntmps12
        go_upto_region 1 with fail
        rw [← hW]
        clear hW
        go_wp2_with (first
          | (go_at_call 24; (with_reducible refine (hD.out _).mono ?_); rintro e w2 ⟨rfl, rfl⟩)
          | (go_at_call 25; (with_reducible refine (hI.out _ hB.out).mono ?_); rintro e w3 ⟨rfl, h3⟩; replace hB := Lib.hid (hB.out.trans (Below.mono h3 hB.out.size)); clear h3 c0 c1 c2 c3; obtain ⟨c0, c1, c2, c3⟩ := hmids.out _ hB.out))
        go_ret
        exact ⟨ret_int e.out.symm, hb1.out.trans (hB.out.mono hb1.out.size)⟩
    · have e := Lib.hid (hbad.out (by rw [p3.out, decide_eq_false hN, Bool.false_and, Bool.and_false]))
      have hN0 : ((N : Int) != 0) = true := by simp only [bne_iff_ne, ne_eq]; omega
      clear p3 hN
      go_enter Try.func12, Try.ntmps12
      go_upto_region 1 with fail
      rw [← hW]
      clear hW
      go_wp2_with (first
        | (go_at_call 24; (with_reducible refine (hD.out _).mono ?_); rintro e w2 ⟨rfl, rfl⟩)
        | (go_at_call 25; (with_reducible refine (hI.out _ hB.out).mono ?_); rintro e w3 ⟨rfl, h3⟩; replace hB := Lib.hid (hB.out.trans (Below.mono h3 hB.out.size)); clear h3 c0 c1 c2 c3; obtain ⟨c0, c1, c2, c3⟩ := hmids.out _ hB.out))
      go_ret
      exact ⟨ret_int e.out.symm, hb1.out.trans (hB.out.mono hb1.out.size)⟩
  · have hd1 : numK k = false := by unfold numK; rw [decide_eq_false (fun h => hk (.inl h)), decide_eq_false (fun h => hk (.inr h))]; rfl
    have hd2 : idsK k = false := by unfold idsK; rw [decide_eq_false (fun h => hk2 (.inl h)), decide_eq_false (fun h => hk2 (.inr (.inl h))), decide_eq_false (fun h => hk2 (.inr (.inr h)))]; rfl
    have e := Lib.hid (hbad.out (by rw [p3.out hd1 hd2, decide_eq_false hk5]; rfl))
    clear p1 p2 p3
    by_cases h1 : k < 1
    · clear hk hk2 hk5 hd1 hd2 hD
      go_enter Try.func12, Try.ntmps12
      go_upto_region 1 with fail
      rw [← hW]
      clear hW
      go_wp2_with (first
        | (go_at_call 24; (with_reducible refine (hD.out _).mono ?_); rintro e w2 ⟨rfl, rfl⟩)
        | (go_at_call 25; (with_reducible refine (hI.out _ hB.out).mono ?_); rintro e w3 ⟨rfl, h3⟩; replace hB := Lib.hid (hB.out.trans (Below.mono h3 hB.out.size)); clear h3 c0 c1 c2 c3; obtain ⟨c0, c1, c2, c3⟩ := hmids.out _ hB.out))
      go_ret
      exact ⟨ret_int e.out.symm, hb1.out.trans (hB.out.mono hb1.out.size)⟩
    · have h6 : (6 : Int) < k := by omega
      clear hk hk2 hk5 hd1 hd2 hD
      go_enter Try.func12, Try.ntmps12
      go_upto_region 1 with fail
      rw [← hW]
      clear hW
      go_wp2_with (first
        | (go_at_call 24; (with_reducible refine (hD.out _).mono ?_); rintro e w2 ⟨rfl, rfl⟩)
        | (go_at_call 25; (with_reducible refine (hI.out _ hB.out).mono ?_); rintro e w3 ⟨rfl, h3⟩; replace hB := Lib.hid (hB.out.trans (Below.mono h3 hB.out.size)); clear h3 c0 c1 c2 c3; obtain ⟨c0, c1, c2, c3⟩ := hmids.out _ hB.out))
      go_ret
      exact ⟨ret_int e.out.symm, hb1.out.trans (hB.out.mono hb1.out.size)⟩
set_option maxHeartbeats 2000000 in
set_option maxRecDepth 100000 in
theorem rEncodeF_ok (f : Fr) (ff : f.Fit) (h0 : frOk f = true) (iv ov : Value) (w : World) (hi : RdI w iv f.n f.F) (ho : RdS w ov f.L) :
    Calls Try.prog 8 #[.agg (f.c iv ov)] w fun e w' => ∃ sv, e = .returned (.tuple #[sv, .int .i64 0]) ∧ OwnB w.heap.size 5 w' sv (frB f) ∧ Below w.heap.size w w' := by
  obtain ⟨W, hW⟩ : ∃ W, W = w.alloc (.cells (f.c iv ov) 26) := ⟨_, rfl⟩
  have hr0 := heap_alloc_new w (.cells (f.c iv ov) 26)
  have hb0 := (Below.refl w.heap.size w).alloc (Nat.le_refl _) (.cells (f.c iv ov) 26)
  rw [← hW] at hr0 hb0
  obtain ⟨ia, ic, rfl⟩ := hi.slice
  obtain ⟨oa, oc, rfl⟩ := ho.slice
  have hlt := (Array.getElem?_eq_some_iff.1 hr0).1
  have hrows := Lib.hid (fun (wz : World) (h : Below W.heap.size W wz) => rowB hr0 h hlt)
  have hb1 := Lib.hid hb0
  have hB := Lib.hid (Below.refl W.heap.size W)
  have hC := Lib.hid (fun (wz : World) (h : Below W.heap.size W wz) => rCheckF_any f ff _ _ wz ((hi.mono hb0).mono h) ((ho.mono hb0).mono h))
  have hw := Lib.hid (fun (wz : World) (h : Below W.heap.size W wz) => rBytesF_any f ff (frOk_parts h0).1 _ _ wz ((hi.mono hb0).mono h) ((ho.mono hb0).mono h))
  rw [chkR_yes h0] at hC
  clear hr0 hb0 hi ho ff h0
  go_enter Try.func8, Try.ntmps8
  go_upto_region 1 with fail
  rw [← hW]
  clear hW
  go_wp2_with (first | (refine wpList_load_row_g rfl 26 _ rfl w.heap.size rfl 26 (f.c (.slice ia f.n ic) (.slice oa f.L.length oc)) (0, 0) _ (hrows.out _ hB.out) Try.underlying26 rfl info_frame ?_) | (go_at_call 12; (with_reducible refine (hC.out _ hB.out).mono ?_); rintro e w3 ⟨rfl, h3⟩; replace hB := Lib.hid (hB.out.trans (Below.mono h3 hB.out.size)); clear h3) | (go_at_call 20; (with_reducible refine (hw.out _ hB.out).mono ?_); rintro e w3 ⟨sv, rfl, hO, h3⟩; replace hO := Lib.hid (hO.mono (Nat.le_trans hb1.out.size hB.out.size)); replace hB := Lib.hid (hB.out.trans (Below.mono h3 hB.out.size)); clear h3))
  go_ret2
  exact ⟨_, rfl, hO.out, hb1.out.trans (hB.out.mono hb1.out.size)⟩
set_option maxHeartbeats 2000000 in
set_option maxRecDepth 100000 in
theorem rEncodeF_bad (f : Fr) (ff : f.Fit) (h0 : frOk f = false) (iv ov : Value) (w : World) (hi : RdI w iv f.n f.F) (ho : RdS w ov f.L) :
    Calls Try.prog 8 #[.agg (f.c iv ov)] w fun e w' => e = .returned (.tuple #[.slice none 0 0, .int .i64 8]) ∧ Below w.heap.size w w' := by
  obtain ⟨W, hW⟩ : ∃ W, W = w.alloc (.cells (f.c iv ov) 26) := ⟨_, rfl⟩
  have hr0 := heap_alloc_new w (.cells (f.c iv ov) 26)
  have hb0 := (Below.refl w.heap.size w).alloc (Nat.le_refl _) (.cells (f.c iv ov) 26)
  rw [← hW] at hr0 hb0
  obtain ⟨ia, ic, rfl⟩ := hi.slice
  obtain ⟨oa, oc, rfl⟩ := ho.slice
  have hlt := (Array.getElem?_eq_some_iff.1 hr0).1
  have hrows := Lib.hid (fun (wz : World) (h : Below W.heap.size W wz) => rowB hr0 h hlt)
  have hb1 := Lib.hid hb0
  have hB := Lib.hid (Below.refl W.heap.size W)
  have hC := Lib.hid (fun (wz : World) (h : Below W.heap.size W wz) => rCheckF_any f ff _ _ wz ((hi.mono hb0).mono h) ((ho.mono hb0).mono h))
  rw [chkR_not h0] at hC
  clear hr0 hb0 hi ho ff h0
  go_enter Try.func8, Try.ntmps8
  go_upto_region 1 with fail
  rw [← hW]
  clear hW
  go_wp2_with (first | (refine wpList_load_row_g rfl 26 _ rfl w.heap.size rfl 26 (f.c (.slice ia f.n ic) (.slice oa f.L.length oc)) (0, 0) _ (hrows.out _ hB.out) Try.underlying26 rfl info_frame ?_) | (go_at_call 12; (with_reducible refine (hC.out _ hB.out).mono ?_); rintro e w3 ⟨rfl, h3⟩; replace hB := Lib.hid (hB.out.trans (Below.mono h3 hB.out.size)); clear h3))
  go_ret2
  exact ⟨rfl, hb1.out.trans (hB.out.mono hb1.out.size)⟩
end Go.Proofs.Ytfaojjleapenaab
namespace Go.Proofs.Ytfaojjleapenaab
open Go.RowKit Go.Ytfaojjleapenaab
set_option linter.unusedVariables false
/-- A frame that is not great. -/
def Fr.Small (f : Fr) : Prop := f.n ≤ 100 ∧ f.L.length ≤ 20 ∧ ∀ i, (nthL f.L i).length ≤ 1000
theorem small_all {f : Fr} (h1 : f.n ≤ 100) (h2 : f.L.length ≤ 20) (h3 : ∀ j, j < f.L.length → (nthL f.L j).length ≤ 1000) : f.Small :=
  ⟨h1, h2, fun i => by
    rcases Nat.lt_or_ge i f.L.length with h | h
    · exact h3 i h
    · rw [nthL_out _ _ h]; exact Nat.zero_le _⟩
theorem rdS_most {w : World} {v : Value} {L : List (List Int)} (h : RdS w v L) : L.length ≤ maxLen := by
  rcases h with ⟨_, _, _, _, rfl⟩ | ⟨b, o, c, _, h1, h2, _⟩
  · exact Nat.zero_le _
  · exact Nat.le_trans h1 h2
theorem rdB_most {w : World} {v : Value} {l : List Int} (h : RdB w v l) : l.length ≤ maxLen := by
  rcases h with ⟨_, _, _, _, rfl⟩ | ⟨b, o, c, _, h1, h2, _⟩
  · exact Nat.zero_le _
  · exact Nat.le_trans h1 h2
theorem rdI_most {w : World} {v : Value} {n : Nat} {F : List Int} (h : RdI w v n F) : n ≤ maxLen := by
  rcases h with ⟨_, _, _, _, rfl, _⟩ | ⟨b, o, c, _, h1, h2, _⟩
  · exact Nat.zero_le _
  · exact Nat.le_trans h1 h2
set_option maxHeartbeats 2000000 in
set_option maxRecDepth 100000 in
theorem great_any (f : Fr) (R : Bool) (hy : f.Small → R = false) (hn : ¬ f.Small → R = true) (iv ov : Value) (w : World) (hi : RdI w iv f.n f.F) (ho : RdS w ov f.L) :
    Calls Try.prog 5 #[.agg (f.c iv ov)] w fun e w' => e = .returned (.bool R) ∧ Below w.heap.size w w' := by
  obtain ⟨W, hW⟩ : ∃ W, W = w.alloc (.cells (f.c iv ov) 26) := ⟨_, rfl⟩
  have hr0 := heap_alloc_new w (.cells (f.c iv ov) 26)
  have hb0 := (Below.refl w.heap.size w).alloc (Nat.le_refl _) (.cells (f.c iv ov) 26)
  rw [← hW] at hr0 hb0
  have hlm : f.L.length ≤ 9223372036854775807 := by have h := rdS_most ho; unfold maxLen at h; omega
  have hnm : f.n ≤ 9223372036854775807 := by have h := rdI_most hi; unfold maxLen at h; omega
  obtain ⟨ia, ic, rfl⟩ := hi.slice
  obtain ⟨oa, oc, rfl⟩ := ho.slice
  obtain ⟨c0, c1, c2, c3⟩ := cellsF hr0
  have hb1 := Lib.hid hb0
  have hS := Lib.hid (ho.mono hb0)
  have hyes := Lib.hid (fun (h1 : f.n ≤ 100) (h2 : f.L.length ≤ 20) h3 => hy (small_all h1 h2 h3))
  have hno1 := Lib.hid (fun (h : ¬ f.n ≤ 100) => hn fun h2 => h h2.1)
  have hno2 := Lib.hid (fun (h : ¬ f.L.length ≤ 20) => hn fun h2 => h h2.2.1)
  have hno3 := Lib.hid (fun (i : Nat) (h : ¬ (nthL f.L i).length ≤ 1000) => hn fun h2 => h (h2.2.2 i))
  clear hr0 hb0 hi ho hy hn c0 c1
  obtain ⟨k0, N, n, F, L⟩ := f
  dsimp only at *
  go_enter Try.func5, Try.ntmps5
  go_upto_region 1 with fail
  rw [← hW]
  clear hW
  go_wp2
  go_loopw [3] (fun i wr => ∃ k : Nat, k ≤ L.length ∧ k ≤ 21 ∧ i = .int .i64 k ∧ W = wr ∧ ∀ j, j < k → (nthL L j).length ≤ 1000) (fun i _ => 30 - (intOf i).toNat)
  case atStart => exact ⟨0, Nat.zero_le _, by decide, rfl, rfl, fun j hj => absurd hj (Nat.not_lt_zero _)⟩
  case round =>
    obtain ⟨k, hk, hk21, rfl, rfl, he⟩ := hrel
    have he' := Lib.hid he
    clear he
    by_cases hlt : k < L.length
    · by_cases h20 : k ≤ 20
      · obtain ⟨b, o, rfl, hbw, s, hc, hs⟩ := hS.out.at k hlt
        obtain ⟨M, hM⟩ : ∃ M, (nthL L k).length = M := ⟨_, rfl⟩
        have hM' := Lib.hid hM
        have hm2 : (nthL L k).length ≤ 9223372036854775807 := by have h := rdB_most hs; unfold maxLen at h; omega
        obtain ⟨sa, sc, rfl⟩ := hs.slice
        rw [hM] at hc hm2
        clear hs hM
        by_cases h4 : M ≤ 1000
        · have hh := Lib.hid (show ∀ j, j < k + 1 → (nthL L j).length ≤ 1000 from fun j hj => by
            rcases Nat.lt_or_ge j k with h1 | h1
            · exact he'.out j h1
            · obtain rfl : j = k := by omega
              rw [hM'.out]; exact h4)
          go_wp2
          go_roundw
          case rel => exact ⟨k + 1, by omega, by omega, by go_num, by trivial, hh.out⟩
          case measure => simp [intOf]; omega
        · have hh := Lib.hid (hno3.out k (by rw [hM'.out]; omega))
          go_wp2
          go_ret
          exact ⟨ret_bool hh.out.symm, hb1.out⟩
      · have hh := Lib.hid (hno2.out (by omega))
        by_cases hn1 : n ≤ 100
        · have h2 : 20 < L.length := by omega
          go_wp2
          go_ret
          exact ⟨ret_bool (by rw [hh.out, decide_eq_true (show (20 : Int) < L.length by omega), Bool.or_true]), hb1.out⟩
        · go_wp2
          go_ret
          exact ⟨ret_bool hh.out.symm, hb1.out⟩
    · obtain rfl : k = L.length := by omega
      by_cases hn1 : n ≤ 100
      · by_cases h2 : L.length ≤ 20
        · have hh := Lib.hid (hyes.out hn1 h2 he'.out)
          go_wp2
          go_ret
          exact ⟨ret_bool (by rw [hh.out, decide_eq_false (show ¬ (100 : Int) < n by omega), decide_eq_false (show ¬ (20 : Int) < L.length by omega)]; rfl), hb1.out⟩
        · have hh := Lib.hid (hno2.out h2)
          go_wp2
          go_ret
          exact ⟨ret_bool (by rw [hh.out, decide_eq_true (show (20 : Int) < L.length by omega), Bool.or_true]), hb1.out⟩
      · have hh := Lib.hid (hno1.out hn1)
        go_wp2
        go_ret
        exact ⟨ret_bool hh.out.symm, hb1.out⟩
theorem small_fit {f : Fr} (hk : 0 ≤ f.k ∧ f.k < 256) (hN : f.N < 18446744073709551616) (hF : Bytes f.F) (hL : ∀ i, Bytes (nthL f.L i)) (hl : f.F.length = 32 * f.n) (h : f.Small) : f.Fit :=
  ⟨hk, hN, by have := h.1; omega, hF, hl, by have := h.2.1; omega, hL, fun i => by have := h.2.2 i; omega⟩
end Go.Proofs.Ytfaojjleapenaab
namespace Go.Proofs.Ytfaojjleapenaab
open Go.RowKit Go.Ytfaojjleapenaab
set_option linter.unusedVariables false
theorem rdI_first {w : World} {a : Option Addr} {n c : Nat} {F : List Int} (h : RdI w (.slice a n c) n F) (k : Nat) (hk : k ≤ n) : RdI w (.slice a k c) k (F.take (32 * k)) := by
  rcases h with ⟨a', c', e, h1, rfl, rfl⟩ | ⟨b, o, c', e, h1, h2, h3, h4, h5⟩
  · cases e
    obtain rfl : k = 0 := by omega
    exact .inl ⟨_, _, rfl, h1, rfl, rfl⟩
  · cases e
    have hl : (F.take (32 * k)).length = 32 * k := by rw [List.length_take, h4]; omega
    refine .inr ⟨b, o, c, rfl, by omega, h2, h3, hl, fun i hi => ?_⟩
    rw [hl] at hi
    rw [ith_take _ _ _ hi]
    exact h5 i (by omega)
theorem rdI_last {w : World} {b o n c : Nat} {F : List Int} (h : RdI w (.slice (some ⟨b, o, none⟩) n c) n F) (k : Nat) (hk : k < n) : RdI w (.slice (some ⟨b, o + k * 32, none⟩) (n - k) (c - k)) (n - k) (F.drop (32 * k)) := by
  rcases h with ⟨a', c', e, h1, h0, rfl⟩ | ⟨b', o', c', e, h1, h2, h3, h4, h5⟩
  · omega
  · cases e
    have hl : (F.drop (32 * k)).length = 32 * (n - k) := by rw [List.length_drop, h4]; omega
    refine .inr ⟨b, o + k * 32, c - k, rfl, by omega, by unfold maxLen at *; omega, h3, hl, fun i hi => ?_⟩
    rw [hl] at hi
    rw [ith_drop, show o + k * 32 + i = o + (32 * k + i) by omega]
    exact h5 _ (by omega)
theorem rdI_some {w : World} {a : Option Addr} {n c : Nat} {F : List Int} (h : RdI w (.slice a n c) n F) (hn : 0 < n) : ∃ b o, a = some ⟨b, o, none⟩ ∧ n ≤ c := by
  rcases h with ⟨a', c', e, h1, h0, rfl⟩ | ⟨b', o', c', e, h1, _⟩
  · omega
  · cases e
    exact ⟨b', o', rfl, h1⟩
theorem run_appendIs {P : Program} (w : World) (base : Nat) (t ty e : TypeId) (ht : P.underlying t = some (.slice e)) (hinfo : (P.info? e).map (fun i => (i.zero, i.size, i.bytes)) = some (some (.agg (u8s (zerosB 32))), 32, 32))
    (v : Value) (n : Nat) (F : List Int) (hown : OwnI base e w v n F) (sv : Value) (m : Nat) (G : List Int) (hr : RdI w sv m G) (hlen : n + m ≤ 1000000) (hbase : base ≤ w.heap.size) :
    ∃ v' w', (Builtin.append_ #[t, t] ty #[v, sv]).run P w = .ok v' w' ∧ OwnI base e w' v' (n + m) (F ++ G) ∧ w.grownBy w' v.ownBlock := by
  obtain ⟨i, hi, hz, hs, hb⟩ := info_parts hinfo
  have hlG := hr.len
  rcases hr with ⟨sa, sc, rfl, hsn, rfl, rfl⟩ | ⟨b, o, c, rfl, h1, h2, h3, h4, h5⟩
  · cases sa with
    | some sa =>
      obtain ⟨v', w', hrun, ho, hg, _⟩ := run_append_own (P := P) w base t ty e i (.agg (u8s (zerosB 32))) 32 32 ht hi hz hs hb (by simp [Value.cells, u8s_size, zerosB_length]) (by omega) v n (u8v F) hown sa 0 sc (u8v [])
        (by rw [u8v_length]; rfl) (fun k x hx => by cases hx) (u8v_one []) (by unfold maxLen; omega) (by omega) hbase
      refine ⟨v', w', hrun, ?_, hg⟩
      unfold OwnI
      rw [List.append_nil]
      simpa [u8v] using ho
    | none =>
      obtain rfl := hsn rfl
      refine ⟨v, w, run_append_owned_none (P := P) (w := w) base t ty e i 32 ht hi v n (u8v F) hown, ?_, ⟨rfl, rfl, rfl, Nat.le_refl _, fun _ _ _ => rfl⟩⟩
      rw [List.append_nil]; exact hown
  · obtain ⟨v', w', hrun, ho, hg, _⟩ := run_append_own (P := P) w base t ty e i (.agg (u8s (zerosB 32))) 32 32 ht hi hz hs hb (by simp [Value.cells, u8s_size, zerosB_length]) (by omega) v n (u8v F) hown ⟨b, o, none⟩ m c (u8v G)
      (by rw [u8v_length]; omega) (RdB.src h5) (u8v_one G) (by unfold maxLen; omega) (by omega) hbase
    refine ⟨v', w', hrun, ?_, hg⟩
    unfold OwnI
    rw [u8v_append]; exact ho
theorem appendIs {P : Program} {ops : Array Oper} {rest : List Oper} {o : Oper} {a : Act} {w : World} {Q : Exit → Act → World → Prop} (hgd : o.guard = none) (s x : Operand) (t : TypeId)
    (ho : o.op = .call { callee := .builtin .append, args := #[s, x], argTypes := #[t, t] })
    (base : Nat) (e : TypeId) (ht : P.underlying t = some (.slice e)) (hinfo : (P.info? e).map (fun i => (i.zero, i.size, i.bytes)) = some (some (.agg (u8s (zerosB 32))), 32, 32))
    (v : Value) (hs : a.eval s = v) (n : Nat) (F : List Int) (hown : OwnI base e w v n F) (sv : Value) (hx : a.eval x = sv) (m : Nat) (G : List Int) (hr : RdI w sv m G) (hlen : n + m ≤ 1000000) (hbase : base ≤ w.heap.size)
    (h : ∀ v' w', OwnI base e w' v' (n + m) (F ++ G) → w.grownBy w' v.ownBlock → Stop (wpList P ops Q rest (a.put o.dst v') w')) : wpList P ops Q (o :: rest) a w := by
  refine wpList_plain hgd fun K hK => ?_
  obtain ⟨v', w', hrun, h2, h3⟩ := run_appendIs (P := P) w base t o.type e ht hinfo v n F hown sv m G hr hlen hbase
  unfold Oper.wp execOp
  simp only [ho, resolve, invoke, builtin, Sem.run_bind, Sem.run_pure, Result.andThen_ok, List.map_toArray, List.map_cons, List.map_nil, hs, hx, hrun]
  exact hK _ _ (h v' w' h2 h3).out
theorem ownI_setRow {base : Nat} {E : TypeId} {w : World} {v : Value} {n : Nat} {F : List Int} (h : OwnI base E w v n F) {g : Nat} (hg : g < base) (cs : Array Value) : OwnI base E (w.setRow g cs) v n F := by
  refine ⟨h.1, ?_⟩
  rcases h.2 with hn | ⟨k, cap, cur, rfl, hbg, hk, rest⟩
  · exact .inl hn
  · exact .inr ⟨k, cap, cur, rfl, hbg, (setRow_other w g k cs (by omega)).trans hk, rest⟩
set_option maxHeartbeats 4000000 in
set_option maxRecDepth 100000 in
theorem frameOf_any (k : Int) (n : Nat) (hn : n ≤ 1000) (F : List Int) (v : Value) (w : World) (hr : RdI w v n F) :
    Calls Try.prog 23 #[.int .u8 k, v] w fun e w' => ∃ qa qc, e = .returned (.agg ((⟨k, 0, n, F, []⟩ : Fr).c (.slice qa n qc) (.slice none 0 0))) ∧ OwnI w.heap.size 47 w' (.slice qa n qc) n F ∧ Below w.heap.size w w' := by
  obtain ⟨W, hW⟩ : ∃ W, W = w.alloc (.cells ((kF 0).c (.slice none 0 0) (.slice none 0 0)) 26) := ⟨_, rfl⟩
  have hs := Lib.hid (show W.heap[w.heap.size]? = some (.cells ((kF 0).c (.slice none 0 0) (.slice none 0 0)) 26 (0, 0)) by rw [hW]; exact heap_alloc_new w _)
  have hB := Lib.hid (show Below w.heap.size w W by rw [hW]; exact (Below.refl w.heap.size w).alloc (Nat.le_refl _) _)
  have hsz := Lib.hid (show W.heap.size = w.heap.size + 1 by rw [hW]; simp)
  have hrW := Lib.hid (hr.mono hB.out)
  obtain ⟨a, c, rfl⟩ := hr.slice
  clear hr
  go_enter Try.func23, Try.ntmps23
  go_upto_region 1 with fail
  change Code.wp _ _ _ _ (w.alloc (.cells ((kF 0).c (.slice none 0 0) (.slice none 0 0)) 26))
  rw [← hW]
  clear hW
  go_wp2_with (refine appendIs rfl _ _ 23 rfl W.heap.size 47 Try.underlying23 (by kernel_rfl) _ rfl 0 [] (OwnI.nil W W.heap.size 47) _ rfl n F hrW.out (by omega) (Nat.le_refl _) ?_)
  intro v2 w2 h1 h2
  have hB2 := (OwnI.nil W W.heap.size 47).below h2 (Nat.le_refl _)
  obtain ⟨qa, qc, rfl⟩ := h1.rd.slice
  replace hs := Lib.hid (rowB hs.out hB2 (Array.getElem?_eq_some_iff.1 hs.out).1)
  replace hB := Lib.hid (hB.out.trans (hB2.mono hB.out.size))
  have hH := Lib.hid h1
  clear h1 h2 hB2 hrW
  refine Stop.go ?_
  go_wp2_with (refine wpList_store_row rfl 26 _ _ rfl w.heap.size ((⟨k, 0, n, F, []⟩ : Fr).c (.slice qa n qc) (.slice none 0 0)) rfl rfl 26 _ hs.out info_frame rfl (fr_one _ _ _ _ _ _ _) ?_)
  exact bodyPost_ret (results_cell_row rfl _ _ w.heap.size 26 _ _ _ rfl (setRow_heap _ _ _ _ _ _ hs.out) Try.underlying26 rfl info_frame) rfl ⟨qa, qc, rfl, (ownI_setRow hH.out (by have := hsz.out; omega) _).mono (by have := hsz.out; omega), below_setRow' hB.out (Nat.le_refl _) _⟩
end Go.Proofs.Ytfaojjleapenaab
namespace Go.Proofs.Ytfaojjleapenaab
open Go.RowKit Go.Ytfaojjleapenaab
set_option linter.unusedVariables false
theorem heldI_own_kept {B : Nat} {w w' : World} {v s : Value} {n m S : Nat} {F : List Int} {e : TypeId} {xs : List Value} (h : OwnI B 47 w v n F) (ho : w.ownsRow B e S s m xs) (hne : 47 ≠ e) (hg : w.grownBy w' s.ownBlock) : OwnI B 47 w' v n F :=
  World.ownsRow.kept h hg (owns_ne h ho hne)
/-- A slice of one frame of one's own. -/
def OneF (B : Nat) (w : World) (v : Value) (f : Fr) : Prop := ∃ xa xc, w.ownsRow B 26 4 v 1 (f.c (.slice xa f.n xc) (.slice none 0 0)).toList ∧ OwnI B 47 w (.slice xa f.n xc) f.n f.F
def TwoF (B : Nat) (w : World) (v : Value) (f g : Fr) : Prop := ∃ xa xc ya yc, w.ownsRow B 26 4 v 2 ((f.c (.slice xa f.n xc) (.slice none 0 0)).toList ++ (g.c (.slice ya g.n yc) (.slice none 0 0)).toList) ∧ OwnI B 47 w (.slice xa f.n xc) f.n f.F ∧ OwnI B 47 w (.slice ya g.n yc) g.n g.F
/-- What Split answers. -/
def splitPost (k : Int) (n : Nat) (F : List Int) (w : World) (e : Ending) (w' : World) : Prop :=
  Below w.heap.size w w' ∧ (if idsK k = true then (if n ≤ 60 then (if riseF F n = true then
      (∃ v, e = .returned (.tuple #[v, .int .i64 0]) ∧ ((n ≤ 40 ∧ OneF w.heap.size w' v ⟨k, 0, n, F, []⟩) ∨ (40 < n ∧ TwoF w.heap.size w' v ⟨k, 0, 40, F.take (32 * 40), []⟩ ⟨k, 0, n - 40, F.drop (32 * 40), []⟩)))
    else e = .returned (.tuple #[.slice none 0 0, .int .i64 32])) else e = .returned (.tuple #[.slice none 0 0, .int .i64 4])) else e = .returned (.tuple #[.slice none 0 0, .int .i64 2]))
set_option maxHeartbeats 4000000 in
set_option maxRecDepth 100000 in
theorem split_any (k : Int) (n : Nat) (hn : n ≤ 100000) (F : List Int) (hF : Bytes F) (v : Value) (w : World) (hr : RdI w v n F) :
    Calls Try.prog 9 #[v, .int .u8 k] w (splitPost k n F w) := by
  have hp : ∀ e w', splitPost k n F w e w' = (Below w.heap.size w w' ∧ (if idsK k = true then (if n ≤ 60 then (if riseF F n = true then
      (∃ v, e = .returned (.tuple #[v, .int .i64 0]) ∧ ((n ≤ 40 ∧ OneF w.heap.size w' v ⟨k, 0, n, F, []⟩) ∨ (40 < n ∧ TwoF w.heap.size w' v ⟨k, 0, 40, F.take (32 * 40), []⟩ ⟨k, 0, n - 40, F.drop (32 * 40), []⟩)))
    else e = .returned (.tuple #[.slice none 0 0, .int .i64 32])) else e = .returned (.tuple #[.slice none 0 0, .int .i64 4])) else e = .returned (.tuple #[.slice none 0 0, .int .i64 2]))) := fun _ _ => rfl
  generalize splitPost k n F w = PO at *
  have hD := Lib.hid (fun wz => hasIDs_any k wz)
  obtain ⟨a, c, rfl⟩ := hr.slice
  cases hk : idsK k
  · rw [hk] at hD
    have hp' := Lib.hid hp
    clear hr hp hn
    go_enter Try.func9, Try.ntmps9
    go_wp2_with (go_at_call 21; (with_reducible refine (hD.out _).mono ?_); rintro e w2 ⟨rfl, rfl⟩)
    rw [hp'.out]
    exact ⟨Below.refl _ _, by rw [if_neg (by rw [hk]; decide)]; rfl⟩
  rw [hk] at hD
  by_cases h60 : n ≤ 60
  · have hI := Lib.hid (frIncrease_any F n _ w hr hF hn)
    cases hri : riseF F n
    · rw [hri] at hI
      have hp' := Lib.hid hp
      clear hr hp hn
      go_enter Try.func9, Try.ntmps9
      go_wp2_with (first | (go_at_call 21; (with_reducible refine (hD.out _).mono ?_); rintro e w2 ⟨rfl, rfl⟩) | (go_at_call 22; (with_reducible refine (hI.out).mono ?_); rintro e w3 ⟨rfl, h3⟩; have hB := Lib.hid h3; clear h3))
      rw [hp'.out]
      exact ⟨hB.out, by rw [if_pos hk, if_pos h60, if_neg (by rw [hri]; decide)]; rfl⟩
    · rw [hri] at hI
      have hp' := Lib.hid hp
      have hrw := Lib.hid hr
      clear hp hn
      by_cases h40 : n ≤ 40
      · have hfo := Lib.hid (fun (wz : World) (h : Below w.heap.size w wz) => frameOf_any k n (by omega) F _ wz (hr.mono h))
        clear hr
        go_enter Try.func9, Try.ntmps9
        go_upto_region 7 with (first | (go_at_call 21; (with_reducible refine (hD.out _).mono ?_); rintro e w2 ⟨rfl, rfl⟩) | (go_at_call 22; (with_reducible refine (hI.out).mono ?_); rintro e w3 ⟨rfl, h3⟩; have hB := Lib.hid h3; clear h3))
        go_wp2
        go_loopw [0, 6] (fun x y wr => x = .slice a n c ∧ y = .slice none 0 0 ∧ w3 = wr) (fun _ _ _ => 0)
        case atStart => exact ⟨rfl, rfl, rfl⟩
        case round =>
          obtain ⟨rfl, rfl, rfl⟩ := hrel
          go_wp2_with (first
            | (go_at_call 23; (with_reducible refine (hfo.out _ hB.out).mono ?_); rintro e w4 ⟨x1, y1, rfl, q1, q2⟩; have hq2 := Lib.hid q2; have hB4 := Lib.hid (hB.out.trans (q2.mono hB.out.size)); have ho1 := Lib.hid (q1.mono hB.out.size); clear q1 q2)
            | (refine appendG rfl _ _ 35 rfl w.heap.size 26 4 64 (.agg #[.int .u8 0, .int .u64 0, .slice none 0 0, .slice none 0 0]) Try.underlying35 (by kernel_rfl) rfl (by decide) (by decide) _ rfl 0 [] (owns_kept (World.ownsRow_nil w4 w.heap.size 26 4) (below_a w4 (.cells ((⟨k, 0, n, F, []⟩ : Fr).c (.slice x1 n y1) (.slice none 0 0)) 26))) w4.heap.size 1 1 rfl ((⟨k, 0, n, F, []⟩ : Fr).c (.slice x1 n y1) (.slice none 0 0)) rfl 26 (heap_alloc_new w4 _) (fr_one _ _ _ _ _ _ _) (by decide) (by have := hB4.out.size; simp; omega) ?_))
          intro v6 w6 h1 h2 h3
          have hB6 := Lib.hid ((hB4.out.alloc hB4.out.size (.cells ((⟨k, 0, n, F, []⟩ : Fr).c (.slice x1 n y1) (.slice none 0 0)) 26)).trans h3)
          have ho6 := Lib.hid (heldI_own_kept (ho1.out.kept (below_a w4 (.cells ((⟨k, 0, n, F, []⟩ : Fr).c (.slice x1 n y1) (.slice none 0 0)) 26))) (World.ownsRow_nil _ w.heap.size 26 4) (by decide) h2)
          have hn6 := Lib.hid h1
          clear h1 h2 h3
          refine Stop.go ?_
          go_wp2
          rw [hp'.out]
          refine ⟨hB6.out, ?_⟩
          rw [if_pos hk, if_pos h60, if_pos hri]
          exact ⟨_, rfl, .inl ⟨h40, x1, y1, hn6.out, ho6.out⟩⟩
      · have h41 : 40 < n := by omega
        obtain ⟨b, o, rfl, hcap⟩ := rdI_some hr (by omega)
        obtain ⟨D, hD'⟩ : ∃ D, n - 40 = D := ⟨_, rfl⟩
        have hDn : D ≤ 20 := by omega
        have hcap2 : ¬ c = 40 := by omega
        have hcap3 : 40 ≤ c := by omega
        have hDh := Lib.hid hD'
        have hl1 := rdI_last hr 40 h41
        rw [hD'] at hl1
        have hfo := Lib.hid (fun (wz : World) (h : Below w.heap.size w wz) => frameOf_any k 40 (by decide) (F.take (32 * 40)) _ wz ((rdI_first hr 40 (by omega)).mono h))
        have hfl := Lib.hid (fun (wz : World) (h : Below w.heap.size w wz) => frameOf_any k D (by omega) (F.drop (32 * 40)) _ wz (hl1.mono h))
        clear hr hl1
        go_enter Try.func9, Try.ntmps9
        go_upto_region 7 with (first | (go_at_call 21; (with_reducible refine (hD.out _).mono ?_); rintro e w2 ⟨rfl, rfl⟩) | (go_at_call 22; (with_reducible refine (hI.out).mono ?_); rintro e w3 ⟨rfl, h3⟩; have hB := Lib.hid h3; clear h3))
        go_wp2
        go_loopw [0, 6] (fun x y wr => (x = .slice (some ⟨b, o, none⟩) n c ∧ y = .slice none 0 0 ∧ w3 = wr) ∨ (x = .slice (some ⟨b, o + 40 * 32, none⟩) D (c - 40) ∧ Below w.heap.size w wr ∧ OneF w.heap.size wr y ⟨k, 0, 40, F.take (32 * 40), []⟩)) (fun x _ _ => match x with | .slice _ m _ => m | _ => 0)
        case atStart => exact .inl ⟨rfl, rfl, rfl⟩
        case round =>
          rcases hrel with ⟨rfl, rfl, rfl⟩ | ⟨rfl, hb6, hf6⟩
          · go_wp2_with (first
              | (go_at_call 23; (with_reducible refine (hfo.out _ hB.out).mono ?_); rintro e w4 ⟨x1, y1, rfl, q1, q2⟩; have hq2 := Lib.hid q2; have hB4 := Lib.hid (hB.out.trans (q2.mono hB.out.size)); have ho1 := Lib.hid (q1.mono hB.out.size); clear q1 q2)
              | (refine appendG rfl _ _ 35 rfl w.heap.size 26 4 64 (.agg #[.int .u8 0, .int .u64 0, .slice none 0 0, .slice none 0 0]) Try.underlying35 (by kernel_rfl) rfl (by decide) (by decide) _ rfl 0 [] (owns_kept (World.ownsRow_nil w4 w.heap.size 26 4) (below_a w4 (.cells ((⟨k, 0, 40, F.take (32 * 40), []⟩ : Fr).c (.slice x1 40 y1) (.slice none 0 0)) 26))) w4.heap.size 1 1 rfl ((⟨k, 0, 40, F.take (32 * 40), []⟩ : Fr).c (.slice x1 40 y1) (.slice none 0 0)) rfl 26 (heap_alloc_new w4 _) (fr_one _ _ _ _ _ _ _) (by decide) (by have := hB4.out.size; simp; omega) ?_))
            intro v6 w6 h1 h2 h3
            have hB6 := Lib.hid ((hB4.out.alloc hB4.out.size (.cells ((⟨k, 0, 40, F.take (32 * 40), []⟩ : Fr).c (.slice x1 40 y1) (.slice none 0 0)) 26)).trans h3)
            have ho6 := Lib.hid (heldI_own_kept (ho1.out.kept (below_a w4 (.cells ((⟨k, 0, 40, F.take (32 * 40), []⟩ : Fr).c (.slice x1 40 y1) (.slice none 0 0)) 26))) (World.ownsRow_nil _ w.heap.size 26 4) (by decide) h2)
            have hn6 := Lib.hid h1
            clear h1 h2 h3
            refine Stop.go ?_
            go_wp2
            exact ⟨.inr ⟨rfl, hB6.out, x1, y1, hn6.out, ho6.out⟩, by simp only; omega⟩
          · obtain ⟨x1, y1, hn0, hi0⟩ := hf6
            have hB := Lib.hid hb6
            have hn1 := Lib.hid hn0
            have hi1 := Lib.hid hi0
            clear hb6 hn0 hi0
            dsimp only at hn1 hi1
            go_wp2_with (first
              | (go_at_call 23; (with_reducible refine (hfl.out _ hB.out).mono ?_); rintro e w4 ⟨x2, y2, rfl, q1, q2⟩; have hB4 := Lib.hid (hB.out.trans (q2.mono hB.out.size)); have ho1 := Lib.hid (q1.mono hB.out.size); have hi2 := Lib.hid (hi1.out.kept q2); have hn2 := Lib.hid (owns_kept hn1.out q2); clear q1 q2)
              | (refine appendG rfl _ _ 35 rfl w.heap.size 26 4 64 (.agg #[.int .u8 0, .int .u64 0, .slice none 0 0, .slice none 0 0]) Try.underlying35 (by kernel_rfl) rfl (by decide) (by decide) _ rfl 1 (((⟨k, 0, 40, F.take (32 * 40), []⟩ : Fr).c (.slice x1 40 y1) (.slice none 0 0))).toList (owns_kept hn2.out (below_a w4 (.cells ((⟨k, 0, D, F.drop (32 * 40), []⟩ : Fr).c (.slice x2 D y2) (.slice none 0 0)) 26))) w4.heap.size 1 1 rfl ((⟨k, 0, D, F.drop (32 * 40), []⟩ : Fr).c (.slice x2 D y2) (.slice none 0 0)) rfl 26 (heap_alloc_new w4 _) (fr_one _ _ _ _ _ _ _) (by decide) (by have := hB4.out.size; simp; omega) ?_))
            intro v6 w6 h1 h2 h3
            have hB6 := Lib.hid ((hB4.out.alloc hB4.out.size (.cells ((⟨k, 0, D, F.drop (32 * 40), []⟩ : Fr).c (.slice x2 D y2) (.slice none 0 0)) 26)).trans h3)
            have ho6 := Lib.hid (heldI_own_kept (ho1.out.kept (below_a w4 (.cells ((⟨k, 0, D, F.drop (32 * 40), []⟩ : Fr).c (.slice x2 D y2) (.slice none 0 0)) 26))) (owns_kept hn2.out (below_a w4 (.cells ((⟨k, 0, D, F.drop (32 * 40), []⟩ : Fr).c (.slice x2 D y2) (.slice none 0 0)) 26))) (by decide) h2)
            have hi6 := Lib.hid (heldI_own_kept (hi2.out.kept (below_a w4 (.cells ((⟨k, 0, D, F.drop (32 * 40), []⟩ : Fr).c (.slice x2 D y2) (.slice none 0 0)) 26))) (owns_kept hn2.out (below_a w4 (.cells ((⟨k, 0, D, F.drop (32 * 40), []⟩ : Fr).c (.slice x2 D y2) (.slice none 0 0)) 26))) (by decide) h2)
            have hn6 := Lib.hid h1
            clear h1 h2 h3
            refine Stop.go ?_
            go_wp2
            rw [hp'.out]
            refine ⟨hB6.out, ?_⟩
            rw [if_pos hk, if_pos h60, if_pos hri, hDh.out]
            exact ⟨_, rfl, .inr ⟨h41, x1, y1, x2, y2, hn6.out, hi6.out, ho6.out⟩⟩
  · have hp' := Lib.hid hp
    clear hr hp
    go_enter Try.func9, Try.ntmps9
    go_wp2_with (go_at_call 21; (with_reducible refine (hD.out _).mono ?_); rintro e w2 ⟨rfl, rfl⟩)
    rw [hp'.out]
    exact ⟨Below.refl _ _, by rw [if_pos hk, if_neg h60]; rfl⟩
end Go.Proofs.Ytfaojjleapenaab
namespace Go.Proofs.Ytfaojjleapenaab
open Go.RowKit Go.Ytfaojjleapenaab
set_option linter.unusedVariables false
theorem own_litI (w : World) : OwnI w.heap.size 47 (w.alloc (.cells #[] 47)) (.slice (some ⟨w.heap.size, 0, none⟩) 0 0) 0 [] :=
  ⟨rfl, .inr ⟨w.heap.size, 0, _, rfl, Nat.le_refl _, heap_alloc_new w _, Nat.le_refl _, by decide, rfl, rfl⟩⟩
theorem own_rowS {w : World} {B z : Nat} {E : TypeId} {v : Value} {m : Nat} {xs : List Value} (h : w.ownsRow B E z v m xs) : ∃ a c, v = .slice a m c := by
  rcases h.2 with ⟨rfl, rfl⟩ | ⟨g, cap, cur, rfl, _⟩
  · exact ⟨_, _, rfl⟩
  · exact ⟨_, _, rfl⟩
theorem rdI_cap2 {w : World} {a : Option Addr} {n c : Nat} {F : List Int} (h : RdI w (.slice a n c) n F) : n ≤ c := by
  rcases h with ⟨a', c', e, h1, h0, rfl⟩ | ⟨b', o', c', e, h1, _⟩
  · omega
  · cases e; exact h1
set_option maxHeartbeats 4000000 in
set_option maxRecDepth 100000 in
theorem rSplit_any (k : Int) (n : Nat) (hn : n ≤ 100000) (F : List Int) (hF : Bytes F) (v : Value) (w : World) (hr : RdI w v n F) :
    Calls Try.prog 10 #[v, .int .u8 k] w (splitPost k n F w) := by
  have hp : ∀ e w', splitPost k n F w e w' = (Below w.heap.size w w' ∧ (if idsK k = true then (if n ≤ 60 then (if riseF F n = true then
      (∃ v, e = .returned (.tuple #[v, .int .i64 0]) ∧ ((n ≤ 40 ∧ OneF w.heap.size w' v ⟨k, 0, n, F, []⟩) ∨ (40 < n ∧ TwoF w.heap.size w' v ⟨k, 0, 40, F.take (32 * 40), []⟩ ⟨k, 0, n - 40, F.drop (32 * 40), []⟩)))
    else e = .returned (.tuple #[.slice none 0 0, .int .i64 32])) else e = .returned (.tuple #[.slice none 0 0, .int .i64 4])) else e = .returned (.tuple #[.slice none 0 0, .int .i64 2]))) := fun _ _ => rfl
  generalize splitPost k n F w = PO at *
  have hD := Lib.hid (fun wz => listed_any k wz)
  obtain ⟨a, c, rfl⟩ := hr.slice
  cases hk : idsK k
  · rw [hk] at hD
    have hp' := Lib.hid hp
    clear hr hp hn
    go_enter Try.func10, Try.ntmps10
    go_wp2_with (go_at_call 24; (with_reducible refine (hD.out _).mono ?_); rintro e w2 ⟨rfl, rfl⟩)
    rw [hp'.out]
    exact ⟨Below.refl _ _, by rw [if_neg (by rw [hk]; decide)]; rfl⟩
  rw [hk] at hD
  by_cases h60 : n ≤ 60
  · have hI := Lib.hid (rising_any F n _ w hr hF hn)
    cases hri : riseF F n
    · rw [hri] at hI
      have hp' := Lib.hid hp
      clear hr hp hn
      go_enter Try.func10, Try.ntmps10
      go_wp2_with (first | (go_at_call 24; (with_reducible refine (hD.out _).mono ?_); rintro e w2 ⟨rfl, rfl⟩) | (go_at_call 25; (with_reducible refine (hI.out).mono ?_); rintro e w3 ⟨rfl, h3⟩; have hB := Lib.hid h3; clear h3))
      rw [hp'.out]
      exact ⟨hB.out, by rw [if_pos hk, if_pos h60, if_neg (by rw [hri]; decide)]; rfl⟩
    · rw [hri] at hI
      have hp' := Lib.hid hp
      have hrw := Lib.hid (fun (wz : World) (h : Below w.heap.size w wz) => hr.mono h)
      by_cases h40 : n ≤ 40
      · have hmin : min (40 : Int) (n : Int) = (n : Int) := by omega
        have hnc : n ≤ c := rdI_cap2 hr
        clear hn hr hp hF
        cases a with
        | none =>
          go_enter Try.func10, Try.ntmps10
          go_upto_region 9 with (first | (go_at_call 24; (with_reducible refine (hD.out _).mono ?_); rintro e w2 ⟨rfl, rfl⟩) | (go_at_call 25; (with_reducible refine (hI.out).mono ?_); rintro e w3 ⟨rfl, h3⟩; have hB := Lib.hid h3; clear h3))
          go_loopw [6, 7] (fun y i wr => Below w.heap.size w wr ∧ ((i = .int .i64 0 ∧ y = .slice none 0 0) ∨ (i = .int .i64 40 ∧ OneF w.heap.size wr y ⟨k, 0, n, F, []⟩))) (fun _ i _ => 100 - (intOf i).toNat)
          case atStart => exact ⟨hB.out, .inl ⟨rfl, rfl⟩⟩
          case round =>
            obtain ⟨hb, ⟨rfl, rfl⟩ | ⟨rfl, hf⟩⟩ := hrel
            · replace hB := Lib.hid hb
              clear hb
              go_wp2_with (refine appendIs rfl _ _ 23 rfl wr.heap.size 47 Try.underlying23 (by kernel_rfl) _ rfl 0 [] (own_litI wr) _ rfl n F (hrw.out _ (hB.out.trans ((below_a wr (.cells #[] 47)).mono hB.out.size))) (by omega) (by simp) ?_)
              intro v4 w4 h1 h2
              have hW4 := Lib.hid ((below_a wr (.cells #[] 47)).trans ((own_litI wr).below h2 (by simp)))
              have hB4 := Lib.hid (hB.out.trans (hW4.out.mono hB.out.size))
              obtain ⟨x1a, x1c, rfl⟩ := h1.rd.slice
              have ho1 := Lib.hid (h1.mono hB.out.size)
              clear h1 h2
              refine Stop.go ?_
              go_wp2_with (refine appendG rfl _ _ 35 rfl w.heap.size 26 4 64 (.agg #[.int .u8 0, .int .u64 0, .slice none 0 0, .slice none 0 0]) Try.underlying35 (by kernel_rfl) rfl (by decide) (by decide) _ rfl 0 [] (owns_kept (World.ownsRow_nil w4 w.heap.size 26 4) (below_a w4 (.cells ((⟨k, 0, n, F, []⟩ : Fr).c (.slice x1a n x1c) (.slice none 0 0)) 26))) w4.heap.size 1 1 rfl ((⟨k, 0, n, F, []⟩ : Fr).c (.slice x1a n x1c) (.slice none 0 0)) rfl 26 (heap_alloc_new w4 _) (fr_one _ _ _ _ _ _ _) (by decide) (by have := hB4.out.size; simp; omega) ?_)
              intro v6 w6 h1 h2 h3
              have hB6 := Lib.hid ((hB4.out.alloc hB4.out.size (.cells ((⟨k, 0, n, F, []⟩ : Fr).c (.slice x1a n x1c) (.slice none 0 0)) 26)).trans h3)
              have ho6 := Lib.hid (heldI_own_kept (ho1.out.kept (below_a w4 (.cells ((⟨k, 0, n, F, []⟩ : Fr).c (.slice x1a n x1c) (.slice none 0 0)) 26))) (World.ownsRow_nil _ w.heap.size 26 4) (by decide) h2)
              have hn6 := Lib.hid h1
              clear h1 h2 h3
              refine Stop.go ?_
              go_wp2
              exact ⟨⟨hB6.out, .inr ⟨by go_num, x1a, x1c, hn6.out, ho6.out⟩⟩, by simp [intOf]⟩
            · replace hB := Lib.hid hb
              have hf' := Lib.hid hf
              clear hb hf
              go_wp2
              rw [hp'.out]
              refine ⟨hB.out, ?_⟩
              rw [if_pos hk, if_pos h60, if_pos hri]
              exact ⟨_, rfl, .inl ⟨h40, hf'.out⟩⟩
        | some sa =>
          obtain ⟨sb, so, sp⟩ := sa
          go_enter Try.func10, Try.ntmps10
          go_upto_region 9 with (first | (go_at_call 24; (with_reducible refine (hD.out _).mono ?_); rintro e w2 ⟨rfl, rfl⟩) | (go_at_call 25; (with_reducible refine (hI.out).mono ?_); rintro e w3 ⟨rfl, h3⟩; have hB := Lib.hid h3; clear h3))
          go_loopw [6, 7] (fun y i wr => Below w.heap.size w wr ∧ ((i = .int .i64 0 ∧ y = .slice none 0 0) ∨ (i = .int .i64 40 ∧ OneF w.heap.size wr y ⟨k, 0, n, F, []⟩))) (fun _ i _ => 100 - (intOf i).toNat)
          case atStart => exact ⟨hB.out, .inl ⟨rfl, rfl⟩⟩
          case round =>
            obtain ⟨hb, ⟨rfl, rfl⟩ | ⟨rfl, hf⟩⟩ := hrel
            · replace hB := Lib.hid hb
              clear hb
              go_wp2_with (refine appendIs rfl _ _ 23 rfl wr.heap.size 47 Try.underlying23 (by kernel_rfl) _ rfl 0 [] (own_litI wr) _ rfl n F (hrw.out _ (hB.out.trans ((below_a wr (.cells #[] 47)).mono hB.out.size))) (by omega) (by simp) ?_)
              intro v4 w4 h1 h2
              have hW4 := Lib.hid ((below_a wr (.cells #[] 47)).trans ((own_litI wr).below h2 (by simp)))
              have hB4 := Lib.hid (hB.out.trans (hW4.out.mono hB.out.size))
              obtain ⟨x1a, x1c, rfl⟩ := h1.rd.slice
              have ho1 := Lib.hid (h1.mono hB.out.size)
              clear h1 h2
              refine Stop.go ?_
              go_wp2_with (refine appendG rfl _ _ 35 rfl w.heap.size 26 4 64 (.agg #[.int .u8 0, .int .u64 0, .slice none 0 0, .slice none 0 0]) Try.underlying35 (by kernel_rfl) rfl (by decide) (by decide) _ rfl 0 [] (owns_kept (World.ownsRow_nil w4 w.heap.size 26 4) (below_a w4 (.cells ((⟨k, 0, n, F, []⟩ : Fr).c (.slice x1a n x1c) (.slice none 0 0)) 26))) w4.heap.size 1 1 rfl ((⟨k, 0, n, F, []⟩ : Fr).c (.slice x1a n x1c) (.slice none 0 0)) rfl 26 (heap_alloc_new w4 _) (fr_one _ _ _ _ _ _ _) (by decide) (by have := hB4.out.size; simp; omega) ?_)
              intro v6 w6 h1 h2 h3
              have hB6 := Lib.hid ((hB4.out.alloc hB4.out.size (.cells ((⟨k, 0, n, F, []⟩ : Fr).c (.slice x1a n x1c) (.slice none 0 0)) 26)).trans h3)
              have ho6 := Lib.hid (heldI_own_kept (ho1.out.kept (below_a w4 (.cells ((⟨k, 0, n, F, []⟩ : Fr).c (.slice x1a n x1c) (.slice none 0 0)) 26))) (World.ownsRow_nil _ w.heap.size 26 4) (by decide) h2)
              have hn6 := Lib.hid h1
              clear h1 h2 h3
              refine Stop.go ?_
              go_wp2
              exact ⟨⟨hB6.out, .inr ⟨by go_num, x1a, x1c, hn6.out, ho6.out⟩⟩, by simp [intOf]⟩
            · replace hB := Lib.hid hb
              have hf' := Lib.hid hf
              clear hb hf
              go_wp2
              rw [hp'.out]
              refine ⟨hB.out, ?_⟩
              rw [if_pos hk, if_pos h60, if_pos hri]
              exact ⟨_, rfl, .inl ⟨h40, hf'.out⟩⟩
      · have h41 : 40 < n := by omega
        obtain ⟨b, o, rfl, hcap⟩ := rdI_some hr (by omega)
        have hcap3 : 40 ≤ c := by omega
        obtain ⟨D, hD'⟩ : ∃ D, n - 40 = D := ⟨_, rfl⟩
        have hDn : D ≤ 20 := by omega
        have hDh := Lib.hid hD'
        have hl1 := rdI_last hr 40 h41
        rw [hD'] at hl1
        have hfst := Lib.hid (fun (wz : World) (h : Below w.heap.size w wz) => (rdI_first hr 40 (by omega)).mono h)
        have hlst := Lib.hid (fun (wz : World) (h : Below w.heap.size w wz) => hl1.mono h)
        have hmin1 : min (40 : Int) (n : Int) = 40 := by omega
        have hmin2 : min (80 : Int) (n : Int) = (n : Int) := by omega
        have hto : ((n : Int) - 40).toNat = D := by omega
        clear hn hr hp hF hl1 hrw
        go_enter Try.func10, Try.ntmps10
        go_upto_region 9 with (first | (go_at_call 24; (with_reducible refine (hD.out _).mono ?_); rintro e w2 ⟨rfl, rfl⟩) | (go_at_call 25; (with_reducible refine (hI.out).mono ?_); rintro e w3 ⟨rfl, h3⟩; have hB := Lib.hid h3; clear h3))
        go_loopw [6, 7] (fun y i wr => Below w.heap.size w wr ∧ ((i = .int .i64 0 ∧ y = .slice none 0 0) ∨ (i = .int .i64 40 ∧ OneF w.heap.size wr y ⟨k, 0, 40, F.take (32 * 40), []⟩) ∨ (i = .int .i64 80 ∧ TwoF w.heap.size wr y ⟨k, 0, 40, F.take (32 * 40), []⟩ ⟨k, 0, D, F.drop (32 * 40), []⟩))) (fun _ i _ => 100 - (intOf i).toNat)
        case atStart => exact ⟨hB.out, .inl ⟨rfl, rfl⟩⟩
        case round =>
          obtain ⟨hb, ⟨rfl, rfl⟩ | ⟨rfl, hf⟩ | ⟨rfl, hf⟩⟩ := hrel
          · replace hB := Lib.hid hb
            clear hb
            go_wp2_with (refine appendIs rfl _ _ 23 rfl wr.heap.size 47 Try.underlying23 (by kernel_rfl) _ rfl 0 [] (own_litI wr) _ rfl 40 (F.take (32 * 40)) (hfst.out _ (hB.out.trans ((below_a wr (.cells #[] 47)).mono hB.out.size))) (by omega) (by simp) ?_)
            intro v4 w4 h1 h2
            have hW4 := Lib.hid ((below_a wr (.cells #[] 47)).trans ((own_litI wr).below h2 (by simp)))
            have hB4 := Lib.hid (hB.out.trans (hW4.out.mono hB.out.size))
            obtain ⟨x1a, x1c, rfl⟩ := h1.rd.slice
            have ho1 := Lib.hid (h1.mono hB.out.size)
            clear h1 h2
            refine Stop.go ?_
            go_wp2_with (refine appendG rfl _ _ 35 rfl w.heap.size 26 4 64 (.agg #[.int .u8 0, .int .u64 0, .slice none 0 0, .slice none 0 0]) Try.underlying35 (by kernel_rfl) rfl (by decide) (by decide) _ rfl 0 [] (owns_kept (World.ownsRow_nil w4 w.heap.size 26 4) (below_a w4 (.cells ((⟨k, 0, 40, (F.take (32 * 40)), []⟩ : Fr).c (.slice x1a 40 x1c) (.slice none 0 0)) 26))) w4.heap.size 1 1 rfl ((⟨k, 0, 40, (F.take (32 * 40)), []⟩ : Fr).c (.slice x1a 40 x1c) (.slice none 0 0)) rfl 26 (heap_alloc_new w4 _) (fr_one _ _ _ _ _ _ _) (by decide) (by have := hB4.out.size; simp; omega) ?_)
            intro v6 w6 h1 h2 h3
            have hB6 := Lib.hid ((hB4.out.alloc hB4.out.size (.cells ((⟨k, 0, 40, (F.take (32 * 40)), []⟩ : Fr).c (.slice x1a 40 x1c) (.slice none 0 0)) 26)).trans h3)
            have ho6 := Lib.hid (heldI_own_kept (ho1.out.kept (below_a w4 (.cells ((⟨k, 0, 40, F.take (32 * 40), []⟩ : Fr).c (.slice x1a 40 x1c) (.slice none 0 0)) 26))) (World.ownsRow_nil _ w.heap.size 26 4) (by decide) h2)
            have hn6 := Lib.hid h1
            clear h1 h2 h3
            refine Stop.go ?_
            go_wp2
            exact ⟨⟨hB6.out, .inr (.inl ⟨by go_num, x1a, x1c, hn6.out, ho6.out⟩)⟩, by simp [intOf]⟩
          · replace hB := Lib.hid hb
            obtain ⟨x0, y0, hn0, hi0⟩ := hf
            have hn1 := Lib.hid hn0
            have hi1 := Lib.hid hi0
            clear hb hn0 hi0
            dsimp only at hn1 hi1
            obtain ⟨ya, yc, rfl⟩ := own_rowS hn1.out
            go_wp2_with (refine appendIs rfl _ _ 23 rfl wr.heap.size 47 Try.underlying23 (by kernel_rfl) _ rfl 0 [] (own_litI wr) _ rfl D (F.drop (32 * 40)) (hlst.out _ (hB.out.trans ((below_a wr (.cells #[] 47)).mono hB.out.size))) (by omega) (by simp) ?_)
            intro v4 w4 h1 h2
            have hW4 := Lib.hid ((below_a wr (.cells #[] 47)).trans ((own_litI wr).below h2 (by simp)))
            have hB4 := Lib.hid (hB.out.trans (hW4.out.mono hB.out.size))
            obtain ⟨x2a, x2c, rfl⟩ := h1.rd.slice
            have ho1 := Lib.hid (h1.mono hB.out.size)
            have hn14 := Lib.hid (owns_kept hn1.out hW4.out)
            have hi14 := Lib.hid (hi1.out.kept hW4.out)
            clear h1 h2
            refine Stop.go ?_
            go_wp2_with (refine appendG rfl _ _ 35 rfl w.heap.size 26 4 64 (.agg #[.int .u8 0, .int .u64 0, .slice none 0 0, .slice none 0 0]) Try.underlying35 (by kernel_rfl) rfl (by decide) (by decide) _ rfl 1 ((⟨k, 0, 40, F.take (32 * 40), []⟩ : Fr).c (.slice x0 40 y0) (.slice none 0 0)).toList (owns_kept hn14.out (below_a w4 (.cells ((⟨k, 0, D, (F.drop (32 * 40)), []⟩ : Fr).c (.slice x2a D x2c) (.slice none 0 0)) 26))) w4.heap.size 1 1 rfl ((⟨k, 0, D, (F.drop (32 * 40)), []⟩ : Fr).c (.slice x2a D x2c) (.slice none 0 0)) rfl 26 (heap_alloc_new w4 _) (fr_one _ _ _ _ _ _ _) (by decide) (by have := hB4.out.size; simp; omega) ?_)
            intro v6 w6 h1 h2 h3
            have hB6 := Lib.hid ((hB4.out.alloc hB4.out.size (.cells ((⟨k, 0, D, (F.drop (32 * 40)), []⟩ : Fr).c (.slice x2a D x2c) (.slice none 0 0)) 26)).trans h3)
            have ho6 := Lib.hid (heldI_own_kept (ho1.out.kept (below_a w4 (.cells ((⟨k, 0, D, F.drop (32 * 40), []⟩ : Fr).c (.slice x2a D x2c) (.slice none 0 0)) 26))) (owns_kept hn14.out (below_a w4 (.cells ((⟨k, 0, D, F.drop (32 * 40), []⟩ : Fr).c (.slice x2a D x2c) (.slice none 0 0)) 26))) (by decide) h2)
            have hi6 := Lib.hid (heldI_own_kept (hi14.out.kept (below_a w4 (.cells ((⟨k, 0, D, F.drop (32 * 40), []⟩ : Fr).c (.slice x2a D x2c) (.slice none 0 0)) 26))) (owns_kept hn14.out (below_a w4 (.cells ((⟨k, 0, D, F.drop (32 * 40), []⟩ : Fr).c (.slice x2a D x2c) (.slice none 0 0)) 26))) (by decide) h2)
            have hn6 := Lib.hid h1
            clear h1 h2 h3
            refine Stop.go ?_
            go_wp2
            exact ⟨⟨hB6.out, .inr (.inr ⟨by go_num, x0, y0, x2a, x2c, hn6.out, hi6.out, ho6.out⟩)⟩, by simp [intOf]⟩
          · replace hB := Lib.hid hb
            have hf' := Lib.hid hf
            clear hb hf
            go_wp2
            rw [hp'.out]
            refine ⟨hB.out, ?_⟩
            rw [if_pos hk, if_pos h60, if_pos hri, hDh.out]
            exact ⟨_, rfl, .inr ⟨h41, hf'.out⟩⟩
  · have hp' := Lib.hid hp
    clear hr hp
    go_enter Try.func10, Try.ntmps10
    go_wp2_with (go_at_call 24; (with_reducible refine (hD.out _).mono ?_); rintro e w2 ⟨rfl, rfl⟩)
    rw [hp'.out]
    exact ⟨Below.refl _ _, by rw [if_pos hk, if_neg h60]; rfl⟩
end Go.Proofs.Ytfaojjleapenaab

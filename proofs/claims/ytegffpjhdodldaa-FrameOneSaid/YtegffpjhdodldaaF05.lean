/- Layer 7: contracts of package frame: the bytes of a frame. -/
import Derived.Test.YtegffpjhdodldaaF04
import Derived.Test.YtegffpjhdodldaaI05
namespace Go.Proofs.Ytegffpjhdodldaa
open Go.RowKit Go.Ytegffpjhdodldaa
set_option linter.unusedVariables false
theorem txts_len (L : List (List Int)) (h : ∀ i, (nthL L i).length ≤ 400) : ∀ k, (txts L k).length ≤ 409 * k
  | 0 => by simp [txts]
  | k + 1 => by
    have ih := txts_len L h k
    have h1 := h k
    have h2 := numL_le (nthL L k).length (by omega)
    rw [show txts L (k + 1) = txts L k ++ textB (nthL L k) from rfl, List.length_append, textB_length]
    omega
theorem okL_parts {L : List (List Int)} (h : okL L = true) : L.length ≤ 8 ∧ ∀ i, (nthL L i).length ≤ 400 := by
  unfold okL at h
  rw [Bool.and_eq_true, decide_eq_true_eq] at h
  exact ⟨h.1, okS_at h.2⟩
theorem own_byte (W : World) (x : Int) : OwnB W.heap.size 5 (W.alloc (.cells #[.int .u8 x] 5)) (.slice (some ⟨W.heap.size, 0, none⟩) 1 1) [x] :=
  ownB_row (cs := [x]) (heap_alloc_new W (.cells #[.int .u8 x] 5)) 1 rfl (by decide) (Nat.le_refl W.heap.size)
set_option maxHeartbeats 2000000 in
set_option maxRecDepth 100000 in
theorem write_any (f : Fr) (ff : f.Fit) (hp : partsB f = true) (iv ov : Value) (w : World) (hi : RdI w iv f.n f.F) (ho : RdS w ov f.L) :
    Calls Try.prog 28 #[.agg (f.c iv ov)] w fun e w' => ∃ sv, e = .returned sv ∧ OwnB w.heap.size 5 w' sv (frB f) ∧ Below w.heap.size w w' := by
  obtain ⟨W, hW⟩ : ∃ W, W = w.alloc (.cells (f.c iv ov) 26) := ⟨_, rfl⟩
  have hr0 := heap_alloc_new w (.cells (f.c iv ov) 26)
  have hb0 := (Below.refl w.heap.size w).alloc (Nat.le_refl _) (.cells (f.c iv ov) 26)
  rw [← hW] at hr0 hb0
  obtain ⟨ia, ic, rfl⟩ := hi.slice
  obtain ⟨oa, oc, rfl⟩ := ho.slice
  have hrow := Lib.hid hr0
  have hmids := Lib.hid (fun (wz : World) (h : Below W.heap.size W wz) => (cellsF (rowB hrow.out h (Array.getElem?_eq_some_iff.1 hr0).1)))
  obtain ⟨c0, c1, c2, c3⟩ := cellsF hr0
  have hb1 := Lib.hid hb0
  have hi' := Lib.hid (hi.mono hb0)
  have ho' := Lib.hid (ho.mono hb0)
  have hK := Lib.hid (fun wz => hasNumber_any f.k wz)
  have hD := Lib.hid (fun wz => hasIDs_any f.k wz)
  have ffh := Lib.hid ff
  have p1 := Lib.hid (fun h => (parts_num (f := f) h).symm.trans hp)
  have p2 := Lib.hid (fun h h2 => (parts_ids (f := f) h h2).symm.trans hp)
  have p3 := Lib.hid (fun h h2 => (parts_ops (f := f) h h2).symm.trans hp)
  have hfr := Lib.hid (show frB f = [f.k] ++ (if numK f.k = true then numB f.N else if idsK f.k = true then numB f.n ++ f.F else numB f.L.length ++ txts f.L f.L.length) from rfl)
  have hOw := Lib.hid (own_byte W f.k)
  have hBw := Lib.hid (below_a W (.cells #[.int .u8 f.k] 5))
  clear hr0 hb0 hi ho ff hp
  go_enter Try.func28, Try.ntmps28
  go_upto_region 1 with fail
  rw [← hW]
  clear hW
  go_upto_region 2 with fail
  generalize W.alloc (.cells #[.int .u8 f.k] 5) = W1 at *
  generalize Value.slice (some ⟨W.heap.size, 0, none⟩) 1 1 = sv at *
  obtain ⟨sa, sc, rfl⟩ := own_slice hOw.out 1 rfl
  replace c0 := (hmids.out _ hBw.out).1
  replace c1 := (hmids.out _ hBw.out).2.1
  replace c2 := (hmids.out _ hBw.out).2.2.1
  replace c3 := (hmids.out _ hBw.out).2.2.2
  cases hk : numK f.k
  · rw [hk] at hK hfr
    rw [if_neg (by decide)] at hfr
    replace p2 := Lib.hid (p2.out hk)
    replace p3 := Lib.hid (p3.out hk)
    cases hd : idsK f.k
    · rw [hd] at hD hfr
      rw [if_neg (by decide)] at hfr
      replace p3 := p3.out hd
      rw [Bool.and_eq_true, Bool.and_eq_true, Bool.and_eq_true] at p3
      obtain ⟨hl8, hl4⟩ := okL_parts p3.2.2.2
      have hnu := Lib.hid (fun (wz : World) => number_any f.L.length (by omega) wz)
      have hln := Lib.hid (numL_le f.L.length (by omega))
      have hlt := Lib.hid (txts_len f.L hl4)
      have h4 := Lib.hid hl4
      have hN0 := Lib.hid (numB_length f.L.length)
      have hu6 : IntKind.u64.wrap (f.L.length : Int) = (f.L.length : Int) := IntWalk.u64_in _ (by omega)
      clear p1 p2 p3 hk hd hl4
      generalize hm : f.L.length = m at *
      have hm' := Lib.hid hm
      clear hm
      go_upto_region 7 with (first
        | (go_at_call 39; (with_reducible refine (hK.out _).mono ?_); rintro e w2 ⟨rfl, rfl⟩)
        | (go_at_call 30; (with_reducible refine (hD.out _).mono ?_); rintro e w2 ⟨rfl, rfl⟩))
      go_wp2_with (first
        | (go_at_call 40; (with_reducible refine (hnu.out _).mono ?_); rintro e w4 ⟨rfl, q1, q2⟩; replace hOw := Lib.hid (hOw.out.kept q2); replace hBw := Lib.hid (hBw.out.trans (q2.mono hBw.out.size)); have hr := Lib.hid (rdB_row q1 _ (numB_length _) (Nat.le_trans hln.out (by decide))); clear q1 q2)
        | (refine appendB rfl _ _ 29 rfl W.heap.size 5 Try.underlying29 (by kernel_rfl) _ rfl [f.k] hOw.out _ rfl (numB m) hr.out (by rw [hN0.out, List.length_singleton]; have h1 := hln.out; omega) hBw.out.size ?_))
      intro v5 w5 h1 h2
      replace hBw := Lib.hid (hBw.out.trans (hOw.out.below h2 hBw.out.size))
      clear hOw hr h2 hnu
      have hOw := Lib.hid h1
      clear h1
      refine Stop.go ?_
      have c3 := (hmids.out _ hBw.out).2.2.2
      have hw5 := Lib.hid hBw.out.size
      go_wp2
      go_loopw [3, 45] (fun b i wr => ∃ k : Nat, k ≤ m ∧ i = .int .i64 k ∧ OwnB W.heap.size 5 wr b (([f.k] ++ numB m) ++ txts f.L k) ∧ Below W.heap.size W wr) (fun _ i _ => m - (intOf i).toNat)
      case atStart => exact ⟨0, Nat.zero_le _, rfl, by rw [show txts f.L 0 = [] from rfl, List.append_nil]; exact hOw.out, hBw.out⟩
      case round =>
        obtain ⟨k, hk, rfl, ho, hb⟩ := hrel
        obtain ⟨ba, bc, rfl⟩ := own_slice ho _ rfl
        have ho2 := Lib.hid ho
        have hb2 := Lib.hid hb
        obtain ⟨Z, hZ⟩ : ∃ Z, (([f.k] ++ numB m) ++ txts f.L k).length = Z := ⟨_, rfl⟩
        have hZ' := Lib.hid hZ
        have hZ2 : Z ≤ 4000 := by
          have h1 := hlt.out k
          have h2 := hln.out
          rw [← hZ, List.length_append, List.length_append, List.length_singleton, hN0.out]
          omega
        rw [hZ]
        clear ho hb hZ
        by_cases hlt2 : k < m
        · obtain ⟨b, o, rfl, hbw, s, hc, hs⟩ := ho'.out.at k (by rw [hm'.out]; exact hlt2)
          have hc2 := (hb2.out.cell (p := (⟨b, o + k, none⟩ : Addr)) hbw).trans hc
          have hs2 := Lib.hid (hs.mono hb2.out)
          obtain ⟨qa, qc, rfl⟩ := hs.slice
          have hby := Lib.hid (fun (wz : World) (h : RdB wz (.slice qa (nthL f.L k).length qc) (nthL f.L k)) => bytes_any _ _ wz h (Nat.le_trans (h4.out k) (by decide)))
          have htl := Lib.hid (show (textB (nthL f.L k)).length ≤ 409 by rw [textB_length]; have h1 := h4.out k; have h2 := numL_le (nthL f.L k).length (by omega); omega)
          clear hs hc
          go_wp2_with (first
            | (go_at_call 42; (with_reducible refine (hby.out _ hs2.out).mono ?_); rintro e w6 ⟨g6, rfl, q0, q1, q2⟩; have ho3 := Lib.hid (ho2.out.kept q2); have hb3 := Lib.hid (hb2.out.trans (q2.mono hb2.out.size)); have hr := Lib.hid (rdB_row q1 _ rfl (Nat.le_trans htl.out (by decide))); clear q0 q1 q2)
            | (refine appendB rfl _ _ 29 rfl W.heap.size 5 Try.underlying29 (by kernel_rfl) _ rfl (([f.k] ++ numB m) ++ txts f.L k) (by have h := ho3.out; rw [hZ'.out] at h; exact h) _ rfl (textB (nthL f.L k)) hr.out (by rw [hZ'.out]; have h1 := htl.out; omega) hb3.out.size ?_))
          intro v7 w7 h1 h2
          have hb4 := Lib.hid (hb3.out.trans ((by have h := ho3.out; rw [hZ'.out] at h; exact h : OwnB W.heap.size 5 w6 (.slice ba Z bc) (([f.k] ++ numB m) ++ txts f.L k)).below h2 hb3.out.size))
          have ho4 := Lib.hid (show OwnB W.heap.size 5 w7 v7 (([f.k] ++ numB m) ++ txts f.L (k + 1)) by rw [show (([f.k] ++ numB m) ++ txts f.L (k + 1)) = f.k :: (numB m ++ (txts f.L k ++ textB (nthL f.L k))) by simp [txts]]; exact h1)
          clear h1 h2 ho3 hb3 hr hby hs2
          refine Stop.go ?_
          go_wp2
          go_roundw
          case rel => exact ⟨k + 1, by omega, by go_num, ho4.out, hb4.out⟩
          case measure => simp [intOf]; omega
        · obtain rfl : k = m := by omega
          go_wp2
          go_ret
          exact ⟨_, rfl, by rw [hfr.out, ← List.append_assoc]; have h := ho2.out.mono hb1.out.size; rw [hZ'.out] at h; exact h, hb1.out.trans (hb2.out.mono hb1.out.size)⟩
    · rw [hd] at hD hfr
      rw [if_pos rfl] at hfr
      replace p2 := p2.out hd
      rw [Bool.and_eq_true, Bool.and_eq_true, Bool.and_eq_true, decide_eq_true_eq, decide_eq_true_eq, decide_eq_true_eq] at p2
      obtain ⟨_, _, hn, hri⟩ := p2
      have hid := Lib.hid (fun (wz : World) (h : Below W.heap.size W wz) => ids_ok f.F f.n (.slice ia f.n ic) wz (hi'.out.mono h) ffh.out.F (by omega) hri)
      have hln := Lib.hid (numL_le f.n (by omega))
      have hlF := Lib.hid ffh.out.len
      clear p1 p3 hk hd
      go_wp2_with (first
        | (go_at_call 39; (with_reducible refine (hK.out _).mono ?_); rintro e w2 ⟨rfl, rfl⟩)
        | (go_at_call 30; (with_reducible refine (hD.out _).mono ?_); rintro e w2 ⟨rfl, rfl⟩)
        | (go_at_call 41; (with_reducible refine (hid.out _ hBw.out).mono ?_); rintro e w4 ⟨g4, rfl, q0, q1, q2⟩; replace hOw := Lib.hid (hOw.out.kept q2); replace hBw := Lib.hid (hBw.out.trans (q2.mono hBw.out.size)); have hr := Lib.hid (rdB_row q1 _ (by rw [List.length_append, numB_length, hlF.out]) (by have h1 := hln.out; unfold maxLen; omega)); clear q0 q1 q2)
        | (refine appendB rfl _ _ 29 rfl W.heap.size 5 Try.underlying29 (by kernel_rfl) _ rfl [f.k] hOw.out _ rfl (numB f.n ++ f.F) hr.out (by rw [List.length_append, numB_length, hlF.out, List.length_singleton]; have h1 := hln.out; omega) hBw.out.size ?_))
      intro v5 w5 h1 h2
      replace hBw := Lib.hid (hBw.out.trans (hOw.out.below h2 hBw.out.size))
      refine Stop.go ?_
      go_wp2
      go_ret
      exact ⟨_, rfl, by rw [hfr.out]; exact h1.mono hb1.out.size, hb1.out.trans (hBw.out.mono hb1.out.size)⟩
  · rw [hk] at hK hfr
    rw [if_pos rfl] at hfr
    have hnu := Lib.hid (fun (wz : World) => number_any f.N ffh.out.N wz)
    have hln := Lib.hid (numL_le f.N ffh.out.N)
    clear p1 p2 p3 hk
    go_wp2_with (first
      | (go_at_call 39; (with_reducible refine (hK.out _).mono ?_); rintro e w2 ⟨rfl, rfl⟩)
      | (go_at_call 40; (with_reducible refine (hnu.out _).mono ?_); rintro e w4 ⟨rfl, q1, q2⟩; replace hOw := Lib.hid (hOw.out.kept q2); replace hBw := Lib.hid (hBw.out.trans (q2.mono hBw.out.size)); have hr := Lib.hid (rdB_row q1 _ (numB_length _) (Nat.le_trans hln.out (by decide))); clear q1 q2)
      | (refine appendB rfl _ _ 29 rfl W.heap.size 5 Try.underlying29 (by kernel_rfl) _ rfl [f.k] hOw.out _ rfl (numB f.N) hr.out (by rw [numB_length, List.length_singleton]; have h1 := hln.out; omega) hBw.out.size ?_))
    intro v5 w5 h1 h2
    replace hBw := Lib.hid (hBw.out.trans (hOw.out.below h2 hBw.out.size))
    refine Stop.go ?_
    go_wp2
    go_ret
    exact ⟨_, rfl, by rw [hfr.out]; exact h1.mono hb1.out.size, hb1.out.trans (hBw.out.mono hb1.out.size)⟩
end Go.Proofs.Ytegffpjhdodldaa

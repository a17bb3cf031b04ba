/- Layer 7: frames are compared: contract of the reference. -/
import Derived.Test.YtegffpjhdodldaaF09
namespace Go.Proofs.Ytegffpjhdodldaa
open Go.RowKit Go.Ytegffpjhdodldaa
set_option linter.unusedVariables false
def sameL (L M : List (List Int)) : Bool := decide (L = M)
def sameFr (f g : Fr) : Bool := decide (f.k = g.k) && (decide (f.N = g.N) && (sameF f.F g.F && sameL f.L g.L))
theorem sameFr_k {f g : Fr} (h : ¬ f.k = g.k) : sameFr f g = false := by unfold sameFr; rw [decide_eq_false h]; rfl
theorem sameFr_N {f g : Fr} (h : ¬ f.N = g.N) : sameFr f g = false := by unfold sameFr; rw [decide_eq_false h, Bool.false_and, Bool.and_false]
theorem sameFr_F {f g : Fr} (h : sameF f.F g.F = false) : sameFr f g = false := by unfold sameFr; rw [h, Bool.false_and, Bool.and_false, Bool.and_false]
theorem sameFr_L {f g : Fr} (h : ¬ f.L = g.L) : sameFr f g = false := by unfold sameFr sameL; rw [decide_eq_false h, Bool.and_false, Bool.and_false, Bool.and_false]
theorem sameFr_all {f g : Fr} (h1 : f.k = g.k) (h2 : f.N = g.N) (h3 : sameF f.F g.F = true) (h4 : f.L = g.L) : sameFr f g = true := by unfold sameFr sameL; rw [decide_eq_true h1, decide_eq_true h2, h3, decide_eq_true h4]; rfl
theorem nthL_ext {L M : List (List Int)} (hl : L.length = M.length) (h : ∀ i, i < L.length → nthL L i = nthL M i) : L = M := by
  apply List.ext_getElem hl
  intro i h1 h2
  have := h i h1
  unfold nthL at this
  rw [List.getElem?_eq_getElem h1, List.getElem?_eq_getElem h2] at this
  exact this
set_option maxHeartbeats 4000000 in
set_option maxRecDepth 100000 in
theorem sameFr_any (f g : Fr) (ff : f.n ≤ 100000) (fl : f.L.length ≤ 100000) (fs : ∀ i, (nthL f.L i).length ≤ 1000000) (iv ov jv pv : Value) (w : World) (hi : RdI w iv f.n f.F) (ho : RdS w ov f.L) (hj : RdI w jv g.n g.F) (hp : RdS w pv g.L) :
    Calls Try.prog 18 #[.agg (f.c iv ov), .agg (g.c jv pv)] w fun e w' => e = .returned (.bool (sameFr f g)) ∧ Below w.heap.size w w' := by
  obtain ⟨W, hW⟩ : ∃ W, W = (w.alloc (.cells (f.c iv ov) 26)).alloc (.cells (g.c jv pv) 26) := ⟨_, rfl⟩
  have hr0 : W.heap[w.heap.size]? = some (.cells (f.c iv ov) 26 (0, 0)) := by rw [hW]; exact rowB (heap_alloc_new w _) (below_a _ _) (by simp)
  have hr1 : W.heap[w.heap.size + 1]? = some (.cells (g.c jv pv) 26 (0, 0)) := by rw [hW]; exact hn2 w _ _
  have hb0 : Below w.heap.size w W := by rw [hW]; exact ((Below.refl w.heap.size w).alloc (Nat.le_refl _) _).alloc (by simp) _
  obtain ⟨ia, ic, rfl⟩ := hi.slice
  obtain ⟨oa, oc, rfl⟩ := ho.slice
  obtain ⟨ja, jc, rfl⟩ := hj.slice
  obtain ⟨pa, pc, rfl⟩ := hp.slice
  have hb1 := Lib.hid hb0
  have hlt := Lib.hid (Array.getElem?_eq_some_iff.1 hr0).1
  have hlt1 := Lib.hid (Array.getElem?_eq_some_iff.1 hr1).1
  have hrows := Lib.hid (fun (wz : World) (h : Below W.heap.size W wz) => cellsF (rowB hr0 h hlt.out))
  have hress := Lib.hid (fun (wz : World) (h : Below W.heap.size W wz) => cellsF (rowB hr1 h hlt1.out))
  obtain ⟨c0, c1, c2, c3⟩ := cellsF hr0
  obtain ⟨d0, d1, d2, d3⟩ := cellsF hr1
  have hI := Lib.hid (sameIDs_any f.n g.n f.F g.F _ _ W ff (hi.mono hb0) (hj.mono hb0))
  have hoW := Lib.hid (ho.mono hb0)
  have hpW := Lib.hid (hp.mono hb0)
  have hB := Lib.hid (Below.refl W.heap.size W)
  have hs' := Lib.hid fs
  have hl' := Lib.hid fl
  clear hr0 hr1 hb0 hi ho hj hp ff fs fl
  by_cases hk : f.k = g.k
  · by_cases hN : f.N = g.N
    · cases hF : sameF f.F g.F
      · have e := Lib.hid (sameFr_F hF)
        rw [hF] at hI
        clear hF
        generalize sameFr f g = R at *
        have k1 : (f.k != g.k) = false := by simpa using hk
        have k2 : ((f.N : Int) != (g.N : Int)) = false := by rw [hN]; simp
        clear hk hN
        go_enter Try.func18, Try.ntmps18
        go_upto_region 1 with fail
        rw [← hW]
        clear hW
        go_wp2_with (first
          | (go_at_call 24; (with_reducible refine (hI.out).mono ?_); rintro e w3 ⟨rfl, h3⟩; replace hB := Lib.hid (h3.below hB.out); clear h3 c0 c1 c2 c3 d0 d1 d2 d3; obtain ⟨c0, c1, c2, c3⟩ := hrows.out _ hB.out; obtain ⟨d0, d1, d2, d3⟩ := hress.out _ hB.out))
        go_ret
        exact ⟨ret_bool e.out.symm, hb1.out.trans (hB.out.mono hb1.out.size)⟩
      · rw [hF] at hI
        by_cases hm : f.L.length = g.L.length
        · have hyes := Lib.hid (fun h => sameFr_all hk hN hF (nthL_ext hm h))
          have hno := Lib.hid (fun h => sameFr_L (f := f) (g := g) h)
          clear hF
          generalize sameFr f g = R at *
          have k1 : (f.k != g.k) = false := by simpa using hk
          have k2 : ((f.N : Int) != (g.N : Int)) = false := by rw [hN]; simp
          clear hk hN
          generalize hm1 : f.L.length = m at *
          rw [← hm] at hpW hress d3 hW ⊢
          have hm1' := Lib.hid hm1
          have hm' := Lib.hid hm
          clear hm1 hm
          have k3 : ((m : Int) != (m : Int)) = false := by simp
          go_enter Try.func18, Try.ntmps18
          go_upto_region 1 with fail
          rw [← hW]
          clear hW
          go_upto_region 3 with (first
  | (go_at_call 24; (with_reducible refine (hI.out).mono ?_); rintro e w3 ⟨rfl, h3⟩; replace hB := Lib.hid (h3.below hB.out); clear h3 c0 c1 c2 c3 d0 d1 d2 d3; obtain ⟨c0, c1, c2, c3⟩ := hrows.out _ hB.out; obtain ⟨d0, d1, d2, d3⟩ := hress.out _ hB.out))
          have hz1 := Lib.hid hB.out.size
          have hm5 := hl'.out
          go_wp2
          go_loopw [5] (fun i wr => ∃ k : Nat, k ≤ m ∧ i = .int .i64 k ∧ Below W.heap.size W wr ∧ ∀ j, j < k → nthL f.L j = nthL g.L j) (fun i _ => m - (intOf i).toNat)
          case atStart => exact ⟨0, Nat.zero_le _, rfl, hB.out, fun j hj => absurd hj (Nat.not_lt_zero _)⟩
          case round =>
            obtain ⟨k, hk, rfl, hb, he⟩ := hrel
            have hBr := Lib.hid hb
            have he' := Lib.hid he
            obtain ⟨a0, a1, a2, a3⟩ := hrows.out _ hb
            clear hb he
            by_cases hlt2 : k < m
            · obtain ⟨xb, xo, rfl, xlt, s, hcx, hsx⟩ := (hoW.out.mono hBr.out).at k (by rw [hm1'.out]; exact hlt2)
              obtain ⟨yb, yo, rfl, ylt, s2, hcy, hsy⟩ := (hpW.out.mono hBr.out).at k (by rw [← hm'.out]; exact hlt2)
              obtain ⟨qa, qc, rfl⟩ := hsx.slice
              obtain ⟨ra, rc, rfl⟩ := hsy.slice
              replace xlt := Lib.hid xlt
              replace ylt := Lib.hid ylt
              replace hcx := Lib.hid hcx
              replace hcy := Lib.hid hcy
              have hSB := Lib.hid (fun (wz : World) (h : Below wr.heap.size wr wz) => (same_any _ _ (nthL f.L k) (nthL g.L k) wz (Nat.le_trans (hs'.out k) (by decide)) (hsx.mono h) (hsy.mono h)).mono fun e w' ⟨h1, h2⟩ => (show e = Ending.returned (.bool (sameF (nthL f.L k) (nthL g.L k))) ∧ Below wz.heap.size wz w' from ⟨h1, h2.below (Below.refl _ _)⟩))
              clear hsx hsy
              obtain ⟨RB, hRB⟩ : ∃ RB, sameF (nthL f.L k) (nthL g.L k) = RB := ⟨_, rfl⟩
              rw [hRB] at hSB
              have hRB' := Lib.hid hRB
              clear hRB
              have hBr' := hBr
              go_upto_region 6 with fail
              refine wp_region_quiet (C := fun w' => Below wr.heap.size wr w') (by kernel_rfl) (by kernel_rfl) ((Below.refl _ _).drew) ?_
              simp only []
              (go_big_quiet_want; go_big_quiet_op; first | go_big_quiet_on | (refine ⟨_, fun _ _ => rfl, ?_⟩; go_big_quiet_on))
              refine wpq (.slice (some ⟨xb, xo, none⟩) m oc) rfl (quiet_cell 24 _ rfl w.heap.size 3 rfl (.slice (some ⟨xb, xo, none⟩) m oc) (fun wz h => (hrows.out wz (hBr'.out.trans (h.mono hBr'.out.size))).2.2.2) Try.isAgg24) rfl (fun K hK => ?_); go_simp; refine hK _ ?_; clear hK K
              (go_big_quiet_want; go_big_quiet_op; first | go_big_quiet_on | (refine ⟨_, fun _ _ => rfl, ?_⟩; go_big_quiet_on))
              (go_big_quiet_want; go_big_quiet_op; first | go_big_quiet_on | (refine ⟨_, fun _ _ => rfl, ?_⟩; go_big_quiet_on))
              refine wpq (.slice qa (nthL f.L k).length qc) rfl (quiet_cell 29 _ rfl xb (xo + k) rfl (.slice qa (nthL f.L k).length qc) (fun wz h => (h.cell (p := (⟨xb, xo + k, none⟩ : Addr)) xlt.out).trans hcx.out) Try.isAgg29) rfl (fun K hK => ?_); go_simp; refine hK _ ?_; clear hK K
              (go_big_quiet_want; go_big_quiet_op; first | go_big_quiet_on | (refine ⟨_, fun _ _ => rfl, ?_⟩; go_big_quiet_on))
              refine wpq (.slice (some ⟨yb, yo, none⟩) m pc) rfl (quiet_cell 24 _ rfl (w.heap.size + 1) 3 rfl (.slice (some ⟨yb, yo, none⟩) m pc) (fun wz h => (hress.out wz (hBr'.out.trans (h.mono hBr'.out.size))).2.2.2) Try.isAgg24) rfl (fun K hK => ?_); go_simp; refine hK _ ?_; clear hK K
              (go_big_quiet_want; go_big_quiet_op; first | go_big_quiet_on | (refine ⟨_, fun _ _ => rfl, ?_⟩; go_big_quiet_on))
              (go_big_quiet_want; go_big_quiet_op; first | go_big_quiet_on | (refine ⟨_, fun _ _ => rfl, ?_⟩; go_big_quiet_on))
              refine wpq (.slice ra (nthL g.L k).length rc) rfl (quiet_cell 29 _ rfl yb (yo + k) rfl (.slice ra (nthL g.L k).length rc) (fun wz h => (h.cell (p := (⟨yb, yo + k, none⟩ : Addr)) ylt.out).trans hcy.out) Try.isAgg29) rfl (fun K hK => ?_); go_simp; refine hK _ ?_; clear hK K
              refine wpq (.bool RB) rfl (quiet_call2 rfl Try.func17 (by kernel_rfl) rfl (.slice qa (nthL f.L k).length qc) (.slice ra (nthL g.L k).length rc) (.bool RB) rfl rfl rfl (fun w h => (hSB.out w h).mono fun e w' ⟨he, hb⟩ => ⟨he, h.trans (hb.mono h.size)⟩)) rfl (fun K hK => ?_); go_simp; refine hK _ ?_; clear hK K
              (go_big_quiet_want; go_big_quiet_op; first | go_big_quiet_on | (refine ⟨_, fun _ _ => rfl, ?_⟩; go_big_quiet_on))
              refine wpQuiet_nil ?_
              intro w9 h9
              have hB9 := Lib.hid (hBr.out.trans (h9.mono hBr.out.size))
              clear h9
              cases RB
              · have hh := Lib.hid (hno.out (fun h => by have h2 := hRB'.out; rw [h, sameF_self] at h2; cases h2))
                go_wp2
                go_ret
                exact ⟨ret_bool hh.out.symm, hb1.out.trans (hB9.out.mono hb1.out.size)⟩
              · have hh := Lib.hid (show ∀ j, j < k + 1 → nthL f.L j = nthL g.L j from fun j hj => by
                  rcases Nat.lt_or_ge j k with h1 | h1
                  · exact he'.out j h1
                  · obtain rfl : j = k := by omega
                    exact of_decide_eq_true hRB'.out)
                go_wp2
                go_roundw
                case rel => exact ⟨k + 1, by omega, by go_num, hB9.out, hh.out⟩
                case measure => simp [intOf]; omega
            · have hh := Lib.hid (hyes.out (fun i hi => he'.out i (by omega)))
              go_wp2
              go_ret
              exact ⟨ret_bool hh.out.symm, hb1.out.trans (hBr.out.mono hb1.out.size)⟩
        · have e := Lib.hid (sameFr_L (f := f) (g := g) (fun h => hm (by rw [h])))
          clear hF
          generalize sameFr f g = R at *
          have k1 : (f.k != g.k) = false := by simpa using hk
          have k2 : ((f.N : Int) != (g.N : Int)) = false := by rw [hN]; simp
          clear hk hN
          generalize f.L.length = m at *
          generalize g.L.length = m' at *
          have k3 : ((m : Int) != (m' : Int)) = true := by simp only [bne_iff_ne, ne_eq]; omega
          clear hm
          go_enter Try.func18, Try.ntmps18
          go_upto_region 1 with fail
          rw [← hW]
          clear hW
          go_wp2_with (first
            | (go_at_call 24; (with_reducible refine (hI.out).mono ?_); rintro e w3 ⟨rfl, h3⟩; replace hB := Lib.hid (h3.below hB.out); clear h3 c0 c1 c2 c3 d0 d1 d2 d3; obtain ⟨c0, c1, c2, c3⟩ := hrows.out _ hB.out; obtain ⟨d0, d1, d2, d3⟩ := hress.out _ hB.out))
          go_ret
          exact ⟨ret_bool e.out.symm, hb1.out.trans (hB.out.mono hb1.out.size)⟩
    · have e := Lib.hid (sameFr_N (f := f) (g := g) hN)
      generalize sameFr f g = R at *
      have k1 : (f.k != g.k) = false := by simpa using hk
      have k2 : ((f.N : Int) != (g.N : Int)) = true := by simp only [bne_iff_ne, ne_eq]; omega
      clear hk hN
      go_enter Try.func18, Try.ntmps18
      go_upto_region 1 with fail
      rw [← hW]
      clear hW
      go_wp2_with (first
        | (go_at_call 24; (with_reducible refine (hI.out).mono ?_); rintro e w3 ⟨rfl, h3⟩; replace hB := Lib.hid (h3.below hB.out); clear h3 c0 c1 c2 c3 d0 d1 d2 d3; obtain ⟨c0, c1, c2, c3⟩ := hrows.out _ hB.out; obtain ⟨d0, d1, d2, d3⟩ := hress.out _ hB.out))
      go_ret
      exact ⟨ret_bool e.out.symm, hb1.out.trans (hB.out.mono hb1.out.size)⟩
  · have e := Lib.hid (sameFr_k (f := f) (g := g) hk)
    generalize sameFr f g = R at *
    have k1 : (f.k != g.k) = true := by simpa using hk
    clear hk
    go_enter Try.func18, Try.ntmps18
    go_upto_region 1 with fail
    rw [← hW]
    clear hW
    go_wp2_with (first
      | (go_at_call 24; (with_reducible refine (hI.out).mono ?_); rintro e w3 ⟨rfl, h3⟩; replace hB := Lib.hid (h3.below hB.out); clear h3 c0 c1 c2 c3 d0 d1 d2 d3; obtain ⟨c0, c1, c2, c3⟩ := hrows.out _ hB.out; obtain ⟨d0, d1, d2, d3⟩ := hress.out _ hB.out))
    go_ret
    exact ⟨ret_bool e.out.symm, hb1.out.trans (hB.out.mono hb1.out.size)⟩
end Go.Proofs.Ytegffpjhdodldaa

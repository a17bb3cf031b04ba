/- Layer 7: Check and Encode: contracts of the reference. -/
import Derived.Test.YtegffpjhdodldaaF11
namespace Go.Proofs.Ytegffpjhdodldaa
open Go.RowKit Go.Ytegffpjhdodldaa
set_option linter.unusedVariables false
set_option maxHeartbeats 8000000 in
set_option maxRecDepth 100000 in
theorem rCheckF_any (f : Fr) (ff : f.Fit) (iv ov : Value) (w : World) (hi : RdI w iv f.n f.F) (ho : RdS w ov f.L) :
    Calls Try.prog 16 #[.agg (f.c iv ov)] w fun e w' => e = .returned (.int .i64 (chkR f)) ∧ Below w.heap.size w w' := by
  obtain ⟨W, hW⟩ : ∃ W, W = w.alloc (.cells (f.c iv ov) 26) := ⟨_, rfl⟩
  have hr0 := heap_alloc_new w (.cells (f.c iv ov) 26)
  have hb0 := (Below.refl w.heap.size w).alloc (Nat.le_refl _) (.cells (f.c iv ov) 26)
  rw [← hW] at hr0 hb0
  obtain ⟨ia, ic, rfl⟩ := hi.slice
  obtain ⟨oa, oc, rfl⟩ := ho.slice
  have hlt := (Array.getElem?_eq_some_iff.1 hr0).1
  have hrows := Lib.hid (fun (wz : World) (h : Below W.heap.size W wz) => rowB hr0 h hlt)
  have hmids := Lib.hid (fun (wz : World) (h : Below W.heap.size W wz) => cellsF (rowB hr0 h hlt))
  obtain ⟨c0, c1, c2, c3⟩ := cellsF hr0
  have hb1 := Lib.hid hb0
  have hB := Lib.hid (Below.refl W.heap.size W)
  have hI := Lib.hid (fun (wz : World) (h : Below W.heap.size W wz) => rising_any f.F f.n _ wz ((hi.mono hb0).mono h) ff.F ff.n)
  have hD := Lib.hid (fun wz => listed_any f.k wz)
  have hoW := Lib.hid (ho.mono hb0)
  have hBy := Lib.hid (fun (hp : partsB f = true) (wz : World) (h : Below W.heap.size W wz) => rBytesF_any f ff hp _ _ wz ((hi.mono hb0).mono h) ((ho.mono hb0).mono h))
  have hbad := Lib.hid (fun h => chkR_no (f := f) h)
  have hlong := Lib.hid (fun h => chkR_long (f := f) h)
  have hok := Lib.hid (fun h h2 => chkR_ok (f := f) h h2)
  have p1 := Lib.hid (fun h => parts_num (f := f) h)
  have p2 := Lib.hid (fun h h2 => parts_ids (f := f) h h2)
  have p3 := Lib.hid (fun h h2 => parts_ops (f := f) h h2)
  have hl' := Lib.hid ff.l
  have hn' := Lib.hid ff.n
  obtain ⟨Z, hZ⟩ : ∃ Z, (frB f).length = Z := ⟨_, rfl⟩
  rw [hZ] at hlong hok
  have hZ' := Lib.hid hZ
  clear hr0 hb0 hi ho ff hZ
  generalize chkR f = R at *
  obtain ⟨k, N, n, F, L⟩ := f
  dsimp only at *
  generalize hm : L.length = m at *
  have hm' := Lib.hid hm
  clear hm
  by_cases hk : k = 1 ∨ k = 6
  · replace p1 := Lib.hid (p1.out (by rcases hk with rfl | rfl <;> rfl))
    clear p2 p3
    by_cases hn : n = 0
    · subst hn
      have hrf : riseF F 0 = true := rfl
      rw [hrf] at hI
      clear hrf
      by_cases hm : m = 0
      · have hpt := Lib.hid (show okS L = true → partsB ⟨k, N, 0, F, L⟩ = true from fun _ => by rw [p1.out, decide_eq_true hm]; rfl)
        have hpf := Lib.hid (show okS L = false → R = 8 from fun h => by
          have h0 : L = [] := nil_of_len (hm'.out.trans hm)
          rw [h0] at h; cases h)
        have hm0 : ¬ (0 : Int) < (m : Int) := by omega
        clear p1 hbad hm
        rcases hk with rfl | rfl
        · go_enter Try.func16, Try.ntmps16
          go_upto_region 1 with fail
          rw [← hW]
          clear hW
          go_upto_region 8 with (first
            | (go_at_call 22; (with_reducible refine (hD.out _).mono ?_); rintro e w2 ⟨rfl, rfl⟩)
            | (go_at_call 23; (with_reducible refine (hI.out _ hB.out).mono ?_); rintro e w3 ⟨rfl, h3⟩; replace hB := Lib.hid (hB.out.trans (Below.mono h3 hB.out.size)); clear h3 c0 c1 c2 c3; obtain ⟨c0, c1, c2, c3⟩ := hmids.out _ hB.out))
          go_wp2
          have hm5 := hl'.out
          go_loopw [4] (fun i wr => ∃ k : Nat, k ≤ m ∧ i = .int .i64 k ∧ Below W.heap.size W wr ∧ ∀ j, j < k → (nthL L j).length ≤ 400) (fun i _ => m - (intOf i).toNat)
          case atStart => exact ⟨0, Nat.zero_le _, rfl, hB.out, fun j hj => absurd hj (Nat.not_lt_zero _)⟩
          case round =>
            obtain ⟨k, hk, rfl, hb, he⟩ := hrel
            have hBr := Lib.hid hb
            have he' := Lib.hid he
            clear c0 c1 c2 c3
            obtain ⟨c0, c1, c2, c3⟩ := hmids.out _ hb
            clear hb he
            by_cases hlt : k < m
            · exfalso; omega
            · have hp := hpt.out (okS_yes (fun i hi => he'.out i (by rw [hm'.out] at hi; omega)))
              have hby2 := Lib.hid (hBy.out hp)
              by_cases hZ : 2000 < Z
              · have hh := Lib.hid (hlong.out hZ)
                clear hp
                go_wp2_with (first
                  | (refine wpList_load_row_g rfl 26 _ rfl w.heap.size rfl 26 ((⟨1, N, 0, F, L⟩ : Fr).c (.slice ia 0 ic) (.slice oa m oc)) (0, 0) _ (hrows.out _ hBr.out) Try.underlying26 rfl info_frame ?_)
                  | (go_at_call 29; (with_reducible refine (hby2.out _ hBr.out).mono ?_); rintro e w3 ⟨sv, rfl, hO, h3⟩; obtain ⟨sa, sc, rfl⟩ := own_slice hO _ hZ'.out; clear hO; replace hBr := Lib.hid (hBr.out.trans (Below.mono h3 hBr.out.size)); clear h3))
                go_ret
                exact ⟨ret_int hh.out.symm, hb1.out.trans (hBr.out.mono hb1.out.size)⟩
              · have hh := Lib.hid (hok.out hp (by omega))
                clear hp
                go_wp2_with (first
                  | (refine wpList_load_row_g rfl 26 _ rfl w.heap.size rfl 26 ((⟨1, N, 0, F, L⟩ : Fr).c (.slice ia 0 ic) (.slice oa m oc)) (0, 0) _ (hrows.out _ hBr.out) Try.underlying26 rfl info_frame ?_)
                  | (go_at_call 29; (with_reducible refine (hby2.out _ hBr.out).mono ?_); rintro e w3 ⟨sv, rfl, hO, h3⟩; obtain ⟨sa, sc, rfl⟩ := own_slice hO _ hZ'.out; clear hO; replace hBr := Lib.hid (hBr.out.trans (Below.mono h3 hBr.out.size)); clear h3))
                go_ret
                exact ⟨ret_int hh.out.symm, hb1.out.trans (hBr.out.mono hb1.out.size)⟩
        · go_enter Try.func16, Try.ntmps16
          go_upto_region 1 with fail
          rw [← hW]
          clear hW
          go_upto_region 8 with (first
            | (go_at_call 22; (with_reducible refine (hD.out _).mono ?_); rintro e w2 ⟨rfl, rfl⟩)
            | (go_at_call 23; (with_reducible refine (hI.out _ hB.out).mono ?_); rintro e w3 ⟨rfl, h3⟩; replace hB := Lib.hid (hB.out.trans (Below.mono h3 hB.out.size)); clear h3 c0 c1 c2 c3; obtain ⟨c0, c1, c2, c3⟩ := hmids.out _ hB.out))
          go_wp2
          have hm5 := hl'.out
          go_loopw [4] (fun i wr => ∃ k : Nat, k ≤ m ∧ i = .int .i64 k ∧ Below W.heap.size W wr ∧ ∀ j, j < k → (nthL L j).length ≤ 400) (fun i _ => m - (intOf i).toNat)
          case atStart => exact ⟨0, Nat.zero_le _, rfl, hB.out, fun j hj => absurd hj (Nat.not_lt_zero _)⟩
          case round =>
            obtain ⟨k, hk, rfl, hb, he⟩ := hrel
            have hBr := Lib.hid hb
            have he' := Lib.hid he
            clear c0 c1 c2 c3
            obtain ⟨c0, c1, c2, c3⟩ := hmids.out _ hb
            clear hb he
            by_cases hlt : k < m
            · exfalso; omega
            · have hp := hpt.out (okS_yes (fun i hi => he'.out i (by rw [hm'.out] at hi; omega)))
              have hby2 := Lib.hid (hBy.out hp)
              by_cases hZ : 2000 < Z
              · have hh := Lib.hid (hlong.out hZ)
                clear hp
                go_wp2_with (first
                  | (refine wpList_load_row_g rfl 26 _ rfl w.heap.size rfl 26 ((⟨6, N, 0, F, L⟩ : Fr).c (.slice ia 0 ic) (.slice oa m oc)) (0, 0) _ (hrows.out _ hBr.out) Try.underlying26 rfl info_frame ?_)
                  | (go_at_call 29; (with_reducible refine (hby2.out _ hBr.out).mono ?_); rintro e w3 ⟨sv, rfl, hO, h3⟩; obtain ⟨sa, sc, rfl⟩ := own_slice hO _ hZ'.out; clear hO; replace hBr := Lib.hid (hBr.out.trans (Below.mono h3 hBr.out.size)); clear h3))
                go_ret
                exact ⟨ret_int hh.out.symm, hb1.out.trans (hBr.out.mono hb1.out.size)⟩
              · have hh := Lib.hid (hok.out hp (by omega))
                clear hp
                go_wp2_with (first
                  | (refine wpList_load_row_g rfl 26 _ rfl w.heap.size rfl 26 ((⟨6, N, 0, F, L⟩ : Fr).c (.slice ia 0 ic) (.slice oa m oc)) (0, 0) _ (hrows.out _ hBr.out) Try.underlying26 rfl info_frame ?_)
                  | (go_at_call 29; (with_reducible refine (hby2.out _ hBr.out).mono ?_); rintro e w3 ⟨sv, rfl, hO, h3⟩; obtain ⟨sa, sc, rfl⟩ := own_slice hO _ hZ'.out; clear hO; replace hBr := Lib.hid (hBr.out.trans (Below.mono h3 hBr.out.size)); clear h3))
                go_ret
                exact ⟨ret_int hh.out.symm, hb1.out.trans (hBr.out.mono hb1.out.size)⟩
      · have e := Lib.hid (hbad.out (by rw [p1.out, decide_eq_false hm, Bool.and_false]))
        have hm0 : (0 : Int) < (m : Int) := by omega
        clear p1 hm
        rcases hk with rfl | rfl
        all_goals
          go_enter Try.func16, Try.ntmps16
          go_upto_region 1 with fail
          rw [← hW]
          clear hW
          go_wp2_with (first
            | (go_at_call 22; (with_reducible refine (hD.out _).mono ?_); rintro e w2 ⟨rfl, rfl⟩)
            | (go_at_call 23; (with_reducible refine (hI.out _ hB.out).mono ?_); rintro e w3 ⟨rfl, h3⟩; replace hB := Lib.hid (hB.out.trans (Below.mono h3 hB.out.size)); clear h3 c0 c1 c2 c3; obtain ⟨c0, c1, c2, c3⟩ := hmids.out _ hB.out))
          go_ret
          exact ⟨ret_int e.out.symm, hb1.out.trans (hB.out.mono hb1.out.size)⟩
    · have e := Lib.hid (hbad.out (by rw [p1.out, decide_eq_false hn]; rfl))
      have hn0 : (0 : Int) < (n : Int) := by omega
      clear p1 hn
      rcases hk with rfl | rfl
      all_goals
        go_enter Try.func16, Try.ntmps16
        go_upto_region 1 with fail
        rw [← hW]
        clear hW
        go_wp2_with (first
          | (go_at_call 22; (with_reducible refine (hD.out _).mono ?_); rintro e w2 ⟨rfl, rfl⟩)
          | (go_at_call 23; (with_reducible refine (hI.out _ hB.out).mono ?_); rintro e w3 ⟨rfl, h3⟩; replace hB := Lib.hid (hB.out.trans (Below.mono h3 hB.out.size)); clear h3 c0 c1 c2 c3; obtain ⟨c0, c1, c2, c3⟩ := hmids.out _ hB.out))
        go_ret
        exact ⟨ret_int e.out.symm, hb1.out.trans (hB.out.mono hb1.out.size)⟩
  by_cases hk2 : k = 2 ∨ k = 3 ∨ k = 4
  · replace p2 := Lib.hid (p2.out (by rcases hk2 with rfl | rfl | rfl <;> rfl) (by rcases hk2 with rfl | rfl | rfl <;> rfl))
    clear p1 p3 hk
    by_cases hN : N = 0
    · subst hN
      by_cases hm : m = 0
      · have hm0 : ¬ (0 : Int) < (m : Int) := by omega
        by_cases hn : n ≤ 40
        · have hn1 : ¬ (40 : Int) < (n : Int) := by omega
          cases hri : riseF F n
          · have e := Lib.hid (hbad.out (by rw [p2.out, hri, Bool.and_false, Bool.and_false, Bool.and_false]))
            rw [hri] at hI
            clear p2 hri hm hn
            rcases hk2 with rfl | rfl | rfl
            all_goals
              go_enter Try.func16, Try.ntmps16
              go_upto_region 1 with fail
              rw [← hW]
              clear hW
              go_wp2_with (first
                | (go_at_call 22; (with_reducible refine (hD.out _).mono ?_); rintro e w2 ⟨rfl, rfl⟩)
                | (go_at_call 23; (with_reducible refine (hI.out _ hB.out).mono ?_); rintro e w3 ⟨rfl, h3⟩; replace hB := Lib.hid (hB.out.trans (Below.mono h3 hB.out.size)); clear h3 c0 c1 c2 c3; obtain ⟨c0, c1, c2, c3⟩ := hmids.out _ hB.out))
              go_ret
              exact ⟨ret_int e.out.symm, hb1.out.trans (hB.out.mono hb1.out.size)⟩
          · rw [hri] at hI
            have hpt := Lib.hid (show okS L = true → partsB ⟨k, 0, n, F, L⟩ = true from fun _ => by rw [p2.out, decide_eq_true hm, decide_eq_true hn, hri]; rfl)
            have hpf := Lib.hid (show okS L = false → R = 8 from fun h => by
              have h0 : L = [] := nil_of_len (hm'.out.trans hm)
              rw [h0] at h; cases h)
            clear p2 hri hbad hm hn
            rcases hk2 with rfl | rfl | rfl
            · go_enter Try.func16, Try.ntmps16
              go_upto_region 1 with fail
              rw [← hW]
              clear hW
              go_upto_region 8 with (first
                | (go_at_call 22; (with_reducible refine (hD.out _).mono ?_); rintro e w2 ⟨rfl, rfl⟩)
                | (go_at_call 23; (with_reducible refine (hI.out _ hB.out).mono ?_); rintro e w3 ⟨rfl, h3⟩; replace hB := Lib.hid (hB.out.trans (Below.mono h3 hB.out.size)); clear h3 c0 c1 c2 c3; obtain ⟨c0, c1, c2, c3⟩ := hmids.out _ hB.out))
              go_wp2
              have hm5 := hl'.out
              go_loopw [4] (fun i wr => ∃ k : Nat, k ≤ m ∧ i = .int .i64 k ∧ Below W.heap.size W wr ∧ ∀ j, j < k → (nthL L j).length ≤ 400) (fun i _ => m - (intOf i).toNat)
              case atStart => exact ⟨0, Nat.zero_le _, rfl, hB.out, fun j hj => absurd hj (Nat.not_lt_zero _)⟩
              case round =>
                obtain ⟨k, hk, rfl, hb, he⟩ := hrel
                have hBr := Lib.hid hb
                have he' := Lib.hid he
                clear c0 c1 c2 c3
                obtain ⟨c0, c1, c2, c3⟩ := hmids.out _ hb
                clear hb he
                by_cases hlt : k < m
                · exfalso; omega
                · have hp := hpt.out (okS_yes (fun i hi => he'.out i (by rw [hm'.out] at hi; omega)))
                  have hby2 := Lib.hid (hBy.out hp)
                  by_cases hZ : 2000 < Z
                  · have hh := Lib.hid (hlong.out hZ)
                    clear hp
                    go_wp2_with (first
                      | (refine wpList_load_row_g rfl 26 _ rfl w.heap.size rfl 26 ((⟨2, 0, n, F, L⟩ : Fr).c (.slice ia n ic) (.slice oa m oc)) (0, 0) _ (hrows.out _ hBr.out) Try.underlying26 rfl info_frame ?_)
                      | (go_at_call 29; (with_reducible refine (hby2.out _ hBr.out).mono ?_); rintro e w3 ⟨sv, rfl, hO, h3⟩; obtain ⟨sa, sc, rfl⟩ := own_slice hO _ hZ'.out; clear hO; replace hBr := Lib.hid (hBr.out.trans (Below.mono h3 hBr.out.size)); clear h3))
                    go_ret
                    exact ⟨ret_int hh.out.symm, hb1.out.trans (hBr.out.mono hb1.out.size)⟩
                  · have hh := Lib.hid (hok.out hp (by omega))
                    clear hp
                    go_wp2_with (first
                      | (refine wpList_load_row_g rfl 26 _ rfl w.heap.size rfl 26 ((⟨2, 0, n, F, L⟩ : Fr).c (.slice ia n ic) (.slice oa m oc)) (0, 0) _ (hrows.out _ hBr.out) Try.underlying26 rfl info_frame ?_)
                      | (go_at_call 29; (with_reducible refine (hby2.out _ hBr.out).mono ?_); rintro e w3 ⟨sv, rfl, hO, h3⟩; obtain ⟨sa, sc, rfl⟩ := own_slice hO _ hZ'.out; clear hO; replace hBr := Lib.hid (hBr.out.trans (Below.mono h3 hBr.out.size)); clear h3))
                    go_ret
                    exact ⟨ret_int hh.out.symm, hb1.out.trans (hBr.out.mono hb1.out.size)⟩
            · go_enter Try.func16, Try.ntmps16
              go_upto_region 1 with fail
              rw [← hW]
              clear hW
              go_upto_region 8 with (first
                | (go_at_call 22; (with_reducible refine (hD.out _).mono ?_); rintro e w2 ⟨rfl, rfl⟩)
                | (go_at_call 23; (with_reducible refine (hI.out _ hB.out).mono ?_); rintro e w3 ⟨rfl, h3⟩; replace hB := Lib.hid (hB.out.trans (Below.mono h3 hB.out.size)); clear h3 c0 c1 c2 c3; obtain ⟨c0, c1, c2, c3⟩ := hmids.out _ hB.out))
              go_wp2
              have hm5 := hl'.out
              go_loopw [4] (fun i wr => ∃ k : Nat, k ≤ m ∧ i = .int .i64 k ∧ Below W.heap.size W wr ∧ ∀ j, j < k → (nthL L j).length ≤ 400) (fun i _ => m - (intOf i).toNat)
              case atStart => exact ⟨0, Nat.zero_le _, rfl, hB.out, fun j hj => absurd hj (Nat.not_lt_zero _)⟩
              case round =>
                obtain ⟨k, hk, rfl, hb, he⟩ := hrel
                have hBr := Lib.hid hb
                have he' := Lib.hid he
                clear c0 c1 c2 c3
                obtain ⟨c0, c1, c2, c3⟩ := hmids.out _ hb
                clear hb he
                by_cases hlt : k < m
                · exfalso; omega
                · have hp := hpt.out (okS_yes (fun i hi => he'.out i (by rw [hm'.out] at hi; omega)))
                  have hby2 := Lib.hid (hBy.out hp)
                  by_cases hZ : 2000 < Z
                  · have hh := Lib.hid (hlong.out hZ)
                    clear hp
                    go_wp2_with (first
                      | (refine wpList_load_row_g rfl 26 _ rfl w.heap.size rfl 26 ((⟨3, 0, n, F, L⟩ : Fr).c (.slice ia n ic) (.slice oa m oc)) (0, 0) _ (hrows.out _ hBr.out) Try.underlying26 rfl info_frame ?_)
                      | (go_at_call 29; (with_reducible refine (hby2.out _ hBr.out).mono ?_); rintro e w3 ⟨sv, rfl, hO, h3⟩; obtain ⟨sa, sc, rfl⟩ := own_slice hO _ hZ'.out; clear hO; replace hBr := Lib.hid (hBr.out.trans (Below.mono h3 hBr.out.size)); clear h3))
                    go_ret
                    exact ⟨ret_int hh.out.symm, hb1.out.trans (hBr.out.mono hb1.out.size)⟩
                  · have hh := Lib.hid (hok.out hp (by omega))
                    clear hp
                    go_wp2_with (first
                      | (refine wpList_load_row_g rfl 26 _ rfl w.heap.size rfl 26 ((⟨3, 0, n, F, L⟩ : Fr).c (.slice ia n ic) (.slice oa m oc)) (0, 0) _ (hrows.out _ hBr.out) Try.underlying26 rfl info_frame ?_)
                      | (go_at_call 29; (with_reducible refine (hby2.out _ hBr.out).mono ?_); rintro e w3 ⟨sv, rfl, hO, h3⟩; obtain ⟨sa, sc, rfl⟩ := own_slice hO _ hZ'.out; clear hO; replace hBr := Lib.hid (hBr.out.trans (Below.mono h3 hBr.out.size)); clear h3))
                    go_ret
                    exact ⟨ret_int hh.out.symm, hb1.out.trans (hBr.out.mono hb1.out.size)⟩
            · go_enter Try.func16, Try.ntmps16
              go_upto_region 1 with fail
              rw [← hW]
              clear hW
              go_upto_region 8 with (first
                | (go_at_call 22; (with_reducible refine (hD.out _).mono ?_); rintro e w2 ⟨rfl, rfl⟩)
                | (go_at_call 23; (with_reducible refine (hI.out _ hB.out).mono ?_); rintro e w3 ⟨rfl, h3⟩; replace hB := Lib.hid (hB.out.trans (Below.mono h3 hB.out.size)); clear h3 c0 c1 c2 c3; obtain ⟨c0, c1, c2, c3⟩ := hmids.out _ hB.out))
              go_wp2
              have hm5 := hl'.out
              go_loopw [4] (fun i wr => ∃ k : Nat, k ≤ m ∧ i = .int .i64 k ∧ Below W.heap.size W wr ∧ ∀ j, j < k → (nthL L j).length ≤ 400) (fun i _ => m - (intOf i).toNat)
              case atStart => exact ⟨0, Nat.zero_le _, rfl, hB.out, fun j hj => absurd hj (Nat.not_lt_zero _)⟩
              case round =>
                obtain ⟨k, hk, rfl, hb, he⟩ := hrel
                have hBr := Lib.hid hb
                have he' := Lib.hid he
                clear c0 c1 c2 c3
                obtain ⟨c0, c1, c2, c3⟩ := hmids.out _ hb
                clear hb he
                by_cases hlt : k < m
                · exfalso; omega
                · have hp := hpt.out (okS_yes (fun i hi => he'.out i (by rw [hm'.out] at hi; omega)))
                  have hby2 := Lib.hid (hBy.out hp)
                  by_cases hZ : 2000 < Z
                  · have hh := Lib.hid (hlong.out hZ)
                    clear hp
                    go_wp2_with (first
                      | (refine wpList_load_row_g rfl 26 _ rfl w.heap.size rfl 26 ((⟨4, 0, n, F, L⟩ : Fr).c (.slice ia n ic) (.slice oa m oc)) (0, 0) _ (hrows.out _ hBr.out) Try.underlying26 rfl info_frame ?_)
                      | (go_at_call 29; (with_reducible refine (hby2.out _ hBr.out).mono ?_); rintro e w3 ⟨sv, rfl, hO, h3⟩; obtain ⟨sa, sc, rfl⟩ := own_slice hO _ hZ'.out; clear hO; replace hBr := Lib.hid (hBr.out.trans (Below.mono h3 hBr.out.size)); clear h3))
                    go_ret
                    exact ⟨ret_int hh.out.symm, hb1.out.trans (hBr.out.mono hb1.out.size)⟩
                  · have hh := Lib.hid (hok.out hp (by omega))
                    clear hp
                    go_wp2_with (first
                      | (refine wpList_load_row_g rfl 26 _ rfl w.heap.size rfl 26 ((⟨4, 0, n, F, L⟩ : Fr).c (.slice ia n ic) (.slice oa m oc)) (0, 0) _ (hrows.out _ hBr.out) Try.underlying26 rfl info_frame ?_)
                      | (go_at_call 29; (with_reducible refine (hby2.out _ hBr.out).mono ?_); rintro e w3 ⟨sv, rfl, hO, h3⟩; obtain ⟨sa, sc, rfl⟩ := own_slice hO _ hZ'.out; clear hO; replace hBr := Lib.hid (hBr.out.trans (Below.mono h3 hBr.out.size)); clear h3))
                    go_ret
                    exact ⟨ret_int hh.out.symm, hb1.out.trans (hBr.out.mono hb1.out.size)⟩
        · have hn1 : (40 : Int) < (n : Int) := by omega
          have e := Lib.hid (hbad.out (by rw [p2.out, decide_eq_false hn, Bool.false_and, Bool.and_false, Bool.and_false]))
          clear p2 hn hm
          rcases hk2 with rfl | rfl | rfl
          all_goals
            go_enter Try.func16, Try.ntmps16
            go_upto_region 1 with fail
            rw [← hW]
            clear hW
            go_wp2_with (first
              | (go_at_call 22; (with_reducible refine (hD.out _).mono ?_); rintro e w2 ⟨rfl, rfl⟩)
              | (go_at_call 23; (with_reducible refine (hI.out _ hB.out).mono ?_); rintro e w3 ⟨rfl, h3⟩; replace hB := Lib.hid (hB.out.trans (Below.mono h3 hB.out.size)); clear h3 c0 c1 c2 c3; obtain ⟨c0, c1, c2, c3⟩ := hmids.out _ hB.out))
            go_ret
            exact ⟨ret_int e.out.symm, hb1.out.trans (hB.out.mono hb1.out.size)⟩
      · have e := Lib.hid (hbad.out (by rw [p2.out, decide_eq_false hm, Bool.false_and, Bool.and_false]))
        have hm0 : (0 : Int) < (m : Int) := by omega
        clear p2 hm
        rcases hk2 with rfl | rfl | rfl
        all_goals
          go_enter Try.func16, Try.ntmps16
          go_upto_region 1 with fail
          rw [← hW]
          clear hW
          go_wp2_with (first
            | (go_at_call 22; (with_reducible refine (hD.out _).mono ?_); rintro e w2 ⟨rfl, rfl⟩)
            | (go_at_call 23; (with_reducible refine (hI.out _ hB.out).mono ?_); rintro e w3 ⟨rfl, h3⟩; replace hB := Lib.hid (hB.out.trans (Below.mono h3 hB.out.size)); clear h3 c0 c1 c2 c3; obtain ⟨c0, c1, c2, c3⟩ := hmids.out _ hB.out))
          go_ret
          exact ⟨ret_int e.out.symm, hb1.out.trans (hB.out.mono hb1.out.size)⟩
    · have e := Lib.hid (hbad.out (by rw [p2.out, decide_eq_false hN]; rfl))
      have hN0 : ((N : Int) != 0) = true := by simp only [bne_iff_ne, ne_eq]; omega
      clear p2 hN
      rcases hk2 with rfl | rfl | rfl
      all_goals
        go_enter Try.func16, Try.ntmps16
        go_upto_region 1 with fail
        rw [← hW]
        clear hW
        go_wp2_with (first
          | (go_at_call 22; (with_reducible refine (hD.out _).mono ?_); rintro e w2 ⟨rfl, rfl⟩)
          | (go_at_call 23; (with_reducible refine (hI.out _ hB.out).mono ?_); rintro e w3 ⟨rfl, h3⟩; replace hB := Lib.hid (hB.out.trans (Below.mono h3 hB.out.size)); clear h3 c0 c1 c2 c3; obtain ⟨c0, c1, c2, c3⟩ := hmids.out _ hB.out))
        go_ret
        exact ⟨ret_int e.out.symm, hb1.out.trans (hB.out.mono hb1.out.size)⟩
  by_cases hk5 : k = 5
  · subst hk5
    replace p3 := Lib.hid (p3.out rfl rfl)
    clear p1 p2 hk hk2
    by_cases hN : N = 0
    · subst hN
      by_cases hn : n = 0
      · subst hn
        have hrf : riseF F 0 = true := rfl
        rw [hrf] at hI
        clear hrf
        by_cases hm : m ≤ 8
        · have hpt := Lib.hid (show okS L = true → partsB ⟨5, 0, 0, F, L⟩ = true from fun h => by rw [p3.out]; unfold okL; rw [hm'.out, decide_eq_true hm, h]; rfl)
          have hpf := Lib.hid (show okS L = false → R = 8 from fun h => hbad.out (by rw [p3.out]; unfold okL; rw [h, Bool.and_false, Bool.and_false, Bool.and_false, Bool.and_false]))
          have hm8 : ¬ (8 : Int) < (m : Int) := by omega
          clear p3 hbad hm
          go_enter Try.func16, Try.ntmps16
          go_upto_region 1 with fail
          rw [← hW]
          clear hW
          go_upto_region 8 with (first
            | (go_at_call 22; (with_reducible refine (hD.out _).mono ?_); rintro e w2 ⟨rfl, rfl⟩)
            | (go_at_call 23; (with_reducible refine (hI.out _ hB.out).mono ?_); rintro e w3 ⟨rfl, h3⟩; replace hB := Lib.hid (hB.out.trans (Below.mono h3 hB.out.size)); clear h3 c0 c1 c2 c3; obtain ⟨c0, c1, c2, c3⟩ := hmids.out _ hB.out))
          go_wp2
          have hm5 := hl'.out
          go_loopw [4] (fun i wr => ∃ k : Nat, k ≤ m ∧ i = .int .i64 k ∧ Below W.heap.size W wr ∧ ∀ j, j < k → (nthL L j).length ≤ 400) (fun i _ => m - (intOf i).toNat)
          case atStart => exact ⟨0, Nat.zero_le _, rfl, hB.out, fun j hj => absurd hj (Nat.not_lt_zero _)⟩
          case round =>
            obtain ⟨k, hk, rfl, hb, he⟩ := hrel
            have hBr := Lib.hid hb
            have he' := Lib.hid he
            clear c0 c1 c2 c3
            obtain ⟨c0, c1, c2, c3⟩ := hmids.out _ hb
            clear hb he
            by_cases hlt : k < m
            · obtain ⟨b, o, rfl, hbw, s, hc, hs⟩ := (hoW.out.mono hBr.out).at k (by rw [hm'.out]; exact hlt)
              obtain ⟨qa, qc, rfl⟩ := hs.slice
              obtain ⟨M, hM⟩ : ∃ M, (nthL L k).length = M := ⟨_, rfl⟩
              have hM' := Lib.hid hM
              rw [hM] at hc
              clear hs hM
              by_cases h4 : M ≤ 400
              · have hh := Lib.hid (show ∀ j, j < k + 1 → (nthL L j).length ≤ 400 from fun j hj => by
                  rcases Nat.lt_or_ge j k with h1 | h1
                  · exact he'.out j h1
                  · obtain rfl : j = k := by omega
                    rw [hM'.out]; exact h4)
                go_wp2
                go_roundw
                case rel => exact ⟨k + 1, by omega, by go_num, hBr.out, hh.out⟩
                case measure => simp [intOf]; omega
              · have hh := Lib.hid (hpf.out (okS_no k (by rw [hM'.out]; omega)))
                go_wp2
                go_ret
                exact ⟨ret_int hh.out.symm, hb1.out.trans (hBr.out.mono hb1.out.size)⟩
            · have hp := hpt.out (okS_yes (fun i hi => he'.out i (by rw [hm'.out] at hi; omega)))
              have hby2 := Lib.hid (hBy.out hp)
              by_cases hZ : 2000 < Z
              · have hh := Lib.hid (hlong.out hZ)
                clear hp
                go_wp2_with (first
                  | (refine wpList_load_row_g rfl 26 _ rfl w.heap.size rfl 26 ((⟨5, 0, 0, F, L⟩ : Fr).c (.slice ia 0 ic) (.slice oa m oc)) (0, 0) _ (hrows.out _ hBr.out) Try.underlying26 rfl info_frame ?_)
                  | (go_at_call 29; (with_reducible refine (hby2.out _ hBr.out).mono ?_); rintro e w3 ⟨sv, rfl, hO, h3⟩; obtain ⟨sa, sc, rfl⟩ := own_slice hO _ hZ'.out; clear hO; replace hBr := Lib.hid (hBr.out.trans (Below.mono h3 hBr.out.size)); clear h3))
                go_ret
                exact ⟨ret_int hh.out.symm, hb1.out.trans (hBr.out.mono hb1.out.size)⟩
              · have hh := Lib.hid (hok.out hp (by omega))
                clear hp
                go_wp2_with (first
                  | (refine wpList_load_row_g rfl 26 _ rfl w.heap.size rfl 26 ((⟨5, 0, 0, F, L⟩ : Fr).c (.slice ia 0 ic) (.slice oa m oc)) (0, 0) _ (hrows.out _ hBr.out) Try.underlying26 rfl info_frame ?_)
                  | (go_at_call 29; (with_reducible refine (hby2.out _ hBr.out).mono ?_); rintro e w3 ⟨sv, rfl, hO, h3⟩; obtain ⟨sa, sc, rfl⟩ := own_slice hO _ hZ'.out; clear hO; replace hBr := Lib.hid (hBr.out.trans (Below.mono h3 hBr.out.size)); clear h3))
                go_ret
                exact ⟨ret_int hh.out.symm, hb1.out.trans (hBr.out.mono hb1.out.size)⟩
        · have e := Lib.hid (hbad.out (by rw [p3.out]; unfold okL; rw [hm'.out, decide_eq_false hm, Bool.false_and, Bool.and_false, Bool.and_false, Bool.and_false]))
          have hm8 : (8 : Int) < (m : Int) := by omega
          clear p3 hm
          go_enter Try.func16, Try.ntmps16
          go_upto_region 1 with fail
          rw [← hW]
          clear hW
          go_wp2_with (first
            | (go_at_call 22; (with_reducible refine (hD.out _).mono ?_); rintro e w2 ⟨rfl, rfl⟩)
            | (go_at_call 23; (with_reducible refine (hI.out _ hB.out).mono ?_); rintro e w3 ⟨rfl, h3⟩; replace hB := Lib.hid (hB.out.trans (Below.mono h3 hB.out.size)); clear h3 c0 c1 c2 c3; obtain ⟨c0, c1, c2, c3⟩ := hmids.out _ hB.out))
          go_ret
          exact ⟨ret_int e.out.symm, hb1.out.trans (hB.out.mono hb1.out.size)⟩
      · have e := Lib.hid (hbad.out (by rw [p3.out, decide_eq_false hn, Bool.false_and, Bool.and_false, Bool.and_false]))
        have hn0 : (0 : Int) < (n : Int) := by omega
        clear p3 hn
        go_enter Try.func16, Try.ntmps16
        go_upto_region 1 with fail
        rw [← hW]
        clear hW
        go_wp2_with (first
          | (go_at_call 22; (with_reducible refine (hD.out _).mono ?_); rintro e w2 ⟨rfl, rfl⟩)
          | (go_at_call 23; (with_reducible refine (hI.out _ hB.out).mono ?_); rintro e w3 ⟨rfl, h3⟩; replace hB := Lib.hid (hB.out.trans (Below.mono h3 hB.out.size)); clear h3 c0 c1 c2 c3; obtain ⟨c0, c1, c2, c3⟩ := hmids.out _ hB.out))
        go_ret
        exact ⟨ret_int e.out.symm, hb1.out.trans (hB.out.mono hb1.out.size)⟩
    · have e := Lib.hid (hbad.out (by rw [p3.out, decide_eq_false hN, Bool.false_and, Bool.and_false]))
      have hN0 : ((N : Int) != 0) = true := by simp only [bne_iff_ne, ne_eq]; omega
      clear p3 hN
      go_enter Try.func16, Try.ntmps16
      go_upto_region 1 with fail
      rw [← hW]
      clear hW
      go_wp2_with (first
        | (go_at_call 22; (with_reducible refine (hD.out _).mono ?_); rintro e w2 ⟨rfl, rfl⟩)
        | (go_at_call 23; (with_reducible refine (hI.out _ hB.out).mono ?_); rintro e w3 ⟨rfl, h3⟩; replace hB := Lib.hid (hB.out.trans (Below.mono h3 hB.out.size)); clear h3 c0 c1 c2 c3; obtain ⟨c0, c1, c2, c3⟩ := hmids.out _ hB.out))
      go_ret
      exact ⟨ret_int e.out.symm, hb1.out.trans (hB.out.mono hb1.out.size)⟩
  · have hd1 : numK k = false := by unfold numK; rw [decide_eq_false (fun h => hk (.inl h)), decide_eq_false (fun h => hk (.inr h))]; rfl
    have hd2 : idsK k = false := by unfold idsK; rw [decide_eq_false (fun h => hk2 (.inl h)), decide_eq_false (fun h => hk2 (.inr (.inl h))), decide_eq_false (fun h => hk2 (.inr (.inr h)))]; rfl
    have e := Lib.hid (hbad.out (by rw [p3.out hd1 hd2, decide_eq_false hk5]; rfl))
    clear p1 p2 p3
    by_cases h1 : k < 1
    · clear hk hk2 hk5 hd1 hd2 hD
      go_enter Try.func16, Try.ntmps16
      go_upto_region 1 with fail
      rw [← hW]
      clear hW
      go_wp2_with (first
        | (go_at_call 22; (with_reducible refine (hD.out _).mono ?_); rintro e w2 ⟨rfl, rfl⟩)
        | (go_at_call 23; (with_reducible refine (hI.out _ hB.out).mono ?_); rintro e w3 ⟨rfl, h3⟩; replace hB := Lib.hid (hB.out.trans (Below.mono h3 hB.out.size)); clear h3 c0 c1 c2 c3; obtain ⟨c0, c1, c2, c3⟩ := hmids.out _ hB.out))
      go_ret
      exact ⟨ret_int e.out.symm, hb1.out.trans (hB.out.mono hb1.out.size)⟩
    · have h6 : (6 : Int) < k := by omega
      clear hk hk2 hk5 hd1 hd2 hD
      go_enter Try.func16, Try.ntmps16
      go_upto_region 1 with fail
      rw [← hW]
      clear hW
      go_wp2_with (first
        | (go_at_call 22; (with_reducible refine (hD.out _).mono ?_); rintro e w2 ⟨rfl, rfl⟩)
        | (go_at_call 23; (with_reducible refine (hI.out _ hB.out).mono ?_); rintro e w3 ⟨rfl, h3⟩; replace hB := Lib.hid (hB.out.trans (Below.mono h3 hB.out.size)); clear h3 c0 c1 c2 c3; obtain ⟨c0, c1, c2, c3⟩ := hmids.out _ hB.out))
      go_ret
      exact ⟨ret_int e.out.symm, hb1.out.trans (hB.out.mono hb1.out.size)⟩
set_option maxHeartbeats 2000000 in
set_option maxRecDepth 100000 in
theorem rEncodeF_ok (f : Fr) (ff : f.Fit) (h0 : frOk f = true) (iv ov : Value) (w : World) (hi : RdI w iv f.n f.F) (ho : RdS w ov f.L) :
    Calls Try.prog 12 #[.agg (f.c iv ov)] w fun e w' => ∃ sv, e = .returned (.tuple #[sv, .int .i64 0]) ∧ OwnB w.heap.size 5 w' sv (frB f) ∧ Below w.heap.size w w' := by
  obtain ⟨W, hW⟩ : ∃ W, W = w.alloc (.cells (f.c iv ov) 26) := ⟨_, rfl⟩
  have hr0 := heap_alloc_new w (.cells (f.c iv ov) 26)
  have hb0 := (Below.refl w.heap.size w).alloc (Nat.le_refl _) (.cells (f.c iv ov) 26)
  rw [← hW] at hr0 hb0
  obtain ⟨ia, ic, rfl⟩ := hi.slice
  obtain ⟨oa, oc, rfl⟩ := ho.slice
  have hlt := (Array.getElem?_eq_some_iff.1 hr0).1
  have hrows := Lib.hid (fun (wz : World) (h : Below W.heap.size W wz) => rowB hr0 h hlt)
  have hb1 := Lib.hid hb0
  have hB := Lib.hid (Below.refl W.heap.size W)
  have hC := Lib.hid (fun (wz : World) (h : Below W.heap.size W wz) => rCheckF_any f ff _ _ wz ((hi.mono hb0).mono h) ((ho.mono hb0).mono h))
  have hw := Lib.hid (fun (wz : World) (h : Below W.heap.size W wz) => rBytesF_any f ff (frOk_parts h0).1 _ _ wz ((hi.mono hb0).mono h) ((ho.mono hb0).mono h))
  rw [chkR_yes h0] at hC
  clear hr0 hb0 hi ho ff h0
  go_enter Try.func12, Try.ntmps12
  go_upto_region 1 with fail
  rw [← hW]
  clear hW
  go_wp2_with (first | (refine wpList_load_row_g rfl 26 _ rfl w.heap.size rfl 26 (f.c (.slice ia f.n ic) (.slice oa f.L.length oc)) (0, 0) _ (hrows.out _ hB.out) Try.underlying26 rfl info_frame ?_) | (go_at_call 16; (with_reducible refine (hC.out _ hB.out).mono ?_); rintro e w3 ⟨rfl, h3⟩; replace hB := Lib.hid (hB.out.trans (Below.mono h3 hB.out.size)); clear h3) | (go_at_call 29; (with_reducible refine (hw.out _ hB.out).mono ?_); rintro e w3 ⟨sv, rfl, hO, h3⟩; replace hO := Lib.hid (hO.mono (Nat.le_trans hb1.out.size hB.out.size)); replace hB := Lib.hid (hB.out.trans (Below.mono h3 hB.out.size)); clear h3))
  go_ret2
  exact ⟨_, rfl, hO.out, hb1.out.trans (hB.out.mono hb1.out.size)⟩
set_option maxHeartbeats 2000000 in
set_option maxRecDepth 100000 in
theorem rEncodeF_bad (f : Fr) (ff : f.Fit) (h0 : frOk f = false) (iv ov : Value) (w : World) (hi : RdI w iv f.n f.F) (ho : RdS w ov f.L) :
    Calls Try.prog 12 #[.agg (f.c iv ov)] w fun e w' => e = .returned (.tuple #[.slice none 0 0, .int .i64 8]) ∧ Below w.heap.size w w' := by
  obtain ⟨W, hW⟩ : ∃ W, W = w.alloc (.cells (f.c iv ov) 26) := ⟨_, rfl⟩
  have hr0 := heap_alloc_new w (.cells (f.c iv ov) 26)
  have hb0 := (Below.refl w.heap.size w).alloc (Nat.le_refl _) (.cells (f.c iv ov) 26)
  rw [← hW] at hr0 hb0
  obtain ⟨ia, ic, rfl⟩ := hi.slice
  obtain ⟨oa, oc, rfl⟩ := ho.slice
  have hlt := (Array.getElem?_eq_some_iff.1 hr0).1
  have hrows := Lib.hid (fun (wz : World) (h : Below W.heap.size W wz) => rowB hr0 h hlt)
  have hb1 := Lib.hid hb0
  have hB := Lib.hid (Below.refl W.heap.size W)
  have hC := Lib.hid (fun (wz : World) (h : Below W.heap.size W wz) => rCheckF_any f ff _ _ wz ((hi.mono hb0).mono h) ((ho.mono hb0).mono h))
  rw [chkR_not h0] at hC
  clear hr0 hb0 hi ho ff h0
  go_enter Try.func12, Try.ntmps12
  go_upto_region 1 with fail
  rw [← hW]
  clear hW
  go_wp2_with (first | (refine wpList_load_row_g rfl 26 _ rfl w.heap.size rfl 26 (f.c (.slice ia f.n ic) (.slice oa f.L.length oc)) (0, 0) _ (hrows.out _ hB.out) Try.underlying26 rfl info_frame ?_) | (go_at_call 16; (with_reducible refine (hC.out _ hB.out).mono ?_); rintro e w3 ⟨rfl, h3⟩; replace hB := Lib.hid (hB.out.trans (Below.mono h3 hB.out.size)); clear h3))
  go_ret2
  exact ⟨rfl, hb1.out.trans (hB.out.mono hb1.out.size)⟩
end Go.Proofs.Ytegffpjhdodldaa

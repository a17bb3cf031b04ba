/- Layer 7: contracts of package frame: valid parts. -/
import Derived.Test.YtegffpjhdodldaaF03
namespace Go.Proofs.Ytegffpjhdodldaa
open Go.RowKit Go.Ytegffpjhdodldaa
set_option linter.unusedVariables false
theorem info_frame : (Try.prog.info? 26).map (·.size) = some 4 := by kernel_rfl
theorem cellsF {w : World} {g : Nat} {f : Fr} {iv ov : Value} (h : w.heap[g]? = some (.cells (f.c iv ov) 26 (0, 0))) :
    w.cell? ⟨g, 0, none⟩ = some (.int .u8 f.k) ∧ w.cell? ⟨g, 1, none⟩ = some (.int .u64 (f.N : Int)) ∧ w.cell? ⟨g, 2, none⟩ = some iv ∧ w.cell? ⟨g, 3, none⟩ = some ov :=
  ⟨cell_of_row _ _ _ _ _ _ h, cell_of_row _ _ _ _ _ _ h, cell_of_row _ _ _ _ _ _ h, cell_of_row _ _ _ _ _ _ h⟩
theorem parts_num {f : Fr} (h : numK f.k = true) : partsB f = (decide (f.n = 0) && decide (f.L.length = 0)) := if_pos h
theorem parts_ids {f : Fr} (h : numK f.k = false) (h2 : idsK f.k = true) : partsB f = (decide (f.N = 0) && (decide (f.L.length = 0) && (decide (f.n ≤ 40) && riseF f.F f.n))) := by
  unfold partsB
  rw [if_neg (by rw [h]; decide), if_pos h2]
theorem parts_ops {f : Fr} (h : numK f.k = false) (h2 : idsK f.k = false) : partsB f = (decide (f.k = 5) && (decide (f.N = 0) && (decide (f.n = 0) && okL f.L))) := by
  unfold partsB
  rw [if_neg (by rw [h]; decide), if_neg (by rw [h2]; decide)]
set_option maxHeartbeats 2000000 in
set_option maxRecDepth 100000 in
theorem validParts_any (f : Fr) (ff : f.Fit) (iv ov : Value) (w : World) (hi : RdI w iv f.n f.F) (ho : RdS w ov f.L) :
    Calls Try.prog 33 #[.agg (f.c iv ov)] w fun e w' => e = .returned (.bool (partsB f)) ∧ Below w.heap.size w w' := by
  obtain ⟨W, hW⟩ : ∃ W, W = w.alloc (.cells (f.c iv ov) 26) := ⟨_, rfl⟩
  have hr0 := heap_alloc_new w (.cells (f.c iv ov) 26)
  have hb0 := (Below.refl w.heap.size w).alloc (Nat.le_refl _) (.cells (f.c iv ov) 26)
  rw [← hW] at hr0 hb0
  obtain ⟨ia, ic, rfl⟩ := hi.slice
  obtain ⟨oa, oc, rfl⟩ := ho.slice
  obtain ⟨c0, c1, c2, c3⟩ := cellsF hr0
  have hb1 := Lib.hid hb0
  have hI := Lib.hid (frIncrease_any f.F f.n _ W (hi.mono hb0) ff.F ff.n)
  have hS := Lib.hid (validStrings_any f.L _ W (ho.mono hb0) ff.l)
  have hK := Lib.hid (fun wz => hasNumber_any f.k wz)
  have hD := Lib.hid (fun wz => hasIDs_any f.k wz)
  have p1 := Lib.hid (fun h => parts_num (f := f) h)
  have p2 := Lib.hid (fun h h2 => parts_ids (f := f) h h2)
  have p3 := Lib.hid (fun h h2 => parts_ops (f := f) h h2)
  clear hr0 hb0 hi ho ff
  generalize partsB f = R at *
  generalize riseF f.F f.n = RB at *
  generalize okL f.L = OK at *
  obtain ⟨k, N, n, F, L⟩ := f
  dsimp only at *
  generalize L.length = m at *
  cases hk : numK k
  · rw [hk] at hK
    replace p2 := Lib.hid (p2.out hk)
    replace p3 := Lib.hid (p3.out hk)
    cases hd : idsK k
    · rw [hd] at hD
      replace p3 := Lib.hid (p3.out hd)
      clear p1 p2 hk hd
      by_cases h5 : k = 5
      · subst h5
        by_cases hN : N = 0
        · subst hN
          by_cases hn : n = 0
          · subst hn
            have e := Lib.hid (show R = OK by rw [p3.out]; simp)
            clear p3
            go_enter Try.func33, Try.ntmps33
            go_upto_region 1 with fail
            rw [← hW]
            clear hW
            go_wp2_with (first
              | (go_at_call 39; (with_reducible refine (hK.out _).mono ?_); rintro e w2 ⟨rfl, rfl⟩)
              | (go_at_call 30; (with_reducible refine (hD.out _).mono ?_); rintro e w2 ⟨rfl, rfl⟩)
              | (go_at_call 47; (with_reducible refine (hS.out).mono ?_); rintro e w2 ⟨rfl, rfl⟩)
              | (go_at_call 31; (with_reducible refine (hI.out).mono ?_); rintro e w3 ⟨rfl, h3⟩; replace hb1 := Lib.hid (hb1.out.trans (Below.mono h3 hb1.out.size)); clear h3))
            go_ret
            exact ⟨ret_bool (by first | exact e.out.symm | (rw [e.out]; simp <;> omega)), hb1.out⟩
          · have e := Lib.hid (show R = false by rw [p3.out, decide_eq_false hn]; simp)
            clear p3
            go_enter Try.func33, Try.ntmps33
            go_upto_region 1 with fail
            rw [← hW]
            clear hW
            go_wp2_with (first
              | (go_at_call 39; (with_reducible refine (hK.out _).mono ?_); rintro e w2 ⟨rfl, rfl⟩)
              | (go_at_call 30; (with_reducible refine (hD.out _).mono ?_); rintro e w2 ⟨rfl, rfl⟩)
              | (go_at_call 47; (with_reducible refine (hS.out).mono ?_); rintro e w2 ⟨rfl, rfl⟩)
              | (go_at_call 31; (with_reducible refine (hI.out).mono ?_); rintro e w3 ⟨rfl, h3⟩; replace hb1 := Lib.hid (hb1.out.trans (Below.mono h3 hb1.out.size)); clear h3))
            go_ret
            exact ⟨ret_bool (by first | exact e.out.symm | (rw [e.out]; simp <;> omega)), hb1.out⟩
        · have e := Lib.hid (show R = false by rw [p3.out, decide_eq_false hN]; simp)
          clear p3
          go_enter Try.func33, Try.ntmps33
          go_upto_region 1 with fail
          rw [← hW]
          clear hW
          go_wp2_with (first
            | (go_at_call 39; (with_reducible refine (hK.out _).mono ?_); rintro e w2 ⟨rfl, rfl⟩)
            | (go_at_call 30; (with_reducible refine (hD.out _).mono ?_); rintro e w2 ⟨rfl, rfl⟩)
            | (go_at_call 47; (with_reducible refine (hS.out).mono ?_); rintro e w2 ⟨rfl, rfl⟩)
            | (go_at_call 31; (with_reducible refine (hI.out).mono ?_); rintro e w3 ⟨rfl, h3⟩; replace hb1 := Lib.hid (hb1.out.trans (Below.mono h3 hb1.out.size)); clear h3))
          go_ret
          exact ⟨ret_bool (by first | exact e.out.symm | (rw [e.out]; simp <;> omega)), hb1.out⟩
      · have e := Lib.hid (show R = false by rw [p3.out, decide_eq_false h5]; simp)
        clear p3
        go_enter Try.func33, Try.ntmps33
        go_upto_region 1 with fail
        rw [← hW]
        clear hW
        go_wp2_with (first
          | (go_at_call 39; (with_reducible refine (hK.out _).mono ?_); rintro e w2 ⟨rfl, rfl⟩)
          | (go_at_call 30; (with_reducible refine (hD.out _).mono ?_); rintro e w2 ⟨rfl, rfl⟩)
          | (go_at_call 47; (with_reducible refine (hS.out).mono ?_); rintro e w2 ⟨rfl, rfl⟩)
          | (go_at_call 31; (with_reducible refine (hI.out).mono ?_); rintro e w3 ⟨rfl, h3⟩; replace hb1 := Lib.hid (hb1.out.trans (Below.mono h3 hb1.out.size)); clear h3))
        go_ret
        exact ⟨ret_bool (by first | exact e.out.symm | (rw [e.out]; simp <;> omega)), hb1.out⟩
    · rw [hd] at hD
      replace p2 := Lib.hid (p2.out hd)
      clear p1 p3 hk hd
      by_cases hN : N = 0
      · subst hN
        by_cases hm : m = 0
        · subst hm
          by_cases hn : n ≤ 40
          · have e := Lib.hid (show R = RB by rw [p2.out, decide_eq_true hn]; simp)
            clear p2
            go_enter Try.func33, Try.ntmps33
            go_upto_region 1 with fail
            rw [← hW]
            clear hW
            go_wp2_with (first
              | (go_at_call 39; (with_reducible refine (hK.out _).mono ?_); rintro e w2 ⟨rfl, rfl⟩)
              | (go_at_call 30; (with_reducible refine (hD.out _).mono ?_); rintro e w2 ⟨rfl, rfl⟩)
              | (go_at_call 47; (with_reducible refine (hS.out).mono ?_); rintro e w2 ⟨rfl, rfl⟩)
              | (go_at_call 31; (with_reducible refine (hI.out).mono ?_); rintro e w3 ⟨rfl, h3⟩; replace hb1 := Lib.hid (hb1.out.trans (Below.mono h3 hb1.out.size)); clear h3))
            go_ret
            exact ⟨ret_bool (by first | exact e.out.symm | (rw [e.out]; simp <;> omega)), hb1.out⟩
          · have e := Lib.hid (show R = false by rw [p2.out, decide_eq_false hn]; simp)
            clear p2
            go_enter Try.func33, Try.ntmps33
            go_upto_region 1 with fail
            rw [← hW]
            clear hW
            go_wp2_with (first
              | (go_at_call 39; (with_reducible refine (hK.out _).mono ?_); rintro e w2 ⟨rfl, rfl⟩)
              | (go_at_call 30; (with_reducible refine (hD.out _).mono ?_); rintro e w2 ⟨rfl, rfl⟩)
              | (go_at_call 47; (with_reducible refine (hS.out).mono ?_); rintro e w2 ⟨rfl, rfl⟩)
              | (go_at_call 31; (with_reducible refine (hI.out).mono ?_); rintro e w3 ⟨rfl, h3⟩; replace hb1 := Lib.hid (hb1.out.trans (Below.mono h3 hb1.out.size)); clear h3))
            go_ret
            exact ⟨ret_bool (by first | exact e.out.symm | (rw [e.out]; simp <;> omega)), hb1.out⟩
        · have e := Lib.hid (show R = false by rw [p2.out, decide_eq_false hm]; simp)
          clear p2
          go_enter Try.func33, Try.ntmps33
          go_upto_region 1 with fail
          rw [← hW]
          clear hW
          go_wp2_with (first
            | (go_at_call 39; (with_reducible refine (hK.out _).mono ?_); rintro e w2 ⟨rfl, rfl⟩)
            | (go_at_call 30; (with_reducible refine (hD.out _).mono ?_); rintro e w2 ⟨rfl, rfl⟩)
            | (go_at_call 47; (with_reducible refine (hS.out).mono ?_); rintro e w2 ⟨rfl, rfl⟩)
            | (go_at_call 31; (with_reducible refine (hI.out).mono ?_); rintro e w3 ⟨rfl, h3⟩; replace hb1 := Lib.hid (hb1.out.trans (Below.mono h3 hb1.out.size)); clear h3))
          go_ret
          exact ⟨ret_bool (by first | exact e.out.symm | (rw [e.out]; simp <;> omega)), hb1.out⟩
      · have e := Lib.hid (show R = false by rw [p2.out, decide_eq_false hN]; simp)
        clear p2
        go_enter Try.func33, Try.ntmps33
        go_upto_region 1 with fail
        rw [← hW]
        clear hW
        go_wp2_with (first
          | (go_at_call 39; (with_reducible refine (hK.out _).mono ?_); rintro e w2 ⟨rfl, rfl⟩)
          | (go_at_call 30; (with_reducible refine (hD.out _).mono ?_); rintro e w2 ⟨rfl, rfl⟩)
          | (go_at_call 47; (with_reducible refine (hS.out).mono ?_); rintro e w2 ⟨rfl, rfl⟩)
          | (go_at_call 31; (with_reducible refine (hI.out).mono ?_); rintro e w3 ⟨rfl, h3⟩; replace hb1 := Lib.hid (hb1.out.trans (Below.mono h3 hb1.out.size)); clear h3))
        go_ret
        exact ⟨ret_bool (by first | exact e.out.symm | (rw [e.out]; simp <;> omega)), hb1.out⟩
  · rw [hk] at hK
    replace p1 := Lib.hid (p1.out hk)
    clear p2 p3 hk
    by_cases hn : n = 0
    · subst hn
      by_cases hm : m = 0
      · subst hm
        have e := Lib.hid (show R = true by rw [p1.out]; simp)
        clear p1
        go_enter Try.func33, Try.ntmps33
        go_upto_region 1 with fail
        rw [← hW]
        clear hW
        go_wp2_with (first
          | (go_at_call 39; (with_reducible refine (hK.out _).mono ?_); rintro e w2 ⟨rfl, rfl⟩)
          | (go_at_call 30; (with_reducible refine (hD.out _).mono ?_); rintro e w2 ⟨rfl, rfl⟩)
          | (go_at_call 47; (with_reducible refine (hS.out).mono ?_); rintro e w2 ⟨rfl, rfl⟩)
          | (go_at_call 31; (with_reducible refine (hI.out).mono ?_); rintro e w3 ⟨rfl, h3⟩; replace hb1 := Lib.hid (hb1.out.trans (Below.mono h3 hb1.out.size)); clear h3))
        go_ret
        exact ⟨ret_bool (by first | exact e.out.symm | (rw [e.out]; simp <;> omega)), hb1.out⟩
      · have e := Lib.hid (show R = false by rw [p1.out, decide_eq_false hm]; simp)
        clear p1
        go_enter Try.func33, Try.ntmps33
        go_upto_region 1 with fail
        rw [← hW]
        clear hW
        go_wp2_with (first
          | (go_at_call 39; (with_reducible refine (hK.out _).mono ?_); rintro e w2 ⟨rfl, rfl⟩)
          | (go_at_call 30; (with_reducible refine (hD.out _).mono ?_); rintro e w2 ⟨rfl, rfl⟩)
          | (go_at_call 47; (with_reducible refine (hS.out).mono ?_); rintro e w2 ⟨rfl, rfl⟩)
          | (go_at_call 31; (with_reducible refine (hI.out).mono ?_); rintro e w3 ⟨rfl, h3⟩; replace hb1 := Lib.hid (hb1.out.trans (Below.mono h3 hb1.out.size)); clear h3))
        go_ret
        exact ⟨ret_bool (by first | exact e.out.symm | (rw [e.out]; simp <;> omega)), hb1.out⟩
    · have e := Lib.hid (show R = false by rw [p1.out, decide_eq_false hn]; simp)
      clear p1
      go_enter Try.func33, Try.ntmps33
      go_upto_region 1 with fail
      rw [← hW]
      clear hW
      go_wp2_with (first
        | (go_at_call 39; (with_reducible refine (hK.out _).mono ?_); rintro e w2 ⟨rfl, rfl⟩)
        | (go_at_call 30; (with_reducible refine (hD.out _).mono ?_); rintro e w2 ⟨rfl, rfl⟩)
        | (go_at_call 47; (with_reducible refine (hS.out).mono ?_); rintro e w2 ⟨rfl, rfl⟩)
        | (go_at_call 31; (with_reducible refine (hI.out).mono ?_); rintro e w3 ⟨rfl, h3⟩; replace hb1 := Lib.hid (hb1.out.trans (Below.mono h3 hb1.out.size)); clear h3))
      go_ret
      exact ⟨ret_bool (by first | exact e.out.symm | (rw [e.out]; simp <;> omega)), hb1.out⟩
end Go.Proofs.Ytegffpjhdodldaa

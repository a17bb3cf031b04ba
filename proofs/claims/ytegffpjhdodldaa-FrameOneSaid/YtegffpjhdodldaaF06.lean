/- Layer 7: contracts of package frame: Check, Encode. -/
import Derived.Test.YtegffpjhdodldaaF05
namespace Go.Proofs.Ytegffpjhdodldaa
open Go.RowKit Go.Ytegffpjhdodldaa
set_option linter.unusedVariables false
theorem chkR_no {f : Fr} (h : partsB f = false) : chkR f = 8 := by
  unfold chkR frOk
  rw [h]
  rfl
theorem chkR_long {f : Fr} (h : 2000 < (frB f).length) : chkR f = 8 := by
  unfold chkR frOk
  rw [decide_eq_false (by omega), Bool.and_false]
  rfl
theorem chkR_ok {f : Fr} (h : partsB f = true) (h2 : (frB f).length ≤ 2000) : chkR f = 0 := by
  unfold chkR frOk
  rw [h, decide_eq_true h2]
  rfl
theorem frB_short {f : Fr} (ff : f.Fit) (h : partsB f = true) : (frB f).length ≤ 4000 := by
  unfold frB
  rw [List.length_append, List.length_singleton]
  by_cases h1 : numK f.k = true
  · rw [if_pos h1, numB_length]
    have := numL_le f.N ff.N
    omega
  · rw [if_neg h1]
    have h1' : numK f.k = false := by simpa using h1
    by_cases h2 : idsK f.k = true
    · rw [if_pos h2, List.length_append, numB_length, ff.len]
      have h3 := (parts_ids h1' h2).symm.trans h
      rw [Bool.and_eq_true, Bool.and_eq_true, Bool.and_eq_true, decide_eq_true_eq, decide_eq_true_eq, decide_eq_true_eq] at h3
      have := numL_le f.n (by omega)
      omega
    · rw [if_neg h2, List.length_append, numB_length]
      have h2' : idsK f.k = false := by simpa using h2
      have h3 := (parts_ops h1' h2').symm.trans h
      rw [Bool.and_eq_true, Bool.and_eq_true, Bool.and_eq_true] at h3
      obtain ⟨h4, h5⟩ := okL_parts h3.2.2.2
      have h6 := txts_len f.L h5 f.L.length
      have := numL_le f.L.length (by omega)
      omega
set_option maxHeartbeats 2000000 in
set_option maxRecDepth 100000 in
theorem frCheck_any (f : Fr) (ff : f.Fit) (iv ov : Value) (w : World) (hi : RdI w iv f.n f.F) (ho : RdS w ov f.L) :
    Calls Try.prog 15 #[.agg (f.c iv ov)] w fun e w' => e = .returned (.int .i64 (chkR f)) ∧ Below w.heap.size w w' := by
  obtain ⟨W, hW⟩ : ∃ W, W = w.alloc (.cells (f.c iv ov) 26) := ⟨_, rfl⟩
  have hr0 := heap_alloc_new w (.cells (f.c iv ov) 26)
  have hb0 := (Below.refl w.heap.size w).alloc (Nat.le_refl _) (.cells (f.c iv ov) 26)
  rw [← hW] at hr0 hb0
  obtain ⟨ia, ic, rfl⟩ := hi.slice
  obtain ⟨oa, oc, rfl⟩ := ho.slice
  have hlt := (Array.getElem?_eq_some_iff.1 hr0).1
  have hrows := Lib.hid (fun (wz : World) (h : Below W.heap.size W wz) => rowB hr0 h hlt)
  have hb1 := Lib.hid hb0
  have hB := Lib.hid (Below.refl W.heap.size W)
  have hP := Lib.hid (fun (wz : World) (h : Below W.heap.size W wz) => validParts_any f ff _ _ wz ((hi.mono hb0).mono h) ((ho.mono hb0).mono h))
  cases hp : partsB f
  · have e := Lib.hid (chkR_no hp)
    rw [hp] at hP
    generalize chkR f = R at *
    clear hp hr0 hb0 hi ho ff
    go_enter Try.func15, Try.ntmps15
    go_upto_region 1 with fail
    rw [← hW]
    clear hW
    go_wp2_with (first | (refine wpList_load_row_g rfl 26 _ rfl w.heap.size rfl 26 (f.c (.slice ia f.n ic) (.slice oa f.L.length oc)) (0, 0) _ (hrows.out _ hB.out) Try.underlying26 rfl info_frame ?_) | (go_at_call 33; (with_reducible refine (hP.out _ hB.out).mono ?_); rintro e w3 ⟨rfl, h3⟩; replace hB := Lib.hid (hB.out.trans (Below.mono h3 hB.out.size)); clear h3))
    go_ret
    exact ⟨ret_int e.out.symm, hb1.out.trans (hB.out.mono hb1.out.size)⟩
  · have hw := Lib.hid (fun (wz : World) (h : Below W.heap.size W wz) => write_any f ff hp _ _ wz ((hi.mono hb0).mono h) ((ho.mono hb0).mono h))
    have hlong := Lib.hid (fun h => chkR_long (f := f) h)
    have hok := Lib.hid (fun h => chkR_ok (f := f) hp h)
    rw [hp] at hP
    obtain ⟨Z, hZ⟩ : ∃ Z, (frB f).length = Z := ⟨_, rfl⟩
    rw [hZ] at hlong hok
    have hZ' := Lib.hid hZ
    generalize chkR f = R at *
    clear hp hr0 hb0 hi ho ff hZ
    by_cases h2 : 2000 < Z
    · have e := Lib.hid (hlong.out h2)
      go_enter Try.func15, Try.ntmps15
      go_upto_region 1 with fail
      rw [← hW]
      clear hW
      go_wp2_with (first | (refine wpList_load_row_g rfl 26 _ rfl w.heap.size rfl 26 (f.c (.slice ia f.n ic) (.slice oa f.L.length oc)) (0, 0) _ (hrows.out _ hB.out) Try.underlying26 rfl info_frame ?_) | (go_at_call 33; (with_reducible refine (hP.out _ hB.out).mono ?_); rintro e w3 ⟨rfl, h3⟩; replace hB := Lib.hid (hB.out.trans (Below.mono h3 hB.out.size)); clear h3) | (go_at_call 28; (with_reducible refine (hw.out _ hB.out).mono ?_); rintro e w3 ⟨sv, rfl, hO, h3⟩; obtain ⟨sa, sc, rfl⟩ := own_slice hO _ hZ'.out; clear hO; replace hB := Lib.hid (hB.out.trans (Below.mono h3 hB.out.size)); clear h3))
      go_ret
      exact ⟨ret_int e.out.symm, hb1.out.trans (hB.out.mono hb1.out.size)⟩
    · have e := Lib.hid (hok.out (by omega))
      go_enter Try.func15, Try.ntmps15
      go_upto_region 1 with fail
      rw [← hW]
      clear hW
      go_wp2_with (first | (refine wpList_load_row_g rfl 26 _ rfl w.heap.size rfl 26 (f.c (.slice ia f.n ic) (.slice oa f.L.length oc)) (0, 0) _ (hrows.out _ hB.out) Try.underlying26 rfl info_frame ?_) | (go_at_call 33; (with_reducible refine (hP.out _ hB.out).mono ?_); rintro e w3 ⟨rfl, h3⟩; replace hB := Lib.hid (hB.out.trans (Below.mono h3 hB.out.size)); clear h3) | (go_at_call 28; (with_reducible refine (hw.out _ hB.out).mono ?_); rintro e w3 ⟨sv, rfl, hO, h3⟩; obtain ⟨sa, sc, rfl⟩ := own_slice hO _ hZ'.out; clear hO; replace hB := Lib.hid (hB.out.trans (Below.mono h3 hB.out.size)); clear h3))
      go_ret
      exact ⟨ret_int e.out.symm, hb1.out.trans (hB.out.mono hb1.out.size)⟩
theorem chkR_yes {f : Fr} (h : frOk f = true) : chkR f = 0 := if_pos h
theorem chkR_not {f : Fr} (h : frOk f = false) : chkR f = 8 := if_neg (by rw [h]; decide)
theorem frOk_parts {f : Fr} (h : frOk f = true) : partsB f = true ∧ (frB f).length ≤ 2000 := by
  unfold frOk at h
  rw [Bool.and_eq_true, decide_eq_true_eq] at h
  exact h
set_option maxHeartbeats 2000000 in
set_option maxRecDepth 100000 in
theorem frEncode_ok (f : Fr) (ff : f.Fit) (h0 : frOk f = true) (iv ov : Value) (w : World) (hi : RdI w iv f.n f.F) (ho : RdS w ov f.L) :
    Calls Try.prog 11 #[.agg (f.c iv ov)] w fun e w' => ∃ sv, e = .returned (.tuple #[sv, .int .i64 0]) ∧ OwnB w.heap.size 5 w' sv (frB f) ∧ Below w.heap.size w w' := by
  obtain ⟨W, hW⟩ : ∃ W, W = w.alloc (.cells (f.c iv ov) 26) := ⟨_, rfl⟩
  have hr0 := heap_alloc_new w (.cells (f.c iv ov) 26)
  have hb0 := (Below.refl w.heap.size w).alloc (Nat.le_refl _) (.cells (f.c iv ov) 26)
  rw [← hW] at hr0 hb0
  obtain ⟨ia, ic, rfl⟩ := hi.slice
  obtain ⟨oa, oc, rfl⟩ := ho.slice
  have hlt := (Array.getElem?_eq_some_iff.1 hr0).1
  have hrows := Lib.hid (fun (wz : World) (h : Below W.heap.size W wz) => rowB hr0 h hlt)
  have hb1 := Lib.hid hb0
  have hB := Lib.hid (Below.refl W.heap.size W)
  have hC := Lib.hid (fun (wz : World) (h : Below W.heap.size W wz) => frCheck_any f ff _ _ wz ((hi.mono hb0).mono h) ((ho.mono hb0).mono h))
  have hw := Lib.hid (fun (wz : World) (h : Below W.heap.size W wz) => write_any f ff (frOk_parts h0).1 _ _ wz ((hi.mono hb0).mono h) ((ho.mono hb0).mono h))
  rw [chkR_yes h0] at hC
  clear hr0 hb0 hi ho ff h0
  go_enter Try.func11, Try.ntmps11
  go_upto_region 1 with fail
  rw [← hW]
  clear hW
  go_wp2_with (first | (refine wpList_load_row_g rfl 26 _ rfl w.heap.size rfl 26 (f.c (.slice ia f.n ic) (.slice oa f.L.length oc)) (0, 0) _ (hrows.out _ hB.out) Try.underlying26 rfl info_frame ?_) | (go_at_call 15; (with_reducible refine (hC.out _ hB.out).mono ?_); rintro e w3 ⟨rfl, h3⟩; replace hB := Lib.hid (hB.out.trans (Below.mono h3 hB.out.size)); clear h3) | (go_at_call 28; (with_reducible refine (hw.out _ hB.out).mono ?_); rintro e w3 ⟨sv, rfl, hO, h3⟩; replace hO := Lib.hid (hO.mono (Nat.le_trans hb1.out.size hB.out.size)); replace hB := Lib.hid (hB.out.trans (Below.mono h3 hB.out.size)); clear h3))
  go_ret2
  exact ⟨_, rfl, hO.out, hb1.out.trans (hB.out.mono hb1.out.size)⟩
set_option maxHeartbeats 2000000 in
set_option maxRecDepth 100000 in
theorem frEncode_bad (f : Fr) (ff : f.Fit) (h0 : frOk f = false) (iv ov : Value) (w : World) (hi : RdI w iv f.n f.F) (ho : RdS w ov f.L) :
    Calls Try.prog 11 #[.agg (f.c iv ov)] w fun e w' => e = .returned (.tuple #[.slice none 0 0, .int .i64 8]) ∧ Below w.heap.size w w' := by
  obtain ⟨W, hW⟩ : ∃ W, W = w.alloc (.cells (f.c iv ov) 26) := ⟨_, rfl⟩
  have hr0 := heap_alloc_new w (.cells (f.c iv ov) 26)
  have hb0 := (Below.refl w.heap.size w).alloc (Nat.le_refl _) (.cells (f.c iv ov) 26)
  rw [← hW] at hr0 hb0
  obtain ⟨ia, ic, rfl⟩ := hi.slice
  obtain ⟨oa, oc, rfl⟩ := ho.slice
  have hlt := (Array.getElem?_eq_some_iff.1 hr0).1
  have hrows := Lib.hid (fun (wz : World) (h : Below W.heap.size W wz) => rowB hr0 h hlt)
  have hb1 := Lib.hid hb0
  have hB := Lib.hid (Below.refl W.heap.size W)
  have hC := Lib.hid (fun (wz : World) (h : Below W.heap.size W wz) => frCheck_any f ff _ _ wz ((hi.mono hb0).mono h) ((ho.mono hb0).mono h))
  rw [chkR_not h0] at hC
  clear hr0 hb0 hi ho ff h0
  go_enter Try.func11, Try.ntmps11
  go_upto_region 1 with fail
  rw [← hW]
  clear hW
  go_wp2_with (first | (refine wpList_load_row_g rfl 26 _ rfl w.heap.size rfl 26 (f.c (.slice ia f.n ic) (.slice oa f.L.length oc)) (0, 0) _ (hrows.out _ hB.out) Try.underlying26 rfl info_frame ?_) | (go_at_call 15; (with_reducible refine (hC.out _ hB.out).mono ?_); rintro e w3 ⟨rfl, h3⟩; replace hB := Lib.hid (hB.out.trans (Below.mono h3 hB.out.size)); clear h3))
  go_ret2
  exact ⟨rfl, hb1.out.trans (hB.out.mono hb1.out.size)⟩
end Go.Proofs.Ytegffpjhdodldaa

/- Contracts of package value: Decode. -/
import Derived.Test.YtpklfohaifeboaaV17
namespace Go.Proofs.Ytpklfohaifeboaa
open Go.RowKit Go.Ytpklfohaifeboaa
set_option linter.unusedVariables false
def decR (l : List Int) : Value :=
  match decF l with
  | some p => .tuple #[p.1.v, .int .i64 (p.2 : Nat), .int .i64 0]
  | none => .tuple #[vA 0 0 0 ⟨#[]⟩, .int .i64 0, .int .i64 12]
theorem fin4 {B g : Nat} {w0 w2 : World} {a0 a1 a2 a3 x0 x1 x2 x3 : Value} {T : TypeId} (hrow : w2.heap[g]? = some (.cells #[a0, a1, a2, a3] T (0, 0))) (hB : Below B w0 w2) (hBg : B ≤ g) :
    ((((w2.setCell ⟨g, 0, none⟩ x0).setCell ⟨g, 1, none⟩ x1).setCell ⟨g, 2, none⟩ x2).setCell ⟨g, 3, none⟩ x3).heap[g]? = some (.cells #[x0, x1, x2, x3] T (0, 0)) ∧
    Below B w0 ((((w2.setCell ⟨g, 0, none⟩ x0).setCell ⟨g, 1, none⟩ x1).setCell ⟨g, 2, none⟩ x2).setCell ⟨g, 3, none⟩ x3) := by
  have e : ((((w2.setCell ⟨g, 0, none⟩ x0).setCell ⟨g, 1, none⟩ x1).setCell ⟨g, 2, none⟩ x2).setCell ⟨g, 3, none⟩ x3) = w2.setRow g #[x0, x1, x2, x3] := by
    have h := fun c => setRow_heap w2 g #[a0, a1, a2, a3] c T (0, 0) hrow
    rw [setCell_eq hrow]
    rw [setCell_eq (h _), setRow2 hrow]
    rw [setCell_eq (h _), setRow2 hrow]
    rw [setCell_eq (h _), setRow2 hrow]
    simp only [List.setIfInBounds_toArray, List.set_cons_succ, List.set_cons_zero]
  rw [e]
  exact ⟨setRow_heap _ _ _ _ _ _ hrow, below_setRow' (g := g) hB hBg _⟩
theorem four_of {w : World} {g : Nat} {a0 a1 a2 a3 : Value} {T : TypeId} (h : w.heap[g]? = some (.cells #[a0, a1, a2, a3] T (0, 0))) :
    (w.cell? ⟨g, 0, none⟩ = some a0 ∧ w.cell? ⟨g, 1, none⟩ = some a1 ∧ w.cell? ⟨g, 2, none⟩ = some a2 ∧ w.cell? ⟨g, 3, none⟩ = some a3) ∧
    w.frozen? ⟨g, 0, none⟩ = false ∧ w.frozen? ⟨g, 1, none⟩ = false ∧ w.frozen? ⟨g, 2, none⟩ = false ∧ w.frozen? ⟨g, 3, none⟩ = false :=
  ⟨⟨cell_of_row _ _ _ _ _ _ h, cell_of_row _ _ _ _ _ _ h, cell_of_row _ _ _ _ _ _ h, cell_of_row _ _ _ _ _ _ h⟩, frozen_of_row _ _ _ _ _ h, frozen_of_row _ _ _ _ _ h, frozen_of_row _ _ _ _ _ h, frozen_of_row _ _ _ _ _ h⟩
set_option maxHeartbeats 2000000 in
set_option maxRecDepth 100000 in
theorem decode_any (l : List Int) (bv : Value) (w : World) (hr : RdB w bv l) (hl : Bytes l) (hlm : l.length ≤ 1000000) :
    Calls Try.prog 18 #[bv] w fun e w' => e = .returned (decR l) ∧ Below w.heap.size w w' := by
  have hB0 := below_a w (.cells #[.int .u8 0, .int .i64 0, .int .u64 0, .string ⟨#[]⟩] 26)
  have hrow := Lib.hid (heap_alloc_new w (.cells #[.int .u8 0, .int .i64 0, .int .u64 0, .string ⟨#[]⟩] 26))
  have hr1 := hr.mono hB0
  have hB := Lib.hid hB0
  clear hB0
  obtain ⟨W, hW⟩ : ∃ W, W = w.alloc (.cells #[.int .u8 0, .int .i64 0, .int .u64 0, .string ⟨#[]⟩] 26) := ⟨_, rfl⟩
  rw [← hW] at hrow hB hr1
  by_cases h0 : l.length = 0
  · have e : decR l = .tuple #[vA 0 0 0 ⟨#[]⟩, .int .i64 0, .int .i64 12] := by unfold decR decF; rw [if_pos h0]
    rw [e]
    obtain ⟨a, c, rfl⟩ := hr.slice
    clear hr hr1 hl hlm e
    generalize l.length = N at *
    go_enter Try.func18, Try.ntmps18
    go_upto_region 1 with fail
    rw [← hW]
    clear hW
    go_wp2_with (refine storeOver _ w.heap.size _ rfl 26 _ _ rfl (vC 0 0 0 ⟨#[]⟩) 26 hrow.out rfl rfl info_val rfl (val_one _ _ _ _) ?_; intro w2 hr2 hb2; have hr2' := Lib.hid hr2; have hb2' := Lib.hid hb2; clear hr2 hb2)
    exact bodyPost_ret (results_row_tmp2 rfl _ _ w.heap.size 26 _ _ _ rfl hr2'.out Try.underlying26 rfl info_val) rfl ⟨rfl, hB.out.trans hb2'.out⟩
  have hrs := hr1
  rcases hr1 with ⟨_, _, _, _, rfl⟩ | ⟨b, o, c, rfl, g1, g2, g3, g4⟩
  · simp at h0
  have hsub0 := rdB_sub hrs 1 (l.length - 1) (c - 1) (by omega) (by omega) (by omega)
  have hdr : (l.drop 1).take (l.length - 1) = l.drop 1 := List.take_of_length_le (by rw [List.length_drop]; omega)
  rw [hdr] at hsub0
  have hsub : RdB W (.slice (if c = 1 then some ⟨b, o, none⟩ else some ⟨b, o + 1, none⟩) (l.length - 1) (c - 1)) (l.drop 1) := by
    by_cases hc : c = 1
    · rw [if_pos hc]
      have e1 : l.length - 1 = 0 := by omega
      have e2 : l.drop 1 = [] := List.drop_eq_nil_of_le (by omega)
      rw [e1, e2]
      exact .inl ⟨_, _, rfl, (fun h => by cases h), rfl⟩
    · rw [if_neg hc]; exact hsub0
  have hsub := Lib.hid hsub
  clear hsub0
  have hP := Lib.hid (fun w' (h : Below W.heap.size W w') => decPart_any (ith l 0) (hl 0) (l.drop 1) _ w' (hsub.out.mono h) (bytes_drop _ _ hl) (by rw [List.length_drop]; omega))
  have hc0 := Lib.hid (g4 0 (by omega))
  have hdec : ∀ (a n : Int) (b : Nat) (s : ByteArray) (u x : Int), partV (ith l 0) (l.drop 1) = .tuple #[vA a n b s, .int .i64 u, .int .i64 x] → decR l = if x = 0 then .tuple #[vA a n b s, .int .i64 (1 + u), .int .i64 0] else .tuple #[vA 0 0 0 ⟨#[]⟩, .int .i64 0, .int .i64 12] := by
    intro a n b s u x h
    have hp := partV_R (ith l 0) (l.drop 1)
    rw [h] at hp
    unfold PartR at hp
    unfold decR decF
    rw [if_neg h0]
    cases hd : decP (ith l 0) (l.drop 1) with
    | some p =>
      rw [hd] at hp
      simp only [Value.tuple.injEq, Array.mk.injEq, List.cons.injEq, Value.agg.injEq, Value.int.injEq, true_and, and_true, Value.string.injEq] at hp
      obtain ⟨⟨e1, e2, e3, e4⟩, e5, e6⟩ := hp
      rw [if_pos e6]
      show Value.tuple #[p.1.v, .int .i64 ((1 + p.2 : Nat) : Int), .int .i64 0] = _
      have e3' : b = p.1.b := by omega
      rw [e1, e2, e3', e4, e5]
      simp
    | none =>
      rw [hd] at hp
      obtain ⟨a', n', b', s', u', x', hx, hp⟩ := hp
      simp only [Value.tuple.injEq, Array.mk.injEq, List.cons.injEq, Value.int.injEq, true_and, and_true] at hp
      rw [if_neg (by omega)]
  obtain ⟨va, vn, vb, vs, vu, vx, hv⟩ := partV_form (ith l 0) (l.drop 1)
  replace hdec := hdec _ _ _ _ _ _ hv
  have hu := partV_used _ _ (bytes_drop _ 1 hl) hv
  rw [List.length_drop] at hu
  have hu1 : -1 ≤ vu := by omega
  have hu2 : vu ≤ 1000000 := by omega
  clear hu
  rw [hv] at hP
  obtain ⟨R, hR⟩ : ∃ R, R = decR l := ⟨_, rfl⟩
  rw [← hR]
  rw [hdec] at hR
  have hR' := Lib.hid hR
  unfold maxLen at g2
  have hN : 1 ≤ l.length := by omega
  clear hR hdec hrs hr g4 hl hlm hv hdr
  generalize ith l 0 = K at *
  generalize l.drop 1 = l1 at *
  generalize l.length = N at *
  have hc1 := hc0.out
  rw [Nat.add_zero] at hc1
  have hck := Lib.hid (fun w' (h : Below W.heap.size W w') => (h.cell (p := ⟨b, o, none⟩) g3).trans hc1)
  have hd := Lib.hid (show Below W.heap.size W W.drew from (Below.refl _ _).drew)
  have hda := Lib.hid (show Below W.heap.size W (W.alloc (.cells #[.int .u8 0, .int .i64 0, .int .u64 0, .string ⟨#[]⟩] 26)).drew from (below_a W _).drew)
  have hra := Lib.hid (show (W.alloc (.cells #[.int .u8 0, .int .i64 0, .int .u64 0, .string ⟨#[]⟩] 26)).drew.heap[W.heap.size]? = _ from heap_alloc_new W (.cells #[.int .u8 0, .int .i64 0, .int .u64 0, .string ⟨#[]⟩] 26))
  have hsa := Lib.hid (show W.heap.size < (W.alloc (.cells #[.int .u8 0, .int .i64 0, .int .u64 0, .string ⟨#[]⟩] 26)).drew.heap.size by simp)
  have hP1 := hP.out _ hd.out
  have hP2 := hP.out _ hda.out
  clear hP hsub
  by_cases hcc : c = 1
  · rw [if_pos hcc] at hP1 hP2
    obtain rfl : N = 1 := by omega
    subst hcc
    rw [show 1 - 1 = 0 from rfl] at hP1 hP2
    have hP1 := Lib.hid hP1
    have hP2 := Lib.hid hP2
    go_enter Try.func18, Try.ntmps18
    go_upto_region 1 with fail
    rw [← hW]
    clear hW
    go_upto_region 3 with fail
    go_region_held3 (fun w' => w'.cell? ⟨b, o, none⟩ = some (.int .u8 K)) (first | go_keep | (exact hck.out _ hb6.out) | (exact hck.out _ (hb6.out.alloc hb6.out.size _)) | (exact hck.out _ (fin4 hr6.out hb6.out (Nat.le_refl _)).2))
      (first | (go_at_call 42; (with_reducible refine (hP1.out).mono ?_); rintro e w6 ⟨rfl, h6⟩; have hb6 := Lib.hid (hd.out.trans (h6.mono hd.out.size)); clear h6) | (go_at_call 42; (with_reducible refine (hP2.out).mono ?_); rintro e w6 ⟨rfl, h6⟩; have hb6 := Lib.hid (hda.out.trans (h6.mono hda.out.size)); have hr6 := Lib.hid (rowB hra.out h6 hsa.out); obtain ⟨⟨k0, k1, k2, k3⟩, l0, l1, l2, l3⟩ := four_of hr6.out; clear h6))
    · have hlt := (Array.getElem?_eq_some_iff.1 hrow.out).1
      have hl := Lib.hid (heap_alloc_new w6 (.cells (vC va vn vb vs) 26))
      have hb7 := hb6.out.alloc hb6.out.size (.cells (vC va vn vb vs) 26)
      have hz := Lib.hid (rowB hrow.out hb7 hlt)
      have hB7 := Lib.hid (hB.out.trans (hb7.mono hB.out.size))
      clear hb7 hlt
      generalize w6.heap.size = gl at *
      generalize w6.alloc (.cells (vC va vn vb vs) 26) = w7 at *
      by_cases hx : vx = 0
      · have hR2 := Lib.hid (hR'.out.trans (if_pos hx))
        have hxb : (vx != 0) = false := by simpa using hx
        clear hx hR'
        go_wp2_with (first | (refine wpList_load_row_g rfl 26 _ rfl (gl) rfl 26 (vC va vn vb vs) (0, 0) _ hl.out Try.underlying26 rfl info_val ?_) | (refine storeOver _ w.heap.size _ rfl 26 _ _ rfl (vC va vn vb vs) 26 hz.out rfl rfl info_val rfl (val_one _ _ _ _) ?_; intro w9 hr9 hb9; have hr9' := Lib.hid hr9; have hb9' := Lib.hid hb9; clear hr9 hb9))
        exact bodyPost_ret (results_row_tmp2 rfl _ _ w.heap.size 26 _ _ _ rfl hr9'.out Try.underlying26 rfl info_val) rfl ⟨by rw [hR2.out]; rfl, hB7.out.trans hb9'.out⟩
      · have hR2 := Lib.hid (hR'.out.trans (if_neg hx))
        have hxb : (vx != 0) = true := by simpa using hx
        clear hx hR'
        go_wp2_with (refine storeOver _ w.heap.size _ rfl 26 _ _ rfl (vC 0 0 0 ⟨#[]⟩) 26 hz.out rfl rfl info_val rfl (val_one _ _ _ _) ?_; intro w9 hr9 hb9; have hr9' := Lib.hid hr9; have hb9' := Lib.hid hb9; clear hr9 hb9)
        exact bodyPost_ret (results_row_tmp2 rfl _ _ w.heap.size 26 _ _ _ rfl hr9'.out Try.underlying26 rfl info_val) rfl ⟨by rw [hR2.out]; rfl, hB7.out.trans hb9'.out⟩
    · have hlt := (Array.getElem?_eq_some_iff.1 hrow.out).1
      obtain ⟨hl0, hb7⟩ := fin4 (x0 := .int .u8 va) (x1 := .int .i64 vn) (x2 := .int .u64 (vb : Int)) (x3 := .string vs) hr6.out hb6.out (Nat.le_refl _)
      have hl := Lib.hid hl0
      have hz := Lib.hid (rowB hrow.out hb7 hlt)
      have hB7 := Lib.hid (hB.out.trans (hb7.mono hB.out.size))
      clear hb7 hlt hl0 k0 k1 k2 k3 l0 l1 l2 l3
      generalize (((w6.setCell _ _).setCell _ _).setCell _ _).setCell _ _ = w7 at *
      by_cases hx : vx = 0
      · have hR2 := Lib.hid (hR'.out.trans (if_pos hx))
        have hxb : (vx != 0) = false := by simpa using hx
        clear hx hR'
        go_wp2_with (first | (refine wpList_load_row_g rfl 26 _ rfl (W.heap.size) rfl 26 (vC va vn vb vs) (0, 0) _ hl.out Try.underlying26 rfl info_val ?_) | (refine storeOver _ w.heap.size _ rfl 26 _ _ rfl (vC va vn vb vs) 26 hz.out rfl rfl info_val rfl (val_one _ _ _ _) ?_; intro w9 hr9 hb9; have hr9' := Lib.hid hr9; have hb9' := Lib.hid hb9; clear hr9 hb9))
        exact bodyPost_ret (results_row_tmp2 rfl _ _ w.heap.size 26 _ _ _ rfl hr9'.out Try.underlying26 rfl info_val) rfl ⟨by rw [hR2.out]; rfl, hB7.out.trans hb9'.out⟩
      · have hR2 := Lib.hid (hR'.out.trans (if_neg hx))
        have hxb : (vx != 0) = true := by simpa using hx
        clear hx hR'
        go_wp2_with (refine storeOver _ w.heap.size _ rfl 26 _ _ rfl (vC 0 0 0 ⟨#[]⟩) 26 hz.out rfl rfl info_val rfl (val_one _ _ _ _) ?_; intro w9 hr9 hb9; have hr9' := Lib.hid hr9; have hb9' := Lib.hid hb9; clear hr9 hb9)
        exact bodyPost_ret (results_row_tmp2 rfl _ _ w.heap.size 26 _ _ _ rfl hr9'.out Try.underlying26 rfl info_val) rfl ⟨by rw [hR2.out]; rfl, hB7.out.trans hb9'.out⟩
  · rw [if_neg hcc] at hP1 hP2
    have hP1 := Lib.hid hP1
    have hP2 := Lib.hid hP2
    have i1 : (1 : Int) ≤ (N : Int) := by omega
    have i2 : (N : Int) ≤ (c : Int) := by omega
    have i3 : (0 : Int) < (N : Int) := by omega
    have i4 : 0 < N := by omega
    go_enter Try.func18, Try.ntmps18
    go_upto_region 1 with fail
    rw [← hW]
    clear hW
    go_upto_region 3 with fail
    go_region_held3 (fun w' => w'.cell? ⟨b, o, none⟩ = some (.int .u8 K)) (first | go_keep | (exact hck.out _ hb6.out) | (exact hck.out _ (hb6.out.alloc hb6.out.size _)) | (exact hck.out _ (fin4 hr6.out hb6.out (Nat.le_refl _)).2))
      (first | (go_at_call 42; (with_reducible refine (hP1.out).mono ?_); rintro e w6 ⟨rfl, h6⟩; have hb6 := Lib.hid (hd.out.trans (h6.mono hd.out.size)); clear h6) | (go_at_call 42; (with_reducible refine (hP2.out).mono ?_); rintro e w6 ⟨rfl, h6⟩; have hb6 := Lib.hid (hda.out.trans (h6.mono hda.out.size)); have hr6 := Lib.hid (rowB hra.out h6 hsa.out); obtain ⟨⟨k0, k1, k2, k3⟩, l0, l1, l2, l3⟩ := four_of hr6.out; clear h6))
    · have hlt := (Array.getElem?_eq_some_iff.1 hrow.out).1
      have hl := Lib.hid (heap_alloc_new w6 (.cells (vC va vn vb vs) 26))
      have hb7 := hb6.out.alloc hb6.out.size (.cells (vC va vn vb vs) 26)
      have hz := Lib.hid (rowB hrow.out hb7 hlt)
      have hB7 := Lib.hid (hB.out.trans (hb7.mono hB.out.size))
      clear hb7 hlt
      generalize w6.heap.size = gl at *
      generalize w6.alloc (.cells (vC va vn vb vs) 26) = w7 at *
      by_cases hx : vx = 0
      · have hR2 := Lib.hid (hR'.out.trans (if_pos hx))
        have hxb : (vx != 0) = false := by simpa using hx
        clear hx hR'
        go_wp2_with (first | (refine wpList_load_row_g rfl 26 _ rfl (gl) rfl 26 (vC va vn vb vs) (0, 0) _ hl.out Try.underlying26 rfl info_val ?_) | (refine storeOver _ w.heap.size _ rfl 26 _ _ rfl (vC va vn vb vs) 26 hz.out rfl rfl info_val rfl (val_one _ _ _ _) ?_; intro w9 hr9 hb9; have hr9' := Lib.hid hr9; have hb9' := Lib.hid hb9; clear hr9 hb9))
        exact bodyPost_ret (results_row_tmp2 rfl _ _ w.heap.size 26 _ _ _ rfl hr9'.out Try.underlying26 rfl info_val) rfl ⟨by rw [hR2.out]; rfl, hB7.out.trans hb9'.out⟩
      · have hR2 := Lib.hid (hR'.out.trans (if_neg hx))
        have hxb : (vx != 0) = true := by simpa using hx
        clear hx hR'
        go_wp2_with (refine storeOver _ w.heap.size _ rfl 26 _ _ rfl (vC 0 0 0 ⟨#[]⟩) 26 hz.out rfl rfl info_val rfl (val_one _ _ _ _) ?_; intro w9 hr9 hb9; have hr9' := Lib.hid hr9; have hb9' := Lib.hid hb9; clear hr9 hb9)
        exact bodyPost_ret (results_row_tmp2 rfl _ _ w.heap.size 26 _ _ _ rfl hr9'.out Try.underlying26 rfl info_val) rfl ⟨by rw [hR2.out]; rfl, hB7.out.trans hb9'.out⟩
    · have hlt := (Array.getElem?_eq_some_iff.1 hrow.out).1
      obtain ⟨hl0, hb7⟩ := fin4 (x0 := .int .u8 va) (x1 := .int .i64 vn) (x2 := .int .u64 (vb : Int)) (x3 := .string vs) hr6.out hb6.out (Nat.le_refl _)
      have hl := Lib.hid hl0
      have hz := Lib.hid (rowB hrow.out hb7 hlt)
      have hB7 := Lib.hid (hB.out.trans (hb7.mono hB.out.size))
      clear hb7 hlt hl0 k0 k1 k2 k3 l0 l1 l2 l3
      generalize (((w6.setCell _ _).setCell _ _).setCell _ _).setCell _ _ = w7 at *
      by_cases hx : vx = 0
      · have hR2 := Lib.hid (hR'.out.trans (if_pos hx))
        have hxb : (vx != 0) = false := by simpa using hx
        clear hx hR'
        go_wp2_with (first | (refine wpList_load_row_g rfl 26 _ rfl (W.heap.size) rfl 26 (vC va vn vb vs) (0, 0) _ hl.out Try.underlying26 rfl info_val ?_) | (refine storeOver _ w.heap.size _ rfl 26 _ _ rfl (vC va vn vb vs) 26 hz.out rfl rfl info_val rfl (val_one _ _ _ _) ?_; intro w9 hr9 hb9; have hr9' := Lib.hid hr9; have hb9' := Lib.hid hb9; clear hr9 hb9))
        exact bodyPost_ret (results_row_tmp2 rfl _ _ w.heap.size 26 _ _ _ rfl hr9'.out Try.underlying26 rfl info_val) rfl ⟨by rw [hR2.out]; rfl, hB7.out.trans hb9'.out⟩
      · have hR2 := Lib.hid (hR'.out.trans (if_neg hx))
        have hxb : (vx != 0) = true := by simpa using hx
        clear hx hR'
        go_wp2_with (refine storeOver _ w.heap.size _ rfl 26 _ _ rfl (vC 0 0 0 ⟨#[]⟩) 26 hz.out rfl rfl info_val rfl (val_one _ _ _ _) ?_; intro w9 hr9 hb9; have hr9' := Lib.hid hr9; have hb9' := Lib.hid hb9; clear hr9 hb9)
        exact bodyPost_ret (results_row_tmp2 rfl _ _ w.heap.size 26 _ _ _ rfl hr9'.out Try.underlying26 rfl info_val) rfl ⟨by rw [hR2.out]; rfl, hB7.out.trans hb9'.out⟩
end Go.Proofs.Ytpklfohaifeboaa

/- Contract of digest.ending: the last bytes of a mill. -/
import Derived.Test.YtegffpjhdodldaaDoorD01c
import Derived.Test.YtegffpjhdodldaaDoorLibB
namespace Go.Proofs.YtegffpjhdodldaaDoor
open Go.RowKit Go.YtegffpjhdodldaaDoor
set_option linter.unusedVariables false
theorem put4_at (L S : List Int) (a b c d x : Int) : put4 (L ++ a :: b :: c :: d :: S) L.length x = L ++ (be4 x ++ S) := by
  unfold put4 be4
  rw [List.set_append_right _ _ (Nat.le_refl _), List.set_append_right _ _ (by omega), List.set_append_right _ _ (by omega), List.set_append_right _ _ (by omega)]
  simp
theorem put4_append (L : List Int) (a b c d x : Int) : put4 (L ++ [a, b, c, d]) L.length x = L ++ be4 x := by
  rw [put4_at]; simp
theorem overlay_ending (r : List Int) (sz : Nat) (N : Nat) (h : r.length + 5 ≤ sz) (hsz : endSize r.length = sz) :
    put4 ((overlay (zerosB sz) 0 r).set r.length 128) (sz - 4) (8 * (N : Int)) = endingF r N := by
  have e1 : (overlay (zerosB sz) 0 r).set r.length 128 = (r ++ [128] ++ List.replicate (sz - 4 - (r.length + 1)) 0) ++ [0, 0, 0, 0] := by
    have e2 : List.replicate (sz - r.length) (0 : Int) = 0 :: (List.replicate (sz - 4 - (r.length + 1)) 0 ++ [0, 0, 0, 0]) := by
      have : sz - r.length = (sz - 4 - (r.length + 1)) + 4 + 1 := by omega
      rw [this, List.replicate_succ]
      congr 1
      rw [← List.replicate_append_replicate]
      rfl
    have e3 : overlay (zerosB sz) 0 r = r ++ List.replicate (sz - r.length) 0 := by simp [overlay, zerosB]
    rw [e3, List.set_append_right _ _ (Nat.le_refl _), Nat.sub_self, e2, List.set_cons_zero]
    simp
  have e4 : (r ++ [128] ++ List.replicate (sz - 4 - (r.length + 1)) (0 : Int)).length = sz - 4 := by simp; omega
  have e5 := put4_append (r ++ [128] ++ List.replicate (sz - 4 - (r.length + 1)) (0 : Int)) 0 0 0 0 (8 * (N : Int))
  rw [e4] at e5
  rw [e1, e5]
  unfold endingF
  rw [hsz]
theorem rd_row {w : World} {g : Nat} {cs : List Int} {E : TypeId} (hg : w.heap[g]? = some (.cells (u8s cs) E (0, 0))) (n c : Nat) (hn : cs.length = n) (hc : n ≤ c) (hm : c ≤ maxLen) :
    RdB w (.slice (some ⟨g, 0, none⟩) n c) cs :=
  .inr ⟨g, 0, c, by rw [hn], by omega, hm, (Array.getElem?_eq_some_iff.1 hg).1, fun i hi => by rw [Nat.zero_add, cell_of_row _ _ _ _ _ _ hg]; exact u8s_get _ _ hi⟩
set_option maxRecDepth 100000 in
set_option maxHeartbeats 1000000 in
theorem ending_any (v : V8) (rv : Value) (r : List Int) (N : Nat) (w : World) (hN : N ≤ 200000) (hr : RdB w rv r) (hrl : r.length < 64) :
    Calls Tryd.prog 63 #[.agg #[.int .u32 v.a, .int .u32 v.b, .int .u32 v.c, .int .u32 v.d, .int .u32 v.e, .int .u32 v.f, .int .u32 v.g, .int .u32 v.h, rv, .int .i64 N]] w fun e w' => ∃ b', e = .returned b' ∧ RdB w' b' (endingF r N) ∧ Below w.heap.size w w' := by
  obtain ⟨ra, rc, rfl⟩ := hr.slice
  have hrW : ∀ o1 o2, RdB ((w.alloc o1).alloc o2) (.slice ra r.length rc) r := fun o1 o2 => hr.mono (((Below.refl _ _).alloc (Nat.le_refl _) _).alloc (by simp) _)
  have hrW' := Lib.hid hrW; clear hrW hr
  have hmk : ∀ wx, (Instr.makeSlice 40 (.int .i64 64) (.int .i64 64)).run Tryd.prog wx = .ok (.slice (some ⟨wx.heap.size, 0, none⟩) 64 64) (wx.alloc (.cells (u8s (zerosB 64)) 5)) := fun wx => run_makeB wx _ _ Tryd.underlying40 (by kernel_rfl) 64 64 (by omega) (by omega)
  have hmk2 : ∀ wx, (Instr.makeSlice 40 (.int .i64 128) (.int .i64 128)).run Tryd.prog wx = .ok (.slice (some ⟨wx.heap.size, 0, none⟩) 128 128) (wx.alloc (.cells (u8s (zerosB 128)) 5)) := fun wx => run_makeB wx _ _ Tryd.underlying40 (by kernel_rfl) 128 128 (by omega) (by omega)
  go_enter Tryd.func63, Tryd.ntmps63
  by_cases hc : 64 < r.length + 9
  · have hend : endSize r.length = 128 := by unfold endSize; first | rw [if_pos (by omega)] | rw [if_neg (by omega)]
    have hend' := Lib.hid hend; clear hend
    have hp1' : r.length < 128 := by omega
    have hp2' : r.length + 5 ≤ 128 := by omega
    go_wp2_with (refine copyB rfl _ _ 40 40 rfl 5 Tryd.underlying40 (by kernel_rfl) (w.heap.size + 1) 0 128 128 rfl (.slice ra r.length rc) rfl r (hrW'.out _ _) (zerosB 128) 5 (hn2 w _ _) (by omega) (by rw [zerosB_length]; omega) ?_)
    intro W1 hW1
    have hq1 : W1.heap[w.heap.size + 1]? = some (.cells (u8s (overlay (zerosB 128) 0 r)) 5 (0, 0)) := by rw [hW1.out]; exact setRow_heap _ _ _ _ _ _ (hn2 w _ _)
    have hq0 : W1.heap[w.heap.size]? = some (.cells #[.int .u32 v.a, .int .u32 v.b, .int .u32 v.c, .int .u32 v.d, .int .u32 v.e, .int .u32 v.f, .int .u32 v.g, .int .u32 v.h, .slice ra r.length rc, .int .i64 N] 51 (0, 0)) := by rw [hW1.out, setRow_other _ _ _ _ (by omega)]; exact (hp1 _ _ _ (by simp)).trans (heap_alloc_new w _)
    have c8 : W1.cell? ⟨w.heap.size, 8, none⟩ = some (.slice ra r.length rc) := by rw [cell_of_row _ _ _ _ _ _ hq0]; rfl
    have c9 : W1.cell? ⟨w.heap.size, 9, none⟩ = some (.int .i64 N) := by rw [cell_of_row _ _ _ _ _ _ hq0]; rfl
    have hB1 : Below w.heap.size w W1 := by rw [hW1.out]; exact below_setRow' (((Below.refl _ _).alloc (Nat.le_refl _) _).alloc (by simp) _) (by omega) _
    have hlen : (overlay (zerosB 128) 0 r).length = 128 := by simp [overlay, zerosB_length]; omega
    have hfz := frozen_of_row _ _ r.length _ _ hq1
    have hcz := (cell_of_row _ _ r.length _ _ _ hq1).trans (u8s_get _ _ (by omega))
    have hq2 := setCell_row hq1 r.length (.int .u8 128)
    rw [u8s_set] at hq2
    have hq2' := Lib.hid hq2; have hlen' := Lib.hid hlen
    clear hq1 hq0 hW1 hq2 hlen hmk hmk2
    have hB2 := Below.setCell hB1 (p := (⟨w.heap.size + 1, r.length, none⟩ : Addr)) (by simp) (.int .u8 128)
    refine Stop.go ?_
    go_wp2
    have hA2 : In32 (8 * (N : Int)) := ⟨by omega, by omega⟩
    have hA3 : Hid (124 + 4 ≤ ((overlay (zerosB 128) 0 r).set r.length 128).length) := Lib.hid (by rw [List.length_set, hlen'.out]; omega)
    have hwr1 : IntKind.i64.wrap (8 * (N : Int)) = 8 * (N : Int) := IntWalk.i64_in _ (by omega)
    have hwr2 : IntKind.u32.wrap (8 * (N : Int)) = 8 * (N : Int) := IntWalk.u32_in _ (by omega)
    go_region_with (go_at_call 64; refine (putWord_any (w.heap.size + 1) 124 4 4 _ 5 (8 * (N : Int)) _ (Nat.le_refl _) hA2 ?_ hA3.out).mono ?_; (exact hq2'.out); rintro e w' ⟨rfl, hw'⟩; have hw'' := Lib.hid hw'; clear hw' hwr1 hwr2)
    all_goals
      go_wp2
      go_ret
      refine ⟨_, rfl, ?_, ?_⟩
      · refine rd_row (E := 5) (by rw [hw''.out, overlay_ending r 128 N hp2' hend'.out]; exact setRow_heap _ _ _ _ _ _ hq2'.out) 128 128 ?_ (Nat.le_refl _) (by unfold maxLen; omega)
        rw [endingF_length _ _ hrl]; exact hend'.out
      · rw [hw''.out]; have hB3 : Below w.heap.size w ((W1.setCell ⟨w.heap.size + 1, r.length, none⟩ (.int .u8 128)).drew) := hB2.drew; exact below_setRow' (g := w.heap.size + 1) hB3 (by omega) _
  · have hend : endSize r.length = 64 := by unfold endSize; first | rw [if_pos (by omega)] | rw [if_neg (by omega)]
    have hend' := Lib.hid hend; clear hend
    have hp1' : r.length < 64 := by omega
    have hp2' : r.length + 5 ≤ 64 := by omega
    go_wp2_with (refine copyB rfl _ _ 40 40 rfl 5 Tryd.underlying40 (by kernel_rfl) (w.heap.size + 1) 0 64 64 rfl (.slice ra r.length rc) rfl r (hrW'.out _ _) (zerosB 64) 5 (hn2 w _ _) (by omega) (by rw [zerosB_length]; omega) ?_)
    intro W1 hW1
    have hq1 : W1.heap[w.heap.size + 1]? = some (.cells (u8s (overlay (zerosB 64) 0 r)) 5 (0, 0)) := by rw [hW1.out]; exact setRow_heap _ _ _ _ _ _ (hn2 w _ _)
    have hq0 : W1.heap[w.heap.size]? = some (.cells #[.int .u32 v.a, .int .u32 v.b, .int .u32 v.c, .int .u32 v.d, .int .u32 v.e, .int .u32 v.f, .int .u32 v.g, .int .u32 v.h, .slice ra r.length rc, .int .i64 N] 51 (0, 0)) := by rw [hW1.out, setRow_other _ _ _ _ (by omega)]; exact (hp1 _ _ _ (by simp)).trans (heap_alloc_new w _)
    have c8 : W1.cell? ⟨w.heap.size, 8, none⟩ = some (.slice ra r.length rc) := by rw [cell_of_row _ _ _ _ _ _ hq0]; rfl
    have c9 : W1.cell? ⟨w.heap.size, 9, none⟩ = some (.int .i64 N) := by rw [cell_of_row _ _ _ _ _ _ hq0]; rfl
    have hB1 : Below w.heap.size w W1 := by rw [hW1.out]; exact below_setRow' (((Below.refl _ _).alloc (Nat.le_refl _) _).alloc (by simp) _) (by omega) _
    have hlen : (overlay (zerosB 64) 0 r).length = 64 := by simp [overlay, zerosB_length]; omega
    have hfz := frozen_of_row _ _ r.length _ _ hq1
    have hcz := (cell_of_row _ _ r.length _ _ _ hq1).trans (u8s_get _ _ (by omega))
    have hq2 := setCell_row hq1 r.length (.int .u8 128)
    rw [u8s_set] at hq2
    have hq2' := Lib.hid hq2; have hlen' := Lib.hid hlen
    clear hq1 hq0 hW1 hq2 hlen hmk hmk2
    have hB2 := Below.setCell hB1 (p := (⟨w.heap.size + 1, r.length, none⟩ : Addr)) (by simp) (.int .u8 128)
    refine Stop.go ?_
    go_wp2
    have hA2 : In32 (8 * (N : Int)) := ⟨by omega, by omega⟩
    have hA3 : Hid (60 + 4 ≤ ((overlay (zerosB 64) 0 r).set r.length 128).length) := Lib.hid (by rw [List.length_set, hlen'.out]; omega)
    have hwr1 : IntKind.i64.wrap (8 * (N : Int)) = 8 * (N : Int) := IntWalk.i64_in _ (by omega)
    have hwr2 : IntKind.u32.wrap (8 * (N : Int)) = 8 * (N : Int) := IntWalk.u32_in _ (by omega)
    go_region_with (go_at_call 64; refine (putWord_any (w.heap.size + 1) 60 4 4 _ 5 (8 * (N : Int)) _ (Nat.le_refl _) hA2 ?_ hA3.out).mono ?_; (exact hq2'.out); rintro e w' ⟨rfl, hw'⟩; have hw'' := Lib.hid hw'; clear hw' hwr1 hwr2)
    all_goals
      go_wp2
      go_ret
      refine ⟨_, rfl, ?_, ?_⟩
      · refine rd_row (E := 5) (by rw [hw''.out, overlay_ending r 64 N hp2' hend'.out]; exact setRow_heap _ _ _ _ _ _ hq2'.out) 64 64 ?_ (Nat.le_refl _) (by unfold maxLen; omega)
        rw [endingF_length _ _ hrl]; exact hend'.out
      · rw [hw''.out]; have hB3 : Below w.heap.size w ((W1.setCell ⟨w.heap.size + 1, r.length, none⟩ (.int .u8 128)).drew) := hB2.drew; exact below_setRow' (g := w.heap.size + 1) hB3 (by omega) _
end Go.Proofs.YtegffpjhdodldaaDoor

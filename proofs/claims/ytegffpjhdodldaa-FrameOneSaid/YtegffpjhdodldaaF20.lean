/- Layer 7: the laws' own examples: alive. -/
import Derived.Test.YtegffpjhdodldaaF18
import Derived.Test.YtegffpjhdodldaaF19
namespace Go.Proofs.Ytegffpjhdodldaa
open Go.RowKit Go.Ytegffpjhdodldaa
set_option linter.unusedVariables false
theorem bytes_lit {l : List Int} (h : l.all (fun x => decide (0 ≤ x) && decide (x < 256)) = true) : Bytes l := by
  intro i
  unfold ith
  cases hi : l[i]? with
  | none => exact ⟨by decide, by decide⟩
  | some x =>
    have h2 := List.all_eq_true.1 h _ (List.mem_of_getElem? hi)
    simp only [Bool.and_eq_true, decide_eq_true_eq] at h2
    exact h2
/-- What Split answers to the ids of the example. -/
theorem split41 (v : Value) (w : World) (hr : RdI w v 41 (risF 41)) : Calls Try.prog 13 #[v, .int .u8 2] w fun e w' =>
    ∃ g c xa xc ya yc, e = .returned (.tuple #[.slice (some ⟨g, 0, none⟩) 2 c, .int .i64 0]) ∧ w'.cell? ⟨g, 2, none⟩ = some (.slice xa 40 xc) ∧ w'.cell? ⟨g, 6, none⟩ = some (.slice ya 1 yc) ∧ g < w'.heap.size ∧ Below w.heap.size w w' := by
  refine (split_any 2 41 (by decide) (risF 41) (bytes_lit (by decide +kernel)) v w hr).mono fun e w' h => ?_
  unfold splitPost at h
  rw [if_pos (show idsK 2 = true by decide), if_pos (show (41 : Nat) ≤ 60 by decide), if_pos (show riseF (risF 41) 41 = true by decide +kernel)] at h
  obtain ⟨hb, v, rfl, ⟨h1, _⟩ | ⟨_, xa, xc, ya, yc, h2, _, _⟩⟩ := h
  · omega
  · rcases h2.2 with ⟨_, h0⟩ | ⟨g, cap, cur, rfl, hbg, hgr, hcn, hcm, hcs, hct⟩
    · cases h0
    · refine ⟨g, cap, xa, xc, ya, yc, rfl, ?_, ?_, (Array.getElem?_eq_some_iff.1 hgr).1, hb⟩
      · have h5 := congrArg (fun l => l[2]?) hct
        rw [cell_of_row _ _ _ _ _ _ hgr]
        simpa [Fr.c] using h5
      · have h5 := congrArg (fun l => l[6]?) hct
        rw [cell_of_row _ _ _ _ _ _ hgr]
        simpa [Fr.c] using h5
def fH : Fr := ⟨1, 300, 0, [], []⟩
def fW : Fr := ⟨3, 0, 0, [], []⟩
def fO : Fr := ⟨5, 0, 0, [], [[97, 98], []]⟩
theorem none_fit (k : Int) (N : Nat) (hk : 0 ≤ k ∧ k < 256) (hN : N < 18446744073709551616) : (⟨k, N, 0, [], []⟩ : Fr).Fit :=
  ⟨hk, hN, Nat.zero_le _, bytes_nil, rfl, Nat.zero_le _, fun i => by rw [num_nil]; exact bytes_nil, fun i => by rw [num_nil]; simp⟩
theorem fO_fit : fO.Fit :=
  ⟨by decide, by decide, by decide, bytes_nil, rfl, by decide, fun i => match i with
    | 0 => bytes_lit (l := [97, 98]) (by decide)
    | 1 => bytes_nil
    | n + 2 => by rw [nthL_out _ _ (by simp [fO])]; exact bytes_nil, fun i => match i with
    | 0 => by decide
    | 1 => by decide
    | n + 2 => by rw [nthL_out _ _ (by simp [fO])]; decide⟩
/-- A call at a row of bytes that was laid just before. -/
theorem is_lit (f : Fr) (ff : f.Fit) (h0 : frOk f = true) (hn : f.n = 0) (hF : f.F = []) (hL : f.L = []) (l : List Int) (hl : frB f = l) (hb : l.all (fun x => decide (0 ≤ x) && decide (x < 256)) = true) (n : Nat) (hln : l.length = n) (h6 : n ≤ 1000) (cells : Array Value) (hc : cells = u8s l) (w : World) (fv : Value) (hv : fv = .agg (f.c (.slice none 0 0) (.slice none 0 0))) :
    Calls Try.prog 27 #[fv, .slice (some ⟨w.heap.size, 0, none⟩) n n] (w.alloc (.cells cells 5)) fun e w' => e = .returned (.bool true) ∧ Below w.heap.size w w' := by
  subst hc hv
  refine (is_any f ff h0 (by rw [hl]; exact bytes_lit hb) (.slice none 0 0) (.slice none 0 0) _ (w.alloc (.cells (u8s l) 5)) (by rw [hn, hF]; exact .inl ⟨none, 0, rfl, fun _ => rfl, rfl, rfl⟩) (by rw [hL]; exact RdS.nil _) (by rw [hl]; exact rdB_row (heap_alloc_new w _) n hln (by unfold maxLen; omega))).mono fun e w' ⟨he, hb⟩ => ⟨he, (below_a w _).trans (hb.mono (by simp))⟩
theorem ref_lit (l : List Int) (hp : parseF l = none) (hb : l.all (fun x => decide (0 ≤ x) && decide (x < 256)) = true) (n : Nat) (hln : l.length = n) (h6 : n ≤ 1000) (cells : Array Value) (hc : cells = u8s l) (w : World) :
    Calls Try.prog 26 #[.slice (some ⟨w.heap.size, 0, none⟩) n n] (w.alloc (.cells cells 5)) fun e w' => e = .returned (.bool true) ∧ Below w.heap.size w w' := by
  subst hc
  exact (refused_any l (bytes_lit hb) hp _ (w.alloc (.cells (u8s l) 5)) (rdB_row (heap_alloc_new w _) n hln (by unfold maxLen; omega))).mono fun e w' ⟨he, hb⟩ => ⟨he, (below_a w _).trans (hb.mono (by simp))⟩
theorem is_h (w : World) : Calls Try.prog 27 #[.agg #[.int .u8 1, .int .u64 300, .slice none 0 0, .slice none 0 0], .slice (some ⟨w.heap.size, 0, none⟩) 4 4] (w.alloc (.cells #[.int .u8 1, .int .u8 249, .int .u8 1, .int .u8 44] 5)) fun e w' => e = .returned (.bool true) ∧ Below w.heap.size w w' :=
  is_lit fH (none_fit 1 300 (by decide) (by decide)) (by decide +kernel) rfl rfl rfl [1, 249, 1, 44] (by decide +kernel) (by decide) 4 rfl (by decide) _ rfl w _ rfl
theorem is_w (w : World) : Calls Try.prog 27 #[.agg #[.int .u8 3, .int .u64 0, .slice none 0 0, .slice none 0 0], .slice (some ⟨w.heap.size, 0, none⟩) 2 2] (w.alloc (.cells #[.int .u8 3, .int .u8 0] 5)) fun e w' => e = .returned (.bool true) ∧ Below w.heap.size w w' :=
  is_lit fW (none_fit 3 0 (by decide) (by decide)) (by decide +kernel) rfl rfl rfl [3, 0] (by decide +kernel) (by decide) 2 rfl (by decide) _ rfl w _ rfl
theorem ref_7 (w : World) : Calls Try.prog 26 #[.slice (some ⟨w.heap.size, 0, none⟩) 2 2] (w.alloc (.cells #[.int .u8 7, .int .u8 0] 5)) fun e w' => e = .returned (.bool true) ∧ Below w.heap.size w w' :=
  ref_lit [7, 0] (by decide +kernel) (by decide) 2 rfl (by decide) _ rfl w
theorem ref_1 (w : World) : Calls Try.prog 26 #[.slice (some ⟨w.heap.size, 0, none⟩) 1 1] (w.alloc (.cells #[.int .u8 1] 5)) fun e w' => e = .returned (.bool true) ∧ Below w.heap.size w w' :=
  ref_lit [1] (by decide +kernel) (by decide) 1 rfl (by decide) _ rfl w
theorem is_o (w : World) : Calls Try.prog 27 #[.agg #[.int .u8 5, .int .u64 0, .slice none 0 0, .slice (some ⟨w.heap.size + 1, 0, none⟩) 2 2], .slice (some ⟨w.heap.size + 1 + 1, 0, none⟩) 6 6]
    (((w.alloc (.cells #[.int .u8 97, .int .u8 98] 5)).alloc (.cells #[.slice (some ⟨w.heap.size, 0, none⟩) 2 2, .slice none 0 0] 29)).alloc (.cells #[.int .u8 5, .int .u8 2, .int .u8 2, .int .u8 97, .int .u8 98, .int .u8 0] 5)) fun e w' => e = .returned (.bool true) ∧ Below w.heap.size w w' := by
  have z1 : (w.alloc (.cells #[.int .u8 97, .int .u8 98] 5)).heap.size = w.heap.size + 1 := by simp
  have r1 : RdB (w.alloc (.cells #[.int .u8 97, .int .u8 98] 5)) (.slice (some ⟨w.heap.size, 0, none⟩) 2 2) [97, 98] := rdB_row (cs := [97, 98]) (heap_alloc_new w _) 2 rfl (by decide)
  have b1 := below_a w (.cells #[.int .u8 97, .int .u8 98] 5)
  generalize w.alloc (.cells #[.int .u8 97, .int .u8 98] 5) = w1 at *
  have r2 := heap_alloc_new w1 (.cells #[.slice (some ⟨w.heap.size, 0, none⟩) 2 2, .slice none 0 0] 29)
  have z2 : (w1.alloc (.cells #[.slice (some ⟨w.heap.size, 0, none⟩) 2 2, .slice none 0 0] 29)).heap.size = w.heap.size + 1 + 1 := by simp [z1]
  have b2 := below_a w1 (.cells #[.slice (some ⟨w.heap.size, 0, none⟩) 2 2, .slice none 0 0] 29)
  generalize w1.alloc (.cells #[.slice (some ⟨w.heap.size, 0, none⟩) 2 2, .slice none 0 0] 29) = w2 at *
  have r3 := heap_alloc_new w2 (.cells #[.int .u8 5, .int .u8 2, .int .u8 2, .int .u8 97, .int .u8 98, .int .u8 0] 5)
  have b3 := below_a w2 (.cells #[.int .u8 5, .int .u8 2, .int .u8 2, .int .u8 97, .int .u8 98, .int .u8 0] 5)
  generalize w2.alloc (.cells #[.int .u8 5, .int .u8 2, .int .u8 2, .int .u8 97, .int .u8 98, .int .u8 0] 5) = w3 at *
  rw [z1] at r2
  rw [z2] at r3
  have r1' := (r1.mono b2).mono b3
  have r2' := (rowB r2 b3 (Array.getElem?_eq_some_iff.1 r2).1)
  have hb : frB fO = [5, 2, 2, 97, 98, 0] := by decide +kernel
  have hS : RdS w3 (.slice (some ⟨w.heap.size + 1, 0, none⟩) 2 2) fO.L := .inr ⟨w.heap.size + 1, 0, 2, rfl, Nat.le_refl _, by decide, (Array.getElem?_eq_some_iff.1 r2').1, fun i hi => by
    rw [Nat.zero_add, cell_of_row _ _ _ _ _ _ r2']
    match i, hi with
    | 0, _ => exact ⟨_, rfl, r1'⟩
    | 1, _ => exact ⟨_, rfl, .inl ⟨none, 0, rfl, fun _ => rfl, rfl⟩⟩⟩
  refine (is_any fO fO_fit (by decide +kernel) (by rw [hb]; exact bytes_lit (by decide)) (.slice none 0 0) _ _ w3 (.inl ⟨none, 0, rfl, fun _ => rfl, rfl, rfl⟩) hS (by rw [hb]; exact rdB_row (cs := [5, 2, 2, 97, 98, 0]) r3 6 rfl (by decide))).mono fun e w' ⟨he, h⟩ => ⟨he, ?_⟩
  have c2 := b1.trans (b2.mono (by omega))
  have c3 := c2.trans (b3.mono c2.size)
  exact c3.trans (h.mono c3.size)
set_option maxHeartbeats 4000000 in
set_option maxRecDepth 100000 in
theorem alive7 (w : World) : Calls Try.prog 21 #[] w fun e w' => e = .returned (.bool true) ∧ Below w.heap.size w w' := by
  have hR := Lib.hid (show Calls Try.prog 25 #[.int .i64 41] w fun e w' => ∃ a c, e = .returned (.slice a 41 c) ∧ OwnI w.heap.size 58 w' (.slice a 41 c) 41 (risF 41) ∧ Below w.heap.size w w' from ups_any 41 (by decide) w)
  go_enter Try.func21, Try.ntmps21
  go_upto_region 2 with (first
    | (go_at_call 25; (with_reducible refine (hR.out).mono ?_); rintro e w2 ⟨ra, rc, rfl, q1, q2⟩; have hS := Lib.hid (split41 _ w2 q1.rd); have hB := Lib.hid q2; clear q1 q2)
    | (go_at_call 13; (with_reducible refine (hS.out).mono ?_); rintro e w3 ⟨g, c, xa, xc, ya, yc, rfl, q1, q2, q3, q4⟩; replace hB := Lib.hid (hB.out.trans (q4.mono hB.out.size)); have k2 := Lib.hid q1; have k6 := Lib.hid q2; have kg := Lib.hid q3; clear q1 q2 q3 q4))
  go_wp2_with (first
    | (go_at_call 27; (first | (with_reducible refine (is_h _).mono ?_) | (with_reducible refine (is_w _).mono ?_) | (with_reducible refine (is_o _).mono ?_)); rintro e w4 ⟨rfl, q2⟩; replace k2 := Lib.hid ((q2.cell (p := (⟨g, 2, none⟩ : Addr)) kg.out).trans k2.out); replace k6 := Lib.hid ((q2.cell (p := (⟨g, 6, none⟩ : Addr)) kg.out).trans k6.out); replace kg := Lib.hid (Nat.lt_of_lt_of_le kg.out q2.size); replace hB := Lib.hid (hB.out.trans (q2.mono hB.out.size)); clear q2)
    | (go_at_call 26; (first | (with_reducible refine (ref_7 _).mono ?_) | (with_reducible refine (ref_1 _).mono ?_)); rintro e w4 ⟨rfl, q2⟩; replace k2 := Lib.hid ((q2.cell (p := (⟨g, 2, none⟩ : Addr)) kg.out).trans k2.out); replace k6 := Lib.hid ((q2.cell (p := (⟨g, 6, none⟩ : Addr)) kg.out).trans k6.out); replace kg := Lib.hid (Nat.lt_of_lt_of_le kg.out q2.size); replace hB := Lib.hid (hB.out.trans (q2.mono hB.out.size)); clear q2; have c2 := k2.out; have c6 := k6.out))
  go_ret
  exact ⟨rfl, hB.out⟩
end Go.Proofs.Ytegffpjhdodldaa

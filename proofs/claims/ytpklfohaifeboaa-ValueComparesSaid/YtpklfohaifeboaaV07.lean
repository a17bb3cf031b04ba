/- Contracts of package value: Cmp. -/
import Derived.Test.YtpklfohaifeboaaV06
namespace Go.Proofs.Ytpklfohaifeboaa
open Go.RowKit Go.Ytpklfohaifeboaa
set_option linter.unusedVariables false
theorem isNaN_u64 (a : Int) (w : World) : Calls Try.prog 72 #[.int .u64 a] w fun e w' => e = .returned (.bool false) ∧ w = w' := by
  go_enter Try.func72, Try.ntmps72
  go_wp2
  go_ret
  exact ⟨rfl, rfl⟩
theorem compare_u64 (a b : Int) (w : World) : Calls Try.prog 50 #[.int .u64 a, .int .u64 b] w fun e w' => e = .returned (.int .i64 (cmpI a b)) ∧ w = w' := by
  have h1 := Lib.hid (fun w => isNaN_u64 a w)
  have h2 := Lib.hid (fun w => isNaN_u64 b w)
  have hc := Lib.hid (show cmpI a b = if a < b then -1 else if b < a then 1 else 0 from rfl)
  generalize cmpI a b = C at *
  go_enter Try.func50, Try.ntmps50
  go_wp2_with (go_at_call 72; (first | (with_reducible refine (h1.out _).mono ?_) | (with_reducible refine (h2.out _).mono ?_)); rintro e w' ⟨rfl, rfl⟩)
  all_goals
    go_ret
    refine ⟨ret_int ?_, rfl⟩
    rw [hc.out]
    (repeat' split) <;> omega
theorem isNaN_i64 (a : Int) (w : World) : Calls Try.prog 73 #[.int .i64 a] w fun e w' => e = .returned (.bool false) ∧ w = w' := by
  go_enter Try.func73, Try.ntmps73
  go_wp2
  go_ret
  exact ⟨rfl, rfl⟩
theorem compare_i64 (a b : Int) (w : World) : Calls Try.prog 51 #[.int .i64 a, .int .i64 b] w fun e w' => e = .returned (.int .i64 (cmpI a b)) ∧ w = w' := by
  have h1 := Lib.hid (fun w => isNaN_i64 a w)
  have h2 := Lib.hid (fun w => isNaN_i64 b w)
  have hc := Lib.hid (show cmpI a b = if a < b then -1 else if b < a then 1 else 0 from rfl)
  generalize cmpI a b = C at *
  go_enter Try.func51, Try.ntmps51
  go_wp2_with (go_at_call 73; (first | (with_reducible refine (h1.out _).mono ?_) | (with_reducible refine (h2.out _).mono ?_)); rintro e w' ⟨rfl, rfl⟩)
  all_goals
    go_ret
    refine ⟨ret_int ?_, rfl⟩
    rw [hc.out]
    (repeat' split) <;> omega
theorem isNaN_u8 (a : Int) (w : World) : Calls Try.prog 74 #[.int .u8 a] w fun e w' => e = .returned (.bool false) ∧ w = w' := by
  go_enter Try.func74, Try.ntmps74
  go_wp2
  go_ret
  exact ⟨rfl, rfl⟩
theorem compare_u8 (a b : Int) (w : World) : Calls Try.prog 52 #[.int .u8 a, .int .u8 b] w fun e w' => e = .returned (.int .i64 (cmpI a b)) ∧ w = w' := by
  have h1 := Lib.hid (fun w => isNaN_u8 a w)
  have h2 := Lib.hid (fun w => isNaN_u8 b w)
  have hc := Lib.hid (show cmpI a b = if a < b then -1 else if b < a then 1 else 0 from rfl)
  generalize cmpI a b = C at *
  go_enter Try.func52, Try.ntmps52
  go_wp2_with (go_at_call 74; (first | (with_reducible refine (h1.out _).mono ?_) | (with_reducible refine (h2.out _).mono ?_)); rintro e w' ⟨rfl, rfl⟩)
  all_goals
    go_ret
    refine ⟨ret_int ?_, rfl⟩
    rw [hc.out]
    (repeat' split) <;> omega
def orL : List Int → Int
  | [] => 0
  | a :: l => if a = 0 then orL l else a
theorem orL_at : ∀ (l : List Int) (k : Nat), k < l.length → (∀ j, j < k → ith l j = 0) → ith l k ≠ 0 → orL l = ith l k
  | a :: l, 0, _, _, h => by
    have : ith (a :: l) 0 = a := rfl
    rw [this] at h ⊢
    unfold orL; rw [if_neg h]
  | a :: l, k + 1, hk, h0, h => by
    have ha : a = 0 := h0 0 (by omega)
    have e : ith (a :: l) (k + 1) = ith l k := by simp [ith]
    rw [e] at h ⊢
    unfold orL; rw [if_pos ha]
    exact orL_at l k (by simpa using hk) (fun j hj => by have := h0 (j + 1) (by omega); simpa [ith] using this) h
theorem orL_none : ∀ (l : List Int), (∀ j, j < l.length → ith l j = 0) → orL l = 0
  | [], _ => rfl
  | a :: l, h => by
    have ha : a = 0 := h 0 (by simp)
    unfold orL; rw [if_pos ha]
    exact orL_none l (fun j hj => by have := h (j + 1) (by simpa using hj); simpa [ith] using this)
def i64s (l : List Int) : Array Value := (l.map (Value.int .i64)).toArray
theorem i64s_get (l : List Int) (j : Nat) (h : j < l.length) : (i64s l)[j]? = some (.int .i64 (ith l j)) := by simp [i64s, ith, h]
set_option maxRecDepth 100000 in
theorem or_any (L : List Int) (g n : Nat) (hn : L.length = n) (hm : n ≤ 1000) (w : World) (T : TypeId) (fr : Nat × Nat) (hrow : w.heap[g]? = some (.cells (i64s L) T fr)) :
    Calls Try.prog 33 #[.slice (some ⟨g, 0, none⟩) n n] w fun e w' => e = .returned (.int .i64 (orL L)) ∧ w = w' := by
  have hc := Lib.hid (fun j (h : j < n) => (show w.cell? ⟨g, j, none⟩ = some (.int .i64 (ith L j)) from by
    rw [cell_of_row _ _ _ _ _ _ hrow]; exact i64s_get _ _ (by omega)))
  have hlt := Lib.hid (Array.getElem?_eq_some_iff.1 hrow).1
  have ha := Lib.hid (fun k (hk : k < n) => orL_at L k (by omega))
  have hz := Lib.hid (fun (h : ∀ j, j < n → ith L j = 0) => orL_none L (fun j hj => h j (by omega)))
  generalize orL L = R at *
  clear hrow
  have hn' := Lib.hid hn
  clear hn
  go_enter Try.func33, Try.ntmps33
  go_wp2
  go_loop [8] (fun i => ∃ k : Nat, k ≤ n ∧ i = .int .i64 (k : Int) ∧ ∀ j, j < k → ith L j = 0) (fun i => n - (intOf i).toNat)
  case atStart => exact ⟨0, Nat.zero_le _, rfl, fun j hj => absurd hj (Nat.not_lt_zero _)⟩
  case round =>
    obtain ⟨k, hk, rfl, ho⟩ := hrel
    have ho' := Lib.hid ho
    clear ho
    by_cases hlt2 : k < n
    · have c := hc.out k hlt2
      have ha' := Lib.hid (ha.out k hlt2 ho'.out)
      by_cases hx : ith L k = 0
      · rw [hx] at c
        have hx' := Lib.hid hx
        clear hx
        go_wp2
        go_round
        case rel => exact ⟨k + 1, by omega, by go_num, fun j hj => by
          rcases Nat.lt_or_ge j k with h | h
          · exact ho'.out j h
          · obtain rfl : j = k := by omega
            exact hx'.out⟩
        case measure => simp [intOf]; omega
      · have e' := Lib.hid (ha'.out hx)
        have hxb : (ith L k != 0) = true := by simpa using hx
        generalize ith L k = x at *
        go_wp2
        go_ret
        exact ⟨ret_int e'.out.symm, rfl⟩
    · obtain rfl : k = n := by omega
      have e' := Lib.hid (hz.out ho'.out)
      clear hlt2
      go_wp2
      go_ret
      exact ⟨ret_int e'.out.symm, rfl⟩
theorem orL_three (a b c : Int) : orL [a, b, c] = orI a (orI b c) := by
  simp only [orL, orI]
  split
  · split
    · split <;> simp_all
    · rfl
  · rfl
theorem orL_two (a b : Int) : orL [a, b] = orI a b := by
  simp only [orL, orI]
  split
  · split <;> simp_all
  · rfl
set_option maxHeartbeats 1000000 in
set_option maxRecDepth 100000 in
theorem cmpPlaces_any (f : Nat) (r k : Int) (f' : Nat) (r' k' : Int) (w : World) :
    Calls Try.prog 34 #[plA f r k, plA f' r' k'] w fun e w' => e = .returned (.int .i64 (orI (cmpI f f') (orI (cmpI r r') (cmpI k k')))) ∧ Below w.heap.size w w' := by
  have h1 := Lib.hid (fun w => compare_u64 (f : Int) (f' : Int) w)
  have h2 := Lib.hid (fun w => compare_i64 r r' w)
  have h3 := Lib.hid (fun w => compare_u8 k k' w)
  have hO := Lib.hid (fun (g : Nat) (w : World) (T : TypeId) (fr : Nat × Nat) => or_any [cmpI f f', cmpI r r', cmpI k k'] g 3 rfl (by decide) w T fr)
  rw [orL_three] at hO
  generalize orI (cmpI f f') (orI (cmpI r r') (cmpI k k')) = R at *
  generalize cmpI (f : Int) (f' : Int) = C1 at *
  generalize cmpI r r' = C2 at *
  generalize cmpI k k' = C3 at *
  have hr0 := heap_alloc_new w (.cells #[.int .u64 (f : Int), .int .i64 r, .int .u8 k] 66)
  have es : (w.alloc (.cells #[.int .u64 (f : Int), .int .i64 r, .int .u8 k] 66)).heap.size = w.heap.size + 1 := by simp
  have hp := Lib.hid (rowB hr0 (below_a _ (.cells #[.int .u64 (f' : Int), .int .i64 r', .int .u8 k'] 66)) (by simp))
  have hq0 := heap_alloc_new (w.alloc (.cells #[.int .u64 (f : Int), .int .i64 r, .int .u8 k] 66)) (.cells #[.int .u64 (f' : Int), .int .i64 r', .int .u8 k'] 66)
  rw [es] at hq0
  have hq := Lib.hid hq0
  have hB := Lib.hid ((below_a w (.cells #[.int .u64 (f : Int), .int .i64 r, .int .u8 k] 66)).trans ((below_a _ (.cells #[.int .u64 (f' : Int), .int .i64 r', .int .u8 k'] 66)).mono (by simp)))
  clear hr0 es hq0
  go_enter Try.func34, Try.ntmps34
  go_upto_region 1 with fail
  generalize (w.alloc (.cells #[.int .u64 (f : Int), .int .i64 r, .int .u8 k] 66)).alloc (.cells #[.int .u64 (f' : Int), .int .i64 r', .int .u8 k'] 66) = W2 at *
  refine wp_region_headN (C := fun w' => Below W2.heap.size W2 w') 15 [] (by kernel_rfl) (by kernel_rfl) ((Below.refl _ _).drew) ?_
  simp only [List.take_succ_cons, List.take_zero, List.drop_succ_cons, List.drop_zero]
  repeat (first | (refine head_step _ (by rfl) (quiet_cell 23 _ rfl w.heap.size 0 rfl (.int .u64 (f : Int)) (fun w h => cell_of_row _ _ _ _ _ _ (rowB hp.out h (Array.getElem?_eq_some_iff.1 hp.out).1)) Try.isAgg23) rfl rfl (fun K hK => ?_); go_simp; refine hK _ ?_; clear hK K)
                | (refine head_step _ (by rfl) (quiet_cell 2 _ rfl w.heap.size 1 rfl (.int .i64 r) (fun w h => cell_of_row _ _ _ _ _ _ (rowB hp.out h (Array.getElem?_eq_some_iff.1 hp.out).1)) Try.isAgg2) rfl rfl (fun K hK => ?_); go_simp; refine hK _ ?_; clear hK K)
                | (refine head_step _ (by rfl) (quiet_cell 5 _ rfl w.heap.size 2 rfl (.int .u8 k) (fun w h => cell_of_row _ _ _ _ _ _ (rowB hp.out h (Array.getElem?_eq_some_iff.1 hp.out).1)) Try.isAgg5) rfl rfl (fun K hK => ?_); go_simp; refine hK _ ?_; clear hK K)
                | (refine head_step _ (by rfl) (quiet_cell 23 _ rfl (w.heap.size + 1) 0 rfl (.int .u64 (f' : Int)) (fun w h => cell_of_row _ _ _ _ _ _ (rowB hq.out h (Array.getElem?_eq_some_iff.1 hq.out).1)) Try.isAgg23) rfl rfl (fun K hK => ?_); go_simp; refine hK _ ?_; clear hK K)
                | (refine head_step _ (by rfl) (quiet_cell 2 _ rfl (w.heap.size + 1) 1 rfl (.int .i64 r') (fun w h => cell_of_row _ _ _ _ _ _ (rowB hq.out h (Array.getElem?_eq_some_iff.1 hq.out).1)) Try.isAgg2) rfl rfl (fun K hK => ?_); go_simp; refine hK _ ?_; clear hK K)
                | (refine head_step _ (by rfl) (quiet_cell 5 _ rfl (w.heap.size + 1) 2 rfl (.int .u8 k') (fun w h => cell_of_row _ _ _ _ _ _ (rowB hq.out h (Array.getElem?_eq_some_iff.1 hq.out).1)) Try.isAgg5) rfl rfl (fun K hK => ?_); go_simp; refine hK _ ?_; clear hK K)
                | (refine head_step (.int .i64 C1) (by rfl) (quiet_call2 rfl Try.func50 (by kernel_rfl) rfl (.int .u64 (f : Int)) (.int .u64 (f' : Int)) _ rfl rfl rfl (fun w h => (h1.out w).mono fun e w' ⟨he, hb⟩ => ⟨he, hb ▸ h⟩)) rfl rfl (fun K hK => ?_); go_simp; refine hK _ ?_; clear hK K)
                | (refine head_step (.int .i64 C2) (by rfl) (quiet_call2 rfl Try.func51 (by kernel_rfl) rfl (.int .i64 r) (.int .i64 r') _ rfl rfl rfl (fun w h => (h2.out w).mono fun e w' ⟨he, hb⟩ => ⟨he, hb ▸ h⟩)) rfl rfl (fun K hK => ?_); go_simp; refine hK _ ?_; clear hK K)
                | (refine head_step (.int .i64 C3) (by rfl) (quiet_call2 rfl Try.func52 (by kernel_rfl) rfl (.int .u8 k) (.int .u8 k') _ rfl rfl rfl (fun w h => (h3.out w).mono fun e w' ⟨he, hb⟩ => ⟨he, hb ▸ h⟩)) rfl rfl (fun K hK => ?_); go_simp; refine hK _ ?_; clear hK K)
                | (refine head_walk (by rfl) (fun K hK => ?_); go_simp; first | (refine hK _ ?_; clear hK K) | (refine ⟨_, fun _ _ => rfl, ?_⟩; refine hK _ ?_; clear hK K)))
  refine head_nil ?_
  intro w1 h1
  have hb1 := Lib.hid (hB.out.trans ((h1.mono hB.out.size).trans ((below_a w1 (.cells #[.int .i64 C1, .int .i64 C2, .int .i64 C3] 3)).mono (Nat.le_trans hB.out.size h1.size))))
  have hO1 := Lib.hid (hO.out w1.heap.size _ _ _ (heap_alloc_new w1 (.cells #[.int .i64 C1, .int .i64 C2, .int .i64 C3] 3)))
  clear h1
  go_wp2_with (go_at_call 33; (with_reducible refine (hO1.out).mono ?_); rintro e w9 ⟨rfl, rfl⟩)
  refine NoPanic.normal ?_
  go_wp2
  go_ret
  exact ⟨rfl, hb1.out⟩
theorem compareBytes_sI : ∀ (l m : List UInt8), Lib.compareBytes l m = cmpF (l.map fun c => (c.toNat : Int)) (m.map fun c => (c.toNat : Int))
  | [], [] => rfl
  | [], _ :: _ => rfl
  | _ :: _, [] => rfl
  | a :: xs, b :: ys => by
    have h1 : (a < b) ↔ ((a.toNat : Int) < (b.toNat : Int)) := by rw [UInt8.lt_iff_toNat_lt]; omega
    have h2 : (b < a) ↔ ((b.toNat : Int) < (a.toNat : Int)) := by rw [UInt8.lt_iff_toNat_lt]; omega
    simp only [Lib.compareBytes, List.map_cons, cmpF, compareBytes_sI xs ys, h1, h2]
/-- What Cmp answers for two valid values. -/
def cmpV (k n : Int) (b : Nat) (s : ByteArray) (k' n' : Int) (b' : Nat) (s' : ByteArray) : Int := orI (cmpI (plP k n b) (plP k' n' b')) (cmpF (sI s) (sI s'))
theorem valid_kind {k n : Int} {b : Nat} {s : ByteArray} (h : validB k n b s = true) : 1 ≤ k ∧ k ≤ 3 := by
  unfold validB at h
  split at h
  · omega
  · split at h
    · omega
    · split at h
      · omega
      · cases h
structure VFit (k n : Int) (b : Nat) (s : ByteArray) : Prop where
  k : 0 ≤ k ∧ k < 256
  n : -9223372036854775808 ≤ n ∧ n ≤ 9223372036854775807
  b : b < 18446744073709551616
  s : s.size ≤ 1000000
set_option maxHeartbeats 2000000 in
set_option maxRecDepth 100000 in
theorem cmp_bad (k n : Int) (b : Nat) (s : ByteArray) (k' n' : Int) (b' : Nat) (s' : ByteArray) (fv : VFit k n b s) (fw : VFit k' n' b' s') (h : (validB k n b s && validB k' n' b' s') = false) (w : World) :
    Calls Try.prog 14 #[vA k n b s, vA k' n' b' s'] w fun e w' => e = .returned (.tuple #[.int .i64 0, .int .i64 8]) ∧ Below w.heap.size w w' := by
  have hV := Lib.hid (fun w => valid_any k n b s fv.k fv.b fv.s w)
  have hW := Lib.hid (fun w => valid_any k' n' b' s' fw.k fw.b fw.s w)
  have hr0 := heap_alloc_new w (.cells (vC k n b s) 26)
  have es : (w.alloc (.cells (vC k n b s) 26)).heap.size = w.heap.size + 1 := by simp
  have hp := Lib.hid (rowB hr0 (below_a _ (.cells (vC k' n' b' s') 26)) (by simp))
  have hq0 := heap_alloc_new (w.alloc (.cells (vC k n b s) 26)) (.cells (vC k' n' b' s') 26)
  rw [es] at hq0
  have hq := Lib.hid hq0
  have hB := Lib.hid ((below_a w (.cells (vC k n b s) 26)).trans ((below_a _ (.cells (vC k' n' b' s') 26)).mono (by simp)))
  clear hr0 es hq0
  cases hv : validB k n b s
  · rw [hv] at hV
    clear hv h fv fw
    go_enter Try.func14, Try.ntmps14
    go_wp2_with (first | (go_at_call 32; (first | (with_reducible refine (hV.out _).mono ?_) | (with_reducible refine (hW.out _).mono ?_)); rintro e w9 ⟨rfl, h9⟩; have hp := Lib.hid (rowB hp.out h9 (Array.getElem?_eq_some_iff.1 hp.out).1); have hq := Lib.hid (rowB hq.out h9 (Array.getElem?_eq_some_iff.1 hq.out).1); have hB := Lib.hid (hB.out.trans (h9.mono hB.out.size)); clear h9) | (refine wpList_load_row_g rfl 26 _ rfl w.heap.size rfl 26 (vC k n b s) (0, 0) _ hp.out Try.underlying26 rfl info_val ?_) | (refine wpList_load_row_g rfl 26 _ rfl (w.heap.size + 1) rfl 26 (vC k' n' b' s') (0, 0) _ hq.out Try.underlying26 rfl info_val ?_))
    go_ret2
    exact ⟨rfl, hB.out⟩
  · rw [hv, Bool.true_and] at h
    rw [hv] at hV
    rw [h] at hW
    clear hv h fv fw
    go_enter Try.func14, Try.ntmps14
    go_wp2_with (first | (go_at_call 32; (first | (with_reducible refine (hV.out _).mono ?_) | (with_reducible refine (hW.out _).mono ?_)); rintro e w9 ⟨rfl, h9⟩; have hp := Lib.hid (rowB hp.out h9 (Array.getElem?_eq_some_iff.1 hp.out).1); have hq := Lib.hid (rowB hq.out h9 (Array.getElem?_eq_some_iff.1 hq.out).1); have hB := Lib.hid (hB.out.trans (h9.mono hB.out.size)); clear h9) | (refine wpList_load_row_g rfl 26 _ rfl w.heap.size rfl 26 (vC k n b s) (0, 0) _ hp.out Try.underlying26 rfl info_val ?_) | (refine wpList_load_row_g rfl 26 _ rfl (w.heap.size + 1) rfl 26 (vC k' n' b' s') (0, 0) _ hq.out Try.underlying26 rfl info_val ?_))
    go_ret2
    exact ⟨rfl, hB.out⟩
set_option maxHeartbeats 2000000 in
set_option maxRecDepth 100000 in
theorem cmp_ok (k n : Int) (b : Nat) (s : ByteArray) (k' n' : Int) (b' : Nat) (s' : ByteArray) (fv : VFit k n b s) (fw : VFit k' n' b' s') (hv : validB k n b s = true) (hw : validB k' n' b' s' = true) (w : World) :
    Calls Try.prog 14 #[vA k n b s, vA k' n' b' s'] w fun e w' => e = .returned (.tuple #[.int .i64 (cmpV k n b s k' n' b' s'), .int .i64 0]) ∧ Below w.heap.size w w' := by
  have hV := Lib.hid (fun w => valid_any k n b s fv.k fv.b fv.s w)
  have hW := Lib.hid (fun w => valid_any k' n' b' s' fw.k fw.b fw.s w)
  rw [hv] at hV
  rw [hw] at hW
  have hP := Lib.hid (fun w => placeOf_any k n b s (valid_kind hv) fv.n fv.b w)
  have hQ := Lib.hid (fun w => placeOf_any k' n' b' s' (valid_kind hw) fw.n fw.b w)
  have hC := Lib.hid (fun w => cmpPlaces_any (plF k n b) (plR k n) k (plF k' n' b') (plR k' n') k' w)
  have hS := Lib.hid (fun w => (Try.strings_Compare s s' w).mono fun e w' ⟨he, hw⟩ => (⟨he, hw.symm⟩ : _ ∧ w = w'))
  rw [cmpI_place k n b k' n' b' (valid_kind hv) (valid_kind hw)] at hC
  rw [show Lib.compareBytes s.data.toList s'.data.toList = cmpF (sI s) (sI s') from compareBytes_sI _ _] at hS
  unfold cmpV
  generalize cmpI (plP k n b) (plP k' n' b') = C1 at *
  generalize cmpF (sI s) (sI s') = C2 at *
  generalize plF k n b = F at *
  generalize plR k n = R at *
  generalize plF k' n' b' = F' at *
  generalize plR k' n' = R' at *
  have hO := Lib.hid (fun (g : Nat) (w : World) (T : TypeId) (fr : Nat × Nat) => or_any [C1, C2] g 2 rfl (by decide) w T fr)
  rw [orL_two] at hO
  generalize orI C1 C2 = Z at *
  have hr0 := heap_alloc_new w (.cells (vC k n b s) 26)
  have es : (w.alloc (.cells (vC k n b s) 26)).heap.size = w.heap.size + 1 := by simp
  have hp := Lib.hid (rowB hr0 (below_a _ (.cells (vC k' n' b' s') 26)) (by simp))
  have hq0 := heap_alloc_new (w.alloc (.cells (vC k n b s) 26)) (.cells (vC k' n' b' s') 26)
  rw [es] at hq0
  have hq := Lib.hid hq0
  have hB := Lib.hid ((below_a w (.cells (vC k n b s) 26)).trans ((below_a _ (.cells (vC k' n' b' s') 26)).mono (by simp)))
  clear hr0 es hq0
  clear fv fw hv hw
  go_enter Try.func14, Try.ntmps14
  go_upto_region 3 with (first | (go_at_call 32; (first | (with_reducible refine (hV.out _).mono ?_) | (with_reducible refine (hW.out _).mono ?_)); rintro e w9 ⟨rfl, h9⟩; have hp := Lib.hid (rowB hp.out h9 (Array.getElem?_eq_some_iff.1 hp.out).1); have hq := Lib.hid (rowB hq.out h9 (Array.getElem?_eq_some_iff.1 hq.out).1); have hB := Lib.hid (hB.out.trans (h9.mono hB.out.size)); clear h9) | (refine wpList_load_row_g rfl 26 _ rfl w.heap.size rfl 26 (vC k n b s) (0, 0) _ hp.out Try.underlying26 rfl info_val ?_) | (refine wpList_load_row_g rfl 26 _ rfl (w.heap.size + 1) rfl 26 (vC k' n' b' s') (0, 0) _ hq.out Try.underlying26 rfl info_val ?_))
  refine wp_region_headN (C := fun w' => Below w9.heap.size w9 w') 10 [] (by kernel_rfl) (by kernel_rfl) ((Below.refl _ _).drew) ?_
  simp only [List.take_succ_cons, List.take_zero, List.drop_succ_cons, List.drop_zero]
  repeat (first | (refine head_step _ (by rfl) (quiet_row 26 _ rfl w.heap.size rfl 26 (vC k n b s) (0, 0) _ (fun w h => rowB hp.out h (Array.getElem?_eq_some_iff.1 hp.out).1) Try.underlying26 rfl info_val) rfl rfl (fun K hK => ?_); go_simp; refine hK _ ?_; clear hK K)
                | (refine head_step _ (by rfl) (quiet_row 26 _ rfl (w.heap.size + 1) rfl 26 (vC k' n' b' s') (0, 0) _ (fun w h => rowB hq.out h (Array.getElem?_eq_some_iff.1 hq.out).1) Try.underlying26 rfl info_val) rfl rfl (fun K hK => ?_); go_simp; refine hK _ ?_; clear hK K)
                | (refine head_step _ (by rfl) (quiet_cell 9 _ rfl w.heap.size 3 rfl (.string s) (fun w h => cell_of_row _ _ _ _ _ _ (rowB hp.out h (Array.getElem?_eq_some_iff.1 hp.out).1)) Try.isAgg9) rfl rfl (fun K hK => ?_); go_simp; refine hK _ ?_; clear hK K)
                | (refine head_step _ (by rfl) (quiet_cell 9 _ rfl (w.heap.size + 1) 3 rfl (.string s') (fun w h => cell_of_row _ _ _ _ _ _ (rowB hq.out h (Array.getElem?_eq_some_iff.1 hq.out).1)) Try.isAgg9) rfl rfl (fun K hK => ?_); go_simp; refine hK _ ?_; clear hK K)
                | (refine head_step (plA F R k) (by rfl) (qa_call1 (vA k n b s) rfl Try.func35 (by kernel_rfl) rfl rfl rfl (fun w h => (hP.out w).mono fun e w' ⟨he, hb⟩ => ⟨he, h.trans (hb.mono h.size)⟩)) rfl rfl (fun K hK => ?_); go_simp; refine hK _ ?_; clear hK K)
                | (refine head_step (plA F' R' k') (by rfl) (qa_call1 (vA k' n' b' s') rfl Try.func35 (by kernel_rfl) rfl rfl rfl (fun w h => (hQ.out w).mono fun e w' ⟨he, hb⟩ => ⟨he, h.trans (hb.mono h.size)⟩)) rfl rfl (fun K hK => ?_); go_simp; refine hK _ ?_; clear hK K)
                | (refine head_step (.int .i64 C1) (by rfl) (quiet_call2 rfl Try.func34 (by kernel_rfl) rfl (plA F R k) (plA F' R' k') _ rfl rfl rfl (fun w h => (hC.out w).mono fun e w' ⟨he, hb⟩ => ⟨he, h.trans (hb.mono h.size)⟩)) rfl rfl (fun K hK => ?_); go_simp; refine hK _ ?_; clear hK K)
                | (refine head_step (.int .i64 C2) (by rfl) (quiet_call2 rfl Try.func36 (by kernel_rfl) rfl (.string s) (.string s') _ rfl rfl rfl (fun w h => (hS.out w).mono fun e w' ⟨he, hb⟩ => ⟨he, hb ▸ h⟩)) rfl rfl (fun K hK => ?_); go_simp; refine hK _ ?_; clear hK K)
                | (refine head_walk (by rfl) (fun K hK => ?_); go_simp; first | (refine hK _ ?_; clear hK K) | (refine ⟨_, fun _ _ => rfl, ?_⟩; refine hK _ ?_; clear hK K)))
  refine head_nil ?_
  intro w1 h1
  have hb1 := Lib.hid (hB.out.trans ((h1.mono hB.out.size).trans ((below_a w1 (.cells #[.int .i64 C1, .int .i64 C2] 3)).mono (Nat.le_trans hB.out.size h1.size))))
  have hO1 := Lib.hid (hO.out w1.heap.size _ _ _ (heap_alloc_new w1 (.cells #[.int .i64 C1, .int .i64 C2] 3)))
  clear h1
  go_wp2_with (go_at_call 33; (with_reducible refine (hO1.out).mono ?_); rintro e w9 ⟨rfl, rfl⟩)
  refine NoPanic.normal ?_
  go_wp2
  go_ret2
  exact ⟨rfl, hb1.out⟩
end Go.Proofs.Ytpklfohaifeboaa

/- The reference's order: small contracts. -/
import Derived.Test.YtpklfohaifeboaaV27
import Derived.Test.YtpklfohaifeboaaV17
namespace Go.Proofs.Ytpklfohaifeboaa
open Go.RowKit Go.Ytpklfohaifeboaa
set_option linter.unusedVariables false
theorem rsign_any (b : Nat) (hb : b < 18446744073709551616) (w : World) :
    Calls Try.prog 82 #[.int .u64 (b : Int)] w fun e w' => e = .returned (.int .u64 (if b < 9223372036854775808 then 0 else 1)) ∧ w = w' := by
  obtain ⟨q, hq⟩ : ∃ q : Int, q = if b < 9223372036854775808 then 0 else 1 := ⟨_, rfl⟩
  have hd : (b : Int) / 9223372036854775808 = q := by rw [hq]; split <;> omega
  rw [← hq]
  have hd' := Lib.hid hd
  have hb' := Lib.hid hb
  clear hb hq hd
  go_enter Try.func82, Try.ntmps82
  go_wp2
  go_ret
  exact ⟨ret_int (by rw [IntKind.wrap_u64]; have h1 := hd'.out; have h2 := hb'.out; omega), rfl⟩
theorem rorder_any (a b : Int) (w : World) :
    Calls Try.prog 64 #[.int .i64 a, .int .i64 b] w fun e w' => e = .returned (.int .i64 (cmpI a b)) ∧ w = w' := by
  obtain ⟨c, hc⟩ : ∃ c, c = cmpI a b := ⟨_, rfl⟩
  rw [← hc]
  unfold cmpI at hc
  rcases Int.lt_trichotomy a b with h | h | h
  · rw [if_pos h] at hc
    subst hc
    go_enter Try.func64, Try.ntmps64
    go_wp2
    go_ret
    exact ⟨rfl, rfl⟩
  · subst h
    rw [if_neg (Int.lt_irrefl a), if_neg (Int.lt_irrefl a)] at hc
    subst hc
    go_enter Try.func64, Try.ntmps64
    go_wp2
    go_ret
    exact ⟨rfl, rfl⟩
  · have hn : ¬ a < b := by omega
    rw [if_neg hn, if_pos h] at hc
    subst hc
    go_enter Try.func64, Try.ntmps64
    go_wp2
    go_ret
    exact ⟨rfl, rfl⟩
theorem cmpF_at : ∀ (l m : List Int) (k : Nat), k < l.length → k < m.length → (∀ j, j < k → ith l j = ith m j) → ith l k ≠ ith m k → cmpF l m = cmpI (ith l k) (ith m k)
  | x :: l, y :: m, 0, _, _, _, hne => by
    have e1 : ith (x :: l) 0 = x := rfl
    have e2 : ith (y :: m) 0 = y := rfl
    rw [e1, e2] at hne ⊢
    unfold cmpF cmpI
    split
    · rfl
    · rw [if_pos (by omega), if_pos (by omega)]
  | x :: l, y :: m, k + 1, h1, h2, hj, hne => by
    have e0 : x = y := hj 0 (by omega)
    have ih := cmpF_at l m k (by simpa using h1) (by simpa using h2) (fun j h => hj (j + 1) (by omega)) hne
    subst e0
    rw [cmpF, if_neg (Int.lt_irrefl x), if_neg (Int.lt_irrefl x), ih]
    rfl
theorem cmpF_end : ∀ (l m : List Int), (∀ j, j < l.length → j < m.length → ith l j = ith m j) → cmpF l m = cmpI l.length m.length
  | [], [], _ => by rw [cmpI_same rfl]; rfl
  | [], y :: m, _ => by rw [cmpI_lt (by simp)]; rfl
  | x :: l, [], _ => by rw [cmpI_gt (by simp)]; rfl
  | x :: l, y :: m, h => by
    have e0 : x = y := h 0 (by simp) (by simp)
    have ih := cmpF_end l m (fun j h1 h2 => h (j + 1) (by simpa using h1) (by simpa using h2))
    subst e0
    rw [cmpF, if_neg (Int.lt_irrefl x), if_neg (Int.lt_irrefl x), ih]
    unfold cmpI
    simp only [List.length_cons]
    split
    · rw [if_pos (by omega)]
    · rw [if_neg (show ¬ ((l.length + 1 : Nat) : Int) < ((m.length + 1 : Nat) : Int) by omega)]
      split
      · rw [if_pos (by omega)]
      · rw [if_neg (by omega)]
set_option maxHeartbeats 2000000 in
set_option maxRecDepth 100000 in
theorem rtexts_any (s t : ByteArray) (hs : s.size ≤ 1000000) (ht : t.size ≤ 1000000) (w : World) :
    Calls Try.prog 65 #[.string s, .string t] w fun e w' => e = .returned (.int .i64 (cmpF (sI s) (sI t))) ∧ Below w.heap.size w w' := by
  have hO := Lib.hid (fun a b w => rorder_any a b w)
  obtain ⟨C, hC⟩ : ∃ C, C = cmpF (sI s) (sI t) := ⟨_, rfl⟩
  rw [← hC]
  have hC' := Lib.hid hC
  clear hC
  have hgs := Lib.hid (fun i (h : i < s.size) => sI_get s i h)
  have hgt := Lib.hid (fun i (h : i < t.size) => sI_get t i h)
  have hls := Lib.hid (sI_length s)
  have hlt := Lib.hid (sI_length t)
  have hs2 : (s.size : Int) ≤ 1000000 := by omega
  have ht2 : (t.size : Int) ≤ 1000000 := by omega
  go_enter Try.func65, Try.ntmps65
  go_wp2
  go_loopw [5] (fun i wr => ∃ k : Nat, k ≤ s.size ∧ k ≤ t.size ∧ i = .int .i64 (k : Int) ∧ (∀ j, j < k → ith (sI s) j = ith (sI t) j) ∧ Draws w wr) (fun i _ => s.size - (intOf i).toNat)
  case atStart => exact ⟨0, Nat.zero_le _, Nat.zero_le _, rfl, (fun j h => absurd h (Nat.not_lt_zero _)), Draws.refl _⟩
  case round =>
    obtain ⟨k, k1, k2, rfl, heq, hd⟩ := hrel
    have heq' := Lib.hid heq
    have hd' := Lib.hid hd
    clear heq hd
    by_cases h1 : k < s.size
    · by_cases h2 : k < t.size
      · have e1 := hgs.out k h1
        have e2 := hgt.out k h2
        have hC := hC'.out
        by_cases hne : ith (sI s) k = ith (sI t) k
        · have heqk := Lib.hid hne
          rw [← hne] at e2
          generalize ith (sI s) k = a at e1 e2 ⊢
          clear hne hC
          go_wp2
          go_quiet (fail)
          go_wp2
          go_roundw
          case rel =>
            refine ⟨k + 1, by omega, by omega, by go_num, fun j hj => ?_, hd'.out.drewN _⟩
            by_cases hjk : j < k
            · exact heq'.out j hjk
            · rw [show j = k by omega]; exact heqk.out
          case measure => simp [intOf]; omega
        · have hCk := Lib.hid (hC.trans (cmpF_at _ _ k (by rw [hls.out]; exact h1) (by rw [hlt.out]; exact h2) heq'.out hne))
          generalize ith (sI s) k = a at *
          generalize ith (sI t) k = b at *
          have hab : (a != b) = true := by simpa using hne
          have wa : IntKind.i64.wrap a = a := IntWalk.i64_in _ (by have := s[k].toNat_lt; omega)
          have wb : IntKind.i64.wrap b = b := IntWalk.i64_in _ (by have := t[k].toNat_lt; omega)
          have hO2 := Lib.hid (fun w => hO.out a b w)
          clear hC
          go_wp2
          go_quiet (fail)
          go_wp2
          refine wp_region_quiet (C := fun w' => Below w.heap.size w w') (by kernel_rfl) (by kernel_rfl) (((hd'.out.drewN _).below (Below.refl w.heap.size w)).drew) ?_
          simp only [List.toList_toArray]
          repeat (first | (refine wpq (.int .i64 (cmpI a b)) rfl (quiet_call2 rfl Try.func64 (by kernel_rfl) rfl (.int .i64 a) (.int .i64 b) _ rfl rfl rfl (fun w9 h => (hO2.out w9).mono fun e w' ⟨he, hw⟩ => ⟨he, hw ▸ h⟩)) rfl (fun K hK => ?_); go_simp; refine hK _ ?_; clear hK K) | (go_big_quiet_want; go_big_quiet_op; first | go_big_quiet_on | (refine ⟨_, fun _ _ => rfl, ?_⟩; go_big_quiet_on)))
          refine wpQuiet_nil ?_
          intro w6 h9
          have h9 := Lib.hid h9
          go_wp2
          go_ret
          exact ⟨ret_int hCk.out.symm, h9.out⟩
      · have hCk := Lib.hid (hC'.out.trans (cmpF_end _ _ (fun j j1 j2 => heq'.out j (by rw [hlt.out] at j2; omega))))
        rw [hls.out, hlt.out] at hCk
        obtain rfl : k = t.size := by omega
        have hO2 := Lib.hid (fun w => hO.out s.size t.size w)
        clear h2 heq' hC'
        go_wp2_with (go_at_call 64; (with_reducible refine (hO2.out _).mono ?_); rintro e w' ⟨rfl, rfl⟩)
        go_ret
        exact ⟨ret_int hCk.out.symm, hd'.out.below (Below.refl _ _)⟩
    · have hCk := Lib.hid (hC'.out.trans (cmpF_end _ _ (fun j j1 j2 => heq'.out j (by rw [hls.out] at j1; omega))))
      rw [hls.out, hlt.out] at hCk
      obtain rfl : k = s.size := by omega
      have hO2 := Lib.hid (fun w => hO.out s.size t.size w)
      clear h1 heq' hC'
      go_wp2_with (go_at_call 64; (with_reducible refine (hO2.out _).mono ?_); rintro e w' ⟨rfl, rfl⟩)
      go_ret
      exact ⟨ret_int hCk.out.symm, hd'.out.below (Below.refl _ _)⟩
set_option maxHeartbeats 2000000 in
set_option maxRecDepth 100000 in
theorem rrank_any (k n : Int) (b : Nat) (s : ByteArray) (hk : k = 1 ∨ k = 2) (hb : b < 18446744073709551616) (w : World) :
    Calls Try.prog 68 #[vA k n b s] w fun e w' => e = .returned (.int .i64 (rkF k b)) ∧ Below w.heap.size w w' := by
  have hp := heap_alloc_new w (.cells (vC k n b s) 26)
  have hB := Lib.hid (below_a w (.cells (vC k n b s) 26))
  obtain ⟨c0, c1, c2, c3⟩ := cellsV hp
  clear hp
  rcases hk with rfl | rfl
  · go_enter Try.func68, Try.ntmps68
    go_wp2
    go_ret
    exact ⟨rfl, hB.out⟩
  · have hC := Lib.hid (fun w => rclass_any b hb w)
    have hS := Lib.hid (fun w => rsign_any b hb w)
    have hcl : clsF b = 1 ↔ b = 0 ∨ b = 9223372036854775808 := by
      unfold clsF spX spF
      constructor
      · intro h
        split at h
        · omega
        · split at h
          · cases h
          · split at h
            · cases h
            · split at h <;> cases h
      · intro h
        rw [if_pos (by omega)]
    rw [rk_flt]
    by_cases h1 : clsF b = 1
    · have hc1 : ((clsF b : Int) == 1) = true := by rw [h1]; rfl
      rcases hcl.1 h1 with h2 | h2
      · rw [if_neg (by omega)]
        rw [if_pos (by omega)] at hS
        generalize (clsF b : Int) = c at *
        clear hcl h1 h2 hb
        go_enter Try.func68, Try.ntmps68
        go_wp2_with (first | (go_at_call 23; (with_reducible refine (hC.out _).mono ?_); rintro e w' ⟨rfl, rfl⟩) | (go_at_call 82; (with_reducible refine (hS.out _).mono ?_); rintro e w' ⟨rfl, rfl⟩))
        go_ret
        exact ⟨rfl, hB.out⟩
      · rw [if_pos h2]
        rw [if_neg (by omega)] at hS
        generalize (clsF b : Int) = c at *
        clear hcl h1 h2 hb
        go_enter Try.func68, Try.ntmps68
        go_wp2_with (first | (go_at_call 23; (with_reducible refine (hC.out _).mono ?_); rintro e w' ⟨rfl, rfl⟩) | (go_at_call 82; (with_reducible refine (hS.out _).mono ?_); rintro e w' ⟨rfl, rfl⟩))
        go_ret
        exact ⟨rfl, hB.out⟩
    · have hc1 : ((clsF b : Int) == 1) = false := by simp; omega
      rw [if_neg (fun h => h1 (hcl.2 (.inr h)))]
      generalize (clsF b : Int) = c at *
      clear hcl h1 hb
      go_enter Try.func68, Try.ntmps68
      go_wp2_with (first | (go_at_call 23; (with_reducible refine (hC.out _).mono ?_); rintro e w' ⟨rfl, rfl⟩) | (go_at_call 82; (with_reducible refine (hS.out _).mono ?_); rintro e w' ⟨rfl, rfl⟩))
      go_ret
      exact ⟨rfl, hB.out⟩
set_option maxHeartbeats 4000000 in
set_option maxRecDepth 100000 in
theorem rside_any (k n : Int) (b : Nat) (s : ByteArray) (hk : k = 1 ∨ k = 2 ∨ k = 3) (hb : b < 18446744073709551616) (w : World) :
    Calls Try.prog 63 #[vA k n b s] w fun e w' => e = .returned (.int .i64 (sdF k n b)) ∧ Below w.heap.size w w' := by
  have hp := heap_alloc_new w (.cells (vC k n b s) 26)
  have hB := Lib.hid (below_a w (.cells (vC k n b s) 26))
  obtain ⟨c0, c1, c2, c3⟩ := cellsV hp
  clear hp
  obtain ⟨R, hR⟩ : ∃ R, R = sdF k n b := ⟨_, rfl⟩
  rw [← hR]
  unfold sdF at hR
  rcases hk with rfl | rfl | rfl
  · rw [if_neg (show ¬ (1 : Int) = 3 by decide), if_pos rfl] at hR
    by_cases h0 : n < 0
    · rw [if_pos h0] at hR
      subst hR
      go_enter Try.func63, Try.ntmps63
      go_wp2
      go_ret
      exact ⟨rfl, hB.out⟩
    · rw [if_neg h0] at hR
      by_cases h1 : n = 0
      · rw [if_pos h1] at hR
        subst hR h1
        go_enter Try.func63, Try.ntmps63
        go_wp2
        go_ret
        exact ⟨rfl, hB.out⟩
      · rw [if_neg h1] at hR
        subst hR
        have h1b : (n == 0) = false := by simpa using h1
        go_enter Try.func63, Try.ntmps63
        go_wp2
        go_ret
        exact ⟨rfl, hB.out⟩
  · rw [if_neg (show ¬ (2 : Int) = 3 by decide), if_neg (show ¬ (2 : Int) = 1 by decide)] at hR
    have hC := Lib.hid (fun w => rclass_any b hb w)
    have hS := Lib.hid (fun w => rsign_any b hb w)
    have hw : (b < 9223372036854775808 ∧ wayF b = 1) ∨ (¬ b < 9223372036854775808 ∧ wayF b = -1) := by
      unfold wayF
      by_cases h : b < 9223372036854775808
      · left; exact ⟨h, by rw [if_pos h]⟩
      · right; exact ⟨h, by rw [if_neg h]⟩
    have hcl : clsF b = 1 ∨ clsF b = 2 ∨ clsF b = 3 ∨ clsF b = 4 ∨ clsF b = 5 := by
      unfold clsF
      split
      · simp
      · split
        · simp
        · split
          · simp
          · split <;> simp
    rcases hw with ⟨g1, g2⟩ | ⟨g1, g2⟩
    · rw [if_pos g1] at hS
      rw [g2] at hR
      clear hb g1 g2
      rcases hcl with h | h | h | h | h
      all_goals
        rw [h] at hR hC
        simp only [if_true, show ((2 : Nat) = 1) = False by simp, show ((3 : Nat) = 1) = False by simp, show ((4 : Nat) = 1) = False by simp, show ((5 : Nat) = 1) = False by simp, show ((2 : Nat) = 4) = False by simp, show ((3 : Nat) = 4) = False by simp, show ((5 : Nat) = 4) = False by simp, show ((2 : Nat) = 5) = False by simp, show ((3 : Nat) = 5) = False by simp, if_false] at hR
        subst hR
        clear h
        go_enter Try.func63, Try.ntmps63
        go_wp2_with (first | (go_at_call 23; (with_reducible refine (hC.out _).mono ?_); rintro e w' ⟨rfl, rfl⟩) | (go_at_call 82; (with_reducible refine (hS.out _).mono ?_); rintro e w' ⟨rfl, rfl⟩))
        go_ret
        exact ⟨rfl, hB.out⟩
    · rw [if_neg g1] at hS
      rw [g2] at hR
      clear hb g1 g2
      rcases hcl with h | h | h | h | h
      all_goals
        rw [h] at hR hC
        simp only [if_true, show ((2 : Nat) = 1) = False by simp, show ((3 : Nat) = 1) = False by simp, show ((4 : Nat) = 1) = False by simp, show ((5 : Nat) = 1) = False by simp, show ((2 : Nat) = 4) = False by simp, show ((3 : Nat) = 4) = False by simp, show ((5 : Nat) = 4) = False by simp, show ((2 : Nat) = 5) = False by simp, show ((3 : Nat) = 5) = False by simp, if_false] at hR
        subst hR
        clear h
        go_enter Try.func63, Try.ntmps63
        go_wp2_with (first | (go_at_call 23; (with_reducible refine (hC.out _).mono ?_); rintro e w' ⟨rfl, rfl⟩) | (go_at_call 82; (with_reducible refine (hS.out _).mono ?_); rintro e w' ⟨rfl, rfl⟩))
        go_ret
        exact ⟨rfl, hB.out⟩
  · rw [if_pos rfl] at hR
    subst hR
    go_enter Try.func63, Try.ntmps63
    go_wp2
    go_ret
    exact ⟨rfl, hB.out⟩
end Go.Proofs.Ytpklfohaifeboaa

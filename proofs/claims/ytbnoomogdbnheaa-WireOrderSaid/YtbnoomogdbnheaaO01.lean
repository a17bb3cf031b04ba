/- WireOrder's walk. -/
import Derived.Test.YtbnoomogdbnheaaW06
namespace Go.Proofs.Ytbnoomogdbnheaa
open Go.RowKit Go.Ytbnoomogdbnheaa
set_option linter.unusedVariables false
theorem drop_ith (l : List Int) (k : Nat) (h : k < l.length) : l.drop k = ith l k :: l.drop (k + 1) := by
  rw [List.drop_eq_getElem_cons h]; simp [ith, h]
theorem bef_step (a b : List Int) (k : Nat) (h1 : k < a.length) (h2 : k < b.length) (h : ith a k = ith b k) : befF (a.drop k) (b.drop k) = befF (a.drop (k + 1)) (b.drop (k + 1)) := by
  rw [drop_ith a k h1, drop_ith b k h2, befF, if_pos h]
theorem bef_diff (a b : List Int) (k : Nat) (h1 : k < a.length) (h2 : k < b.length) (h : ith a k ≠ ith b k) : befF (a.drop k) (b.drop k) = decide (ith a k < ith b k) := by
  rw [drop_ith a k h1, drop_ith b k h2, befF, if_neg h]
theorem bef_end (a b : List Int) (k : Nat) (h : k = a.length ∧ k ≤ b.length ∨ k ≤ a.length ∧ k = b.length) : befF (a.drop k) (b.drop k) = decide (a.length < b.length) := by
  rcases h with ⟨h1, h2⟩ | ⟨h1, h2⟩
  · subst h1
    rw [List.drop_length]
    rcases Nat.lt_or_ge a.length b.length with h | h
    · rw [drop_ith b _ h]; simp [befF, h]
    · rw [List.drop_eq_nil_of_le h]
      have : ¬ a.length < b.length := by omega
      simp [befF, this]
  · subst h2
    rw [List.drop_length (l := b)]
    have h3 : ¬ a.length < b.length := by omega
    rcases Nat.lt_or_ge b.length a.length with h | h
    · rw [drop_ith a _ h]; simp [befF, h3]
    · rw [List.drop_eq_nil_of_le h]; simp [befF, h3]
set_option maxRecDepth 100000 in
theorem before_any (va vb : Value) (a b : List Int) (F : Bool) (hF : befF a b = F) (w : World) (hm : a.length ≤ 1000000) (hm2 : b.length ≤ 1000000) (h1 : RdB w va a) (h2 : RdB w vb b) :
    Calls Try.prog 31 #[va, vb] w fun e w' => e = .returned (.bool F) ∧ Draws w w' := by
  obtain ⟨a1, c1, rfl⟩ := h1.slice
  obtain ⟨a2, c2, rfl⟩ := h2.slice
  have h1' := Lib.hid h1; have h2' := Lib.hid h2
  have hF' := Lib.hid (show befF (a.drop 0) (b.drop 0) = F from hF)
  clear h1 h2 hF
  obtain ⟨n, hn⟩ : ∃ n, a.length = n := ⟨_, rfl⟩
  obtain ⟨m, hmm⟩ : ∃ m, b.length = m := ⟨_, rfl⟩
  have hn' := Lib.hid hn; have hm' := Lib.hid hmm
  rw [hn] at h1' hm ⊢
  rw [hmm] at h2' hm2 ⊢
  clear hn hmm
  go_enter Try.func31, Try.ntmps31
  go_wp2
  go_loopw [5] (fun i wr => ∃ k : Nat, k ≤ n ∧ k ≤ m ∧ i = .int .i64 k ∧ Draws w wr ∧ befF (a.drop k) (b.drop k) = F) (fun i _ => n - (intOf i).toNat)
  case atStart => exact ⟨0, Nat.zero_le _, Nat.zero_le _, rfl, Draws.refl _, hF'.out⟩
  case round =>
    obtain ⟨k, hk, hk2, rfl, hd, he⟩ := hrel
    have he' := Lib.hid he; clear he
    by_cases hlt : k < n
    · by_cases hlt2 : k < m
      · obtain ⟨b1, o1, rfl, _, e1⟩ := rdB_at h1'.out k (by rw [hn'.out]; exact hlt)
        obtain ⟨b2, o2, rfl, _, e2⟩ := rdB_at h2'.out k (by rw [hm'.out]; exact hlt2)
        have c1 := (hd.cell _).trans e1
        have c2 := (hd.cell _).trans e2
        have s1 := Lib.hid (bef_step a b k (by rw [hn'.out]; exact hlt) (by rw [hm'.out]; exact hlt2))
        have s2 := Lib.hid (bef_diff a b k (by rw [hn'.out]; exact hlt) (by rw [hm'.out]; exact hlt2))
        by_cases hx : ith a k = ith b k
        · have s3 := Lib.hid ((s1.out hx).symm.trans he'.out)
          rw [← hx] at c2
          clear hx s1 s2 e1 e2
          generalize ith a k = x at c1 c2
          go_wp2
          go_quiet (fail)
          go_wp2
          go_roundw
          case rel => exact ⟨k + 1, by omega, by omega, by go_num, hd.drewN _, s3.out⟩
          case measure => simp [intOf]; omega
        · have s3 := Lib.hid ((s2.out hx).symm.trans he'.out)
          have hxb : (ith a k != ith b k) = true := by simpa using hx
          clear hx s1 s2 e1 e2
          generalize ith a k = x at *
          generalize ith b k = y at *
          obtain ⟨D, hD⟩ : ∃ D, decide (x < y) = D := ⟨_, rfl⟩
          rw [hD] at s3
          go_wp2
          go_quiet (fail)
          go_wp2
          go_quiet (fail)
          go_wp2
          go_ret
          exact ⟨by rw [← s3.out]; rfl, (hd.drewN _).drewN _⟩
      · have s3 := Lib.hid ((bef_end a b k (.inr ⟨by rw [hn'.out]; exact hk, by rw [hm'.out]; omega⟩)).symm.trans he'.out)
        rw [hn'.out, hm'.out] at s3
        go_wp2
        go_ret
        exact ⟨ret_bool (by rw [← s3.out]), hd⟩
    · have s3 := Lib.hid ((bef_end a b k (.inl ⟨by rw [hn'.out]; omega, by rw [hm'.out]; exact hk2⟩)).symm.trans he'.out)
      rw [hn'.out, hm'.out] at s3
      go_wp2
      go_ret
      exact ⟨ret_bool (by rw [← s3.out]), hd⟩
theorem sameF_ne {a b : List Int} (h : a ≠ b) : sameF a b = false := by simp [sameF, h]
set_option maxRecDepth 100000 in
theorem order_law (n m : Nat) (hn : n < 18446744073709551616) (hm : m < 18446744073709551616) (w : World) :
    Calls Try.prog 7 #[.int .u64 (n : Int), .int .u64 (m : Int)] w fun e w' => e = .returned (.bool true) ∧ Below w.heap.size w w' := by
  have c1 := Lib.hid (fun wi => number_any n hn wi)
  have c2 := Lib.hid (fun wi => number_any m hm wi)
  have l1 := Lib.hid (numB_length n)
  have l2 := Lib.hid (numB_length m)
  have p1 := numL_le n hn
  have p2 := numL_le m hm
  have q1 := numL_pos n
  have q2 := numL_pos m
  have hal := Lib.hid (fun wi => alive_any wi)
  rcases Nat.lt_trichotomy n m with h | h | h
  · obtain ⟨hb, hl⟩ := befF_num n m hm h
    have hs := sameF_ne (fun e => absurd (numB_inj hn hm e) (by omega))
    have hb' := Lib.hid hb; have hs' := Lib.hid hs
    have hne : ((n : Int) == (m : Int)) = false := by simp; omega
    clear hn hm hb hs
    generalize numL n = L1 at *
    generalize numB n = B1 at *
    generalize numL m = L2 at *
    generalize numB m = B2 at *
    go_enter Try.func7, Try.ntmps7
    go_wp2_with (first
      | (go_at_call 23; (with_reducible refine (c1.out _).mono ?_); rintro e w1 ⟨rfl, hg, hb⟩; have hB := Lib.hid hb; have rd1 := Lib.hid (rdB_row hg L1 l1.out (by unfold maxLen; omega)); clear hg hb; refine Stop.go'' _ ?_))
    refine StopP.go ?_
    go_wp2_with (first
      | (go_at_call 23; (with_reducible refine (c2.out _).mono ?_); rintro e w2 ⟨rfl, hg, hb⟩; have hB := Lib.hid (hB.out.trans (hb.mono hB.out.size)); have rd2 := Lib.hid (rdB_row hg L2 l2.out (by unfold maxLen; omega)); have rd1 := Lib.hid (rd1.out.mono hb); have cb := Lib.hid (before_any _ _ _ _ true hb'.out w2 (by rw [l1.out]; omega) (by rw [l2.out]; omega) rd1.out rd2.out); clear hg hb)
      | (go_at_call 31; (with_reducible refine (cb.out).mono ?_); rintro e w3 ⟨rfl, hd⟩; have hB := Lib.hid (hd.below hB.out); have cs := Lib.hid (same_any _ _ _ _ w3 (by rw [l1.out]; omega) (draws_rdB hd rd1.out) (draws_rdB hd rd2.out)); rw [hs'.out] at cs; clear hd)
      | (go_at_call 22; (with_reducible refine (cs.out).mono ?_); rintro e w4 ⟨rfl, hd⟩; have hB := Lib.hid (hd.below hB.out); clear hd)
      | (go_at_call 17; (with_reducible refine (hal.out _).mono ?_); rintro e w5 ⟨rfl, hb⟩; have hB := Lib.hid (hB.out.trans (hb.mono hB.out.size)); clear hb))
    go_ret
    exact ⟨rfl, hB.out⟩
  · subst h
    have hs' := Lib.hid (sameF_self (numB n))
    clear hn hm
    generalize numL n = L1 at *
    generalize numB n = B1 at *
    go_enter Try.func7, Try.ntmps7
    go_wp2_with (first
      | (go_at_call 23; (with_reducible refine (c1.out _).mono ?_); rintro e w1 ⟨rfl, hg, hb⟩; have hB := Lib.hid hb; have rd1 := Lib.hid (rdB_row hg L1 l1.out (by unfold maxLen; omega)); clear hg hb; refine Stop.go'' _ ?_))
    refine StopP.go ?_
    go_wp2_with (first
      | (go_at_call 23; (with_reducible refine (c2.out _).mono ?_); rintro e w2 ⟨rfl, hg, hb⟩; have hB := Lib.hid (hB.out.trans (hb.mono hB.out.size)); have rd2 := Lib.hid (rdB_row hg L1 l2.out (by unfold maxLen; omega)); have rd1 := Lib.hid (rd1.out.mono hb); have cs := Lib.hid (same_any _ _ _ _ w2 (by rw [l1.out]; omega) rd1.out rd2.out); rw [hs'.out] at cs; clear hg hb)
      | (go_at_call 22; (with_reducible refine (cs.out).mono ?_); rintro e w4 ⟨rfl, hd⟩; have hB := Lib.hid (hd.below hB.out); clear hd)
      | (go_at_call 17; (with_reducible refine (hal.out _).mono ?_); rintro e w5 ⟨rfl, hb⟩; have hB := Lib.hid (hB.out.trans (hb.mono hB.out.size)); clear hb))
    go_ret
    exact ⟨rfl, hB.out⟩
  · obtain ⟨hb, hl⟩ := befF_num m n hn h
    have hs := sameF_ne (fun e => absurd (numB_inj hn hm e) (by omega))
    have hb' := Lib.hid hb; have hs' := Lib.hid hs
    have hne : ((n : Int) == (m : Int)) = false := by simp; omega
    clear hn hm hb hs
    generalize numL n = L1 at *
    generalize numB n = B1 at *
    generalize numL m = L2 at *
    generalize numB m = B2 at *
    go_enter Try.func7, Try.ntmps7
    go_wp2_with (first
      | (go_at_call 23; (with_reducible refine (c1.out _).mono ?_); rintro e w1 ⟨rfl, hg, hb⟩; have hB := Lib.hid hb; have rd1 := Lib.hid (rdB_row hg L1 l1.out (by unfold maxLen; omega)); clear hg hb; refine Stop.go'' _ ?_))
    refine StopP.go ?_
    go_wp2_with (first
      | (go_at_call 23; (with_reducible refine (c2.out _).mono ?_); rintro e w2 ⟨rfl, hg, hb⟩; have hB := Lib.hid (hB.out.trans (hb.mono hB.out.size)); have rd2 := Lib.hid (rdB_row hg L2 l2.out (by unfold maxLen; omega)); have rd1 := Lib.hid (rd1.out.mono hb); have cb := Lib.hid (before_any _ _ _ _ true hb'.out w2 (by rw [l2.out]; omega) (by rw [l1.out]; omega) rd2.out rd1.out); clear hg hb)
      | (go_at_call 31; (with_reducible refine (cb.out).mono ?_); rintro e w3 ⟨rfl, hd⟩; have hB := Lib.hid (hd.below hB.out); have cs := Lib.hid (same_any _ _ _ _ w3 (by rw [l1.out]; omega) (draws_rdB hd rd1.out) (draws_rdB hd rd2.out)); rw [hs'.out] at cs; clear hd)
      | (go_at_call 22; (with_reducible refine (cs.out).mono ?_); rintro e w4 ⟨rfl, hd⟩; have hB := Lib.hid (hd.below hB.out); clear hd)
      | (go_at_call 17; (with_reducible refine (hal.out _).mono ?_); rintro e w5 ⟨rfl, hb⟩; have hB := Lib.hid (hB.out.trans (hb.mono hB.out.size)); clear hb))
    go_ret
    exact ⟨rfl, hB.out⟩
end Go.Proofs.Ytbnoomogdbnheaa

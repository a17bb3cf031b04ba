/- The maths of ValueAs. -/
import Derived.Test.YtpklfohaifeboaaV13
import Derived.Test.YtpklfohaifeboaaV12
namespace Go.Proofs.Ytpklfohaifeboaa
open Go.RowKit Go.Ytpklfohaifeboaa
set_option linter.unusedVariables false
theorem orI_zero (a : Int) : orI a 0 = a := by unfold orI; split <;> simp_all
theorem cmpF_nil : cmpF (sI ⟨#[]⟩) (sI ⟨#[]⟩) = 0 := cmp_self _
theorem cmpI_lt {a b : Int} (h : a < b) : cmpI a b = -1 := by unfold cmpI; rw [if_pos h]
theorem cmpI_gt {a b : Int} (h : b < a) : cmpI a b = 1 := by unfold cmpI; rw [if_neg (by omega), if_pos h]
theorem cmpI_same {a b : Int} (h : a = b) : cmpI a b = 0 := by subst h; exact cmpI_self _
theorem cmpI_neg (a b : Int) : decide (cmpI a b < 0) = decide (a < b) := by
  rcases Int.lt_trichotomy a b with h | h | h
  · rw [cmpI_lt h, decide_eq_true h]; rfl
  · rw [cmpI_same h, decide_eq_false (show ¬ a < b by omega)]; rfl
  · rw [cmpI_gt h, decide_eq_false (show ¬ a < b by omega)]; rfl
theorem cmpI_pos (a b : Int) : decide (0 < cmpI a b) = decide (b < a) := by
  rcases Int.lt_trichotomy a b with h | h | h
  · rw [cmpI_lt h, decide_eq_false (show ¬ b < a by omega)]; rfl
  · rw [cmpI_same h, decide_eq_false (show ¬ b < a by omega)]; rfl
  · rw [cmpI_gt h, decide_eq_true h]; rfl
theorem cmp_num (n m : Int) (hn : -9223372036854775808 ≤ n ∧ n ≤ 9223372036854775807) (hm : -9223372036854775808 ≤ m ∧ m ≤ 9223372036854775807) : cmpV 1 n 0 ⟨#[]⟩ 1 m 0 ⟨#[]⟩ = cmpI n m := by
  unfold cmpV
  rw [cmpF_nil, orI_zero]
  rcases Int.lt_trichotomy n m with h | h | h
  · rw [cmpI_lt h, cmpI_lt (plP_number n m hn hm 0 0 h)]
  · rw [cmpI_same h, cmpI_same (by rw [h])]
  · rw [cmpI_gt h, cmpI_gt (plP_number m n hm hn 0 0 h)]
theorem canF_of (x : Nat) (h : clsF x ≠ 5) : canF x = x := by unfold canF; rw [if_neg h]
theorem plP_flt (n : Int) (b : Nat) : plP 2 n b = ((rankF b : Int) * 4096) * 4 + 2 := by
  unfold plP
  rw [show plF 2 n b = rankF b from rfl, show plR 2 n = 0 from rfl]; omega
theorem cmp_flt (x y : Nat) (hx : x < 18446744073709551616) (hy : y < 18446744073709551616) (cx : clsF x ≠ 5) (cy : clsF y ≠ 5) (hs : x / 9223372036854775808 = y / 9223372036854775808) :
    cmpV 2 0 (canF x) ⟨#[]⟩ 2 0 (canF y) ⟨#[]⟩ = if x / 9223372036854775808 = 1 then cmpI y x else cmpI x y := by
  rw [canF_of x cx, canF_of y cy]
  unfold cmpV
  rw [cmpF_nil, orI_zero, plP_flt, plP_flt]
  by_cases h1 : x / 9223372036854775808 = 1
  · rw [if_pos h1]
    have e1 : rankF x = 18446744073709551615 - x := by unfold rankF; rw [if_neg (by omega)]
    have e2 : rankF y = 18446744073709551615 - y := by unfold rankF; rw [if_neg (by omega)]
    rw [e1, e2]
    rcases Int.lt_trichotomy (y : Int) x with h | h | h
    · rw [cmpI_lt h, cmpI_lt (by omega)]
    · rw [cmpI_same h, cmpI_same (by omega)]
    · rw [cmpI_gt h, cmpI_gt (by omega)]
  · rw [if_neg h1]
    have e1 : rankF x = x + 9223372036854775808 := by unfold rankF; rw [if_pos (by omega)]
    have e2 : rankF y = y + 9223372036854775808 := by unfold rankF; rw [if_pos (by omega)]
    rw [e1, e2]
    rcases Int.lt_trichotomy (x : Int) y with h | h | h
    · rw [cmpI_lt h, cmpI_lt (by omega)]
    · rw [cmpI_same h, cmpI_same (by omega)]
    · rw [cmpI_gt h, cmpI_gt (by omega)]
theorem cutB_small (M : Nat) (h : M ≤ 9007199254740992) : cutB M ≤ 1076 * 4503599627370496 := by
  by_cases h53 : M = 9007199254740992
  · rw [h53, cut_53.1]; exact Nat.le_refl _
  · have := cut_less M 9007199254740992 (by omega) (by omega)
    rw [cut_53.1] at this
    omega
theorem szB_in (n : Int) (hn : -9007199254740992 ≤ n ∧ n ≤ 9007199254740992) : szB n < 18446744073709551616 ∧ clsF (szB n) ≠ 5 := by
  obtain ⟨S, c, h, hS, hc⟩ : ∃ S c : Nat, szB n = S + c ∧ (S = 0 ∨ S = 9223372036854775808) ∧ c ≤ 1076 * 4503599627370496 := by
    unfold szB
    split
    · exact ⟨_, _, rfl, .inr rfl, cutB_small _ (by omega)⟩
    · exact ⟨0, _, (Nat.zero_add _).symm, .inl rfl, cutB_small _ (by omega)⟩
  rw [h]
  refine ⟨by omega, ?_⟩
  have hx : spX (S + c) ≠ 2047 := by unfold spX; omega
  unfold clsF
  generalize spX (S + c) = X at *
  generalize spF (S + c) = F at *
  split
  · decide
  · split
    · decide
    · simp [hx]
theorem plP_szB (n : Int) (hn : -9007199254740992 ≤ n ∧ n ≤ 9007199254740992) (b : Nat) : plP 1 n b = ((rankF (szB n) : Int) * 4096) * 4 + 1 := by
  have e1 : plF 1 n b = rankF (szB n) := by
    unfold plF szB; rw [if_pos rfl]; split <;> rfl
  have e2 : plR 1 n = 0 := by
    unfold plR; rw [if_pos rfl]
    split
    · rw [cutR_small _ (by omega)]; rfl
    · rw [cutR_small _ (by omega)]; rfl
  unfold plP
  rw [e1, e2]; omega
theorem cmp_own (n : Int) (hn : -9007199254740992 ≤ n ∧ n ≤ 9007199254740992) : cmpV 1 n 0 ⟨#[]⟩ 2 0 (szB n) ⟨#[]⟩ = -1 := by
  unfold cmpV
  rw [cmpF_nil, orI_zero, plP_szB n hn, plP_flt, cmpI_lt (by omega)]
theorem num_ok (n : Int) : validB 1 n 0 ⟨#[]⟩ = true := by unfold validB; rw [if_pos rfl]; rfl
theorem flt_ok (b : Nat) (h : canF b = b) : validB 2 0 b ⟨#[]⟩ = true := by unfold validB; rw [if_neg (by decide), if_pos rfl, h]; simp; rfl
theorem num_fit (n : Int) (hn : -9223372036854775808 ≤ n ∧ n ≤ 9223372036854775807) : VFit 1 n 0 ⟨#[]⟩ := ⟨by decide, hn, by decide, by decide⟩
theorem flt_fit (b : Nat) (hb : b < 18446744073709551616) : VFit 2 0 b ⟨#[]⟩ := ⟨by decide, by decide, hb, by decide⟩
theorem cmp_between (v : Va) (fv : v.fit) (hv : v.ok = true) (n : Int) (hn : -9007199254740992 ≤ n ∧ n ≤ 9007199254740992)
    (h1 : eqB v.k v.n v.b v.s 1 n 0 ⟨#[]⟩ = false) (h2 : eqB v.k v.n v.b v.s 2 0 (szB n) ⟨#[]⟩ = false) :
    ∃ d, cmpV v.k v.n v.b v.s 1 n 0 ⟨#[]⟩ = d ∧ cmpV v.k v.n v.b v.s 2 0 (szB n) ⟨#[]⟩ = d ∧ d ≠ 0 := by
  obtain ⟨hz, hc⟩ := szB_in n hn
  have f1 := num_fit n (by omega)
  have f2 := flt_fit (szB n) hz
  have o1 := num_ok n
  have o2 := flt_ok (szB n) (canF_of _ hc)
  have e1 := cmp_eqB v ⟨1, n, 0, ⟨#[]⟩⟩ fv f1 hv o1
  have e2 := cmp_eqB v ⟨2, 0, szB n, ⟨#[]⟩⟩ fv f2 hv o2
  simp only [Va.cmp] at e1 e2
  rw [h1] at e1
  rw [h2] at e2
  have d1 : cmpV v.k v.n v.b v.s 1 n 0 ⟨#[]⟩ ≠ 0 := by intro h; rw [h] at e1; cases e1
  have d2 : cmpV v.k v.n v.b v.s 2 0 (szB n) ⟨#[]⟩ ≠ 0 := by intro h; rw [h] at e2; cases e2
  refine ⟨_, rfl, ?_, d1⟩
  have hk := valid_kind hv
  have hP := plP_szB n hn 0
  have hQ := plP_flt 0 (szB n)
  -- the place is neither of the two
  have n1 : plP v.k v.n v.b ≠ plP 1 n 0 := by
    intro h
    have hkk := plP_kind _ _ _ _ _ _ hk (by decide) h
    apply d1
    have hs : v.s = ⟨#[]⟩ := by
      have hv2 : validB v.k v.n v.b v.s = true := hv
      rw [hkk] at hv2
      unfold validB at hv2
      rw [if_pos rfl] at hv2
      simp only [Bool.and_eq_true, decide_eq_true_eq] at hv2
      obtain ⟨_, h9⟩ := hv2
      cases hvs : v.s with | mk a => rw [hvs] at h9; simp only [ByteArray.mk.injEq]; exact Array.eq_empty_of_size_eq_zero h9
    unfold cmpV
    rw [hs, cmpF_nil, orI_zero, cmpI_same h]
  have n2 : plP v.k v.n v.b ≠ plP 2 0 (szB n) := by
    intro h
    have hkk := plP_kind _ _ _ _ _ _ hk (by decide) h
    apply d2
    have hs : v.s = ⟨#[]⟩ := by
      have hv2 : validB v.k v.n v.b v.s = true := hv
      rw [hkk] at hv2
      unfold validB at hv2
      rw [if_neg (by decide), if_pos rfl] at hv2
      simp only [Bool.and_eq_true, decide_eq_true_eq] at hv2
      obtain ⟨_, _, h9⟩ := hv2
      cases hvs : v.s with | mk a => rw [hvs] at h9; simp only [ByteArray.mk.injEq]; exact Array.eq_empty_of_size_eq_zero h9
    unfold cmpV
    rw [hs, cmpF_nil, orI_zero, cmpI_same h]
  rw [hP] at n1
  rw [hQ] at n2
  unfold cmpV
  rw [hP, hQ]
  generalize plP v.k v.n v.b = P at *
  generalize (rankF (szB n) : Int) * 4096 * 4 = T at *
  rcases Int.lt_trichotomy P (T + 1) with h | h | h
  · rw [cmpI_lt h, cmpI_lt (show P < T + 2 by omega)]
  · exact absurd h n1
  · rw [cmpI_gt h, cmpI_gt (show T + 2 < P by omega)]
end Go.Proofs.Ytpklfohaifeboaa

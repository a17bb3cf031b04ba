/- The reference's order is the program's. -/
import Derived.Test.YtpklfohaifeboaaV26
namespace Go.Proofs.Ytpklfohaifeboaa
open Go.RowKit Go.Ytpklfohaifeboaa
set_option linter.unusedVariables false
theorem nil_of_size' {s : ByteArray} (h : s.size = 0) : s = ⟨#[]⟩ := by
  cases s with | mk a => simp only [ByteArray.mk.injEq]; exact Array.eq_empty_of_size_eq_zero h
def wayF (b : Nat) : Int := if b < 9223372036854775808 then 1 else -1
def sdF (k n : Int) (b : Nat) : Int := if k = 3 then 4 else if k = 1 then (if n < 0 then -1 else if n = 0 then 0 else 1) else if clsF b = 1 then 0 else if clsF b = 4 then 2 * wayF b else if clsF b = 5 then 3 else wayF b
def szF (k n : Int) (b : Nat) : List Int := if k = 1 then digF n.natAbs 1074 else if spX b = 0 then digF (spF b) 0 else digF (4503599627370496 + spF b) (spX b - 1)
def refV (k n : Int) (b : Nat) (s : ByteArray) (k' n' : Int) (b' : Nat) (s' : ByteArray) : Int :=
  if sdF k n b = sdF k' n' b' then
    (if sdF k n b = 4 then cmpF (sI s) (sI s')
    else if sdF k n b = -1 then (if lsF (szF k' n' b') (szF k n b) = 0 then cmpI (rkF k b) (rkF k' b') else lsF (szF k' n' b') (szF k n b))
    else if sdF k n b = 1 then (if lsF (szF k n b) (szF k' n' b') = 0 then cmpI (rkF k b) (rkF k' b') else lsF (szF k n b) (szF k' n' b'))
    else cmpI (rkF k b) (rkF k' b'))
  else cmpI (sdF k n b) (sdF k' n' b')
def SI : Int := (SX 9218868437227405312 : Int)
theorem SI_pos : 0 < SI := by have := SX_pos (i := 9218868437227405312) (by decide); unfold SI; omega
theorem SI_eq : (SX 9218868437227405312 : Int) = SI := by unfold SI; exact Eq.refl _
/-- Where a value lies, by what it stands for. -/
def SdK (sd K : Int) : Prop := (K = -SI ∧ sd = -2) ∨ (-SI < K ∧ K < 0 ∧ sd = -1) ∨ (K = 0 ∧ sd = 0) ∨ (0 < K ∧ K < SI ∧ sd = 1) ∨ (K = SI ∧ sd = 2) ∨ (K = (SX 9221120237041090560 : Int) ∧ SI < K ∧ sd = 3)
theorem cls_of (b i : Nat) (hi : i < 9223372036854775808) (h : b = i ∨ b = i + 9223372036854775808) : spX b = i / 4503599627370496 ∧ spF b = i % 4503599627370496 := by
  unfold spX spF
  rcases h with rfl | rfl <;> constructor <;> omega
theorem sd_num (n : Int) (b : Nat) (hn : -9223372036854775808 ≤ n ∧ n ≤ 9223372036854775807) : SdK (sdF 1 n b) (Kv 1 n b) := by
  have hs := SI_pos
  have big : ∀ m : Nat, m ≤ 9223372036854775808 → (NumS m : Int) < SI := by
    intro m hm
    have hB : cutB m < 9218868437227405312 := by
      by_cases h0 : m = 0
      · subst h0; decide
      · obtain ⟨l1, l2, _, _⟩ := bitLen_in m h0 (by omega)
        unfold cutB; rw [if_neg h0]; omega
    have := nf m 9218868437227405312 (by omega)
    unfold SI
    omega
  unfold SdK sdF Kv
  rw [if_neg (show ¬ (1 : Int) = 3 by decide), if_pos rfl, if_pos rfl]
  by_cases h : n < 0
  · have h1 := big (-n).toNat (by omega)
    have h2 := NumS_lt (show 0 < (-n).toNat by omega)
    rw [NumS_zero] at h2
    rw [if_pos h, if_pos h]
    generalize NumS (-n).toNat = M at *
    right; left; omega
  · rw [if_neg h, if_neg h]
    by_cases h0 : n = 0
    · subst h0
      right; right; left
      rw [if_pos rfl, show (0 : Int).toNat = 0 from rfl, NumS_zero]; exact ⟨rfl, rfl⟩
    · have h1 := big n.toNat (by omega)
      have h2 := NumS_lt (show 0 < n.toNat by omega)
      rw [NumS_zero] at h2
      rw [if_neg h0]
      generalize NumS n.toNat = M at *
      right; right; right; left; omega
theorem sd_flt (n : Int) (b : Nat) (hb : b < 18446744073709551616) (hc : canF b = b) : SdK (sdF 2 n b) (Kv 2 n b) := by
  have hs := SI_pos
  obtain ⟨i, hi, hbi⟩ : ∃ i, i < 9223372036854775808 ∧ (b = i ∨ b = i + 9223372036854775808) := by
    by_cases h : b < 9223372036854775808
    · exact ⟨b, h, .inl rfl⟩
    · exact ⟨b - 9223372036854775808, by omega, .inr (by omega)⟩
  obtain ⟨e1, e2⟩ := cls_of b i hi hbi
  have hcls : clsF b = if i = 0 then 1 else if i < 4503599627370496 then 2 else if i = 9218868437227405312 then 4 else if 9218868437227405312 < i then 5 else 3 := by
    unfold clsF
    rw [e1, e2]
    by_cases c0 : i = 0
    · rw [if_pos (by omega), if_pos c0]
    · rw [if_neg (by omega), if_neg c0]
      by_cases c1 : i < 4503599627370496
      · rw [if_pos (by omega), if_pos c1]
      · rw [if_neg (by omega), if_neg c1]
        by_cases c2 : i = 9218868437227405312
        · rw [if_pos (by omega), if_pos c2]
        · rw [if_neg (by omega), if_neg c2]
          by_cases c3 : 9218868437227405312 < i
          · rw [if_pos (by omega), if_pos c3]
          · rw [if_neg (by omega), if_neg c3]
  have hK : Kv 2 n b = if b = i then (SX i : Int) else -(SX i : Int) := by
    rw [Kv_flt]
    rcases hbi with h | h
    · rw [if_pos (by omega), if_pos h, h]
    · rw [if_neg (by omega), if_neg (by omega), h, Nat.add_sub_cancel]
  have hw : wayF b = if b = i then 1 else -1 := by
    unfold wayF
    rcases hbi with h | h
    · rw [if_pos (by omega), if_pos h]
    · rw [if_neg (by omega), if_neg (by omega)]
  have h5 : clsF b = 5 → b = 9221120237041090560 := by
    intro h; unfold canF at hc; rw [if_pos h] at hc; exact hc.symm
  have hsd : sdF 2 n b = if clsF b = 1 then 0 else if clsF b = 4 then 2 * wayF b else if clsF b = 5 then 3 else wayF b := by
    unfold sdF; rw [if_neg (show ¬ (2 : Int) = 3 by decide), if_neg (show ¬ (2 : Int) = 1 by decide)]
  rw [hw] at hsd
  have hSe := SI_eq
  have h5' : 9218868437227405312 < i → b = 9221120237041090560 := by
    intro c
    apply h5
    rw [hcls, if_neg (by omega), if_neg (by omega), if_neg (by omega), if_pos c]
  unfold SdK
  rcases Nat.lt_trichotomy i 9218868437227405312 with c | c | c
  · have h1 := SX_mono c
    have hSI : (SX i : Int) < SI := by rw [← hSe]; omega
    by_cases c0 : i = 0
    · rw [show clsF b = 1 by rw [hcls, if_pos c0], if_pos rfl] at hsd
      rw [c0, SX_zero] at hK
      right; right; left
      exact ⟨by rw [hK]; split <;> rfl, hsd⟩
    · have h2 := SX_pos (i := i) (by omega)
      have hcl : clsF b = 2 ∨ clsF b = 3 := by
        rw [hcls, if_neg c0]
        by_cases c1 : i < 4503599627370496
        · rw [if_pos c1]; exact .inl rfl
        · rw [if_neg c1, if_neg (by omega), if_neg (by omega)]; exact .inr rfl
      generalize clsF b = cl at *
      rw [if_neg (show ¬ cl = 1 by omega), if_neg (show ¬ cl = 4 by omega), if_neg (show ¬ cl = 5 by omega)] at hsd
      by_cases hbi2 : b = i
      · rw [if_pos hbi2] at hsd hK
        right; right; right; left; exact ⟨by omega, by omega, hsd⟩
      · rw [if_neg hbi2] at hsd hK
        right; left; exact ⟨by omega, by omega, hsd⟩
  · rw [show clsF b = 4 by rw [hcls, if_neg (by omega), if_neg (by omega), if_pos c], if_neg (by decide), if_pos rfl] at hsd
    rw [c, hSe] at hK
    by_cases hbi2 : b = i
    · rw [c] at hbi2
      rw [if_pos hbi2] at hK
      rw [if_pos (hbi2.trans c.symm)] at hsd
      right; right; right; right; left; exact ⟨hK, hsd⟩
    · rw [if_neg hbi2] at hsd
      rw [c] at hbi2
      rw [if_neg hbi2] at hK
      left; exact ⟨hK, hsd⟩
  · have hb5 := h5' c
    have hbi' : b = i := by omega
    have h1 := SX_mono c
    rw [show clsF b = 5 by rw [hcls, if_neg (by omega), if_neg (by omega), if_neg (by omega), if_pos c], if_neg (by decide), if_neg (by decide), if_pos rfl] at hsd
    have h1b : SX 9218868437227405312 < SX b := by rw [hbi']; exact h1
    rw [if_pos hbi', ← hbi'] at hK
    right; right; right; right; right
    exact ⟨hK.trans (by rw [hb5]), by rw [hK, ← hSe]; omega, hsd⟩
theorem sz_num (n : Int) (b : Nat) : ∃ a s, szF 1 n b = digF a s ∧ (Kv 1 n b = ((a * 2 ^ s : Nat) : Int) ∨ Kv 1 n b = -((a * 2 ^ s : Nat) : Int)) := by
  refine ⟨n.natAbs, 1074, by unfold szF; rw [if_pos rfl], ?_⟩
  unfold Kv
  rw [if_pos rfl]
  by_cases h : n < 0
  · right
    rw [if_pos h, show n.natAbs = (-n).toNat by omega]; rfl
  · left
    rw [if_neg h, show n.natAbs = n.toNat by omega]; rfl
theorem sz_flt (n : Int) (b : Nat) (hb : b < 18446744073709551616) : ∃ a s, szF 2 n b = digF a s ∧ (Kv 2 n b = ((a * 2 ^ s : Nat) : Int) ∨ Kv 2 n b = -((a * 2 ^ s : Nat) : Int)) := by
  obtain ⟨i, hi, hbi⟩ : ∃ i, i < 9223372036854775808 ∧ (b = i ∨ b = i + 9223372036854775808) := by
    by_cases h : b < 9223372036854775808
    · exact ⟨b, h, .inl rfl⟩
    · exact ⟨b - 9223372036854775808, by omega, .inr (by omega)⟩
  obtain ⟨e1, e2⟩ := cls_of b i hi hbi
  have hK : Kv 2 n b = (SX i : Int) ∨ Kv 2 n b = -(SX i : Int) := by
    rw [Kv_flt]
    rcases hbi with h | h
    · left; rw [if_pos (by omega), h]
    · right; rw [if_neg (by omega), h, Nat.add_sub_cancel]
  by_cases h0 : i / 4503599627370496 = 0
  · refine ⟨i % 4503599627370496, 0, by unfold szF; rw [if_neg (show ¬ (2 : Int) = 1 by decide), e1, e2, if_pos h0], ?_⟩
    rw [show i % 4503599627370496 * 2 ^ 0 = SX i by unfold SX; rw [if_pos h0, h0]]
    exact hK
  · refine ⟨4503599627370496 + i % 4503599627370496, i / 4503599627370496 - 1, by unfold szF; rw [if_neg (show ¬ (2 : Int) = 1 by decide), e1, e2, if_neg h0], ?_⟩
    rw [show (4503599627370496 + i % 4503599627370496) * 2 ^ (i / 4503599627370496 - 1) = SX i by unfold SX; rw [if_neg h0]]
    exact hK
theorem lex_place_text (k n : Int) (b : Nat) (s : ByteArray) (hk : k = 1 ∨ k = 2) (hn : -9223372036854775808 ≤ n ∧ n ≤ 9223372036854775807) (hb : b < 18446744073709551616) (hv : validB k n b s = true) (n' : Int) (b' : Nat) : plP k n b < plP 3 n' b' := by
  have hF : plF k n b < 18446744073709551615 := by
    rcases hk with rfl | rfl
    · unfold plF rankF
      rw [if_pos rfl]
      have small : ∀ m : Nat, m < 18446744073709551616 → cutB m < 9218868437227405312 := by
        intro m hm
        by_cases h0 : m = 0
        · subst h0; decide
        · obtain ⟨l1, l2, _, _⟩ := bitLen_in m h0 hm
          unfold cutB; rw [if_neg h0]; omega
      split
      · have := small (-n).toNat (by omega); split <;> omega
      · have := small n.toNat (by omega); split <;> omega
    · show rankF b < 18446744073709551615
      have hc : canF b = b := by
        unfold validB at hv
        rw [if_neg (by decide), if_pos rfl] at hv
        simp only [Bool.and_eq_true, decide_eq_true_eq] at hv
        exact hv.2.1
      unfold rankF
      split
      · by_cases h : b = 9223372036854775807
        · rw [h] at hc
          have : canF 9223372036854775807 = 9221120237041090560 := by decide +kernel
          rw [this] at hc; cases hc
        · omega
      · omega
  have hR := plR_in k n
  unfold plP
  rw [show plF 3 n' b' = 18446744073709551615 from rfl, show plR 3 n' = 0 from rfl]
  rcases hk with rfl | rfl <;> omega
theorem str_nil {k n : Int} {b : Nat} {s : ByteArray} (hk : k = 1 ∨ k = 2) (hv : validB k n b s = true) : s = ⟨#[]⟩ := by
  rcases hk with rfl | rfl
  · unfold validB at hv
    rw [if_pos rfl] at hv
    simp only [Bool.and_eq_true, decide_eq_true_eq] at hv
    exact nil_of_size' hv.2
  · unfold validB at hv
    rw [if_neg (by decide), if_pos rfl] at hv
    simp only [Bool.and_eq_true, decide_eq_true_eq] at hv
    exact nil_of_size' hv.2.2
theorem can_of {n : Int} {b : Nat} {s : ByteArray} (hv : validB 2 n b s = true) : canF b = b := by
  unfold validB at hv
  rw [if_neg (by decide), if_pos rfl] at hv
  simp only [Bool.and_eq_true, decide_eq_true_eq] at hv
  exact hv.2.1
theorem sd_any {k n : Int} {b : Nat} {s : ByteArray} (hk : k = 1 ∨ k = 2) (fv : VFit k n b s) (hv : validB k n b s = true) : SdK (sdF k n b) (Kv k n b) := by
  rcases hk with rfl | rfl
  · exact sd_num n b fv.n
  · exact sd_flt n b fv.b (can_of hv)
theorem sz_any {k n : Int} {b : Nat} {s : ByteArray} (hk : k = 1 ∨ k = 2) (fv : VFit k n b s) : ∃ a t, szF k n b = digF a t ∧ (Kv k n b = ((a * 2 ^ t : Nat) : Int) ∨ Kv k n b = -((a * 2 ^ t : Nat) : Int)) := by
  rcases hk with rfl | rfl
  · exact sz_num n b
  · exact sz_flt n b fv.b
/-- The reference's order of two valid values is the program's. -/
theorem ref_cmp (k n : Int) (b : Nat) (s : ByteArray) (k' n' : Int) (b' : Nat) (s' : ByteArray) (fv : VFit k n b s) (fw : VFit k' n' b' s') (hv : validB k n b s = true) (hw : validB k' n' b' s' = true) :
    refV k n b s k' n' b' s' = cmpV k n b s k' n' b' s' := by
  have hk := valid_kind hv
  have hk' := valid_kind hw
  have num3 : ∀ {k n : Int} {b : Nat} {s : ByteArray}, (k = 1 ∨ k = 2) → VFit k n b s → validB k n b s = true → sdF k n b < 4 := by
    intro k n b s h f v
    have := sd_any h f v
    unfold SdK at this
    omega
  unfold cmpV
  by_cases h3 : k = 3
  · subst h3
    by_cases h3' : k' = 3
    · subst h3'
      have e : plP 3 n b = plP 3 n' b' := rfl
      unfold refV
      rw [show sdF 3 n b = 4 from rfl, show sdF 3 n' b' = 4 from rfl, if_pos rfl, if_pos rfl, cmpI_same e]
      rfl
    · have hkk : k' = 1 ∨ k' = 2 := by omega
      have h4 := num3 hkk fw hw
      have hp := lex_place_text k' n' b' s' hkk fw.n fw.b hw n b
      unfold refV
      rw [show sdF 3 n b = 4 from rfl, if_neg (by omega), cmpI_gt h4, cmpI_gt hp]
      rfl
  · have hkk0 : k = 1 ∨ k = 2 := by omega
    by_cases h3' : k' = 3
    · subst h3'
      have h4 := num3 hkk0 fv hv
      have hp := lex_place_text k n b s hkk0 fv.n fv.b hv n' b'
      unfold refV
      rw [show sdF 3 n' b' = 4 from rfl, if_neg (by omega), cmpI_lt h4, cmpI_lt hp]
      rfl
    · have hkk1 : k' = 1 ∨ k' = 2 := by omega
      rw [str_nil hkk0 hv, str_nil hkk1 hw, cmpF_nil, orI_zero, cmp_lex k n b k' n' b' hkk0 hkk1 fv.n fw.n fv.b fw.b]
      have a1 := sd_any hkk0 fv hv
      have a2 := sd_any hkk1 fw hw
      obtain ⟨p, t, z1, w1⟩ := sz_any hkk0 fv
      obtain ⟨q, u, z2, w2⟩ := sz_any hkk1 fw
      have hs := SI_pos
      unfold refV lexK
      rw [z1, z2, lsF_dig, lsF_dig]
      generalize p * 2 ^ t = P at *
      generalize q * 2 ^ u = Q at *
      generalize sdF k n b = sd at *
      generalize sdF k' n' b' = sd' at *
      generalize Kv k n b = A at *
      generalize Kv k' n' b' = B at *
      generalize cmpI (rkF k b) (rkF k' b') = RK at *
      generalize (SX 9221120237041090560 : Int) = S9 at *
      unfold SdK at a1 a2
      clear num3 z1 z2
      by_cases hsd : sd = sd'
      · rw [if_pos hsd, if_neg (show ¬ sd = 4 by omega)]
        by_cases hm : sd = -1
        · rw [if_pos hm]
          have hA : A = -(P : Int) := by omega
          have hB : B = -(Q : Int) := by omega
          rcases Nat.lt_trichotomy P Q with g | g | g
          · rw [cmpI_gt (show (P : Int) < Q by omega), if_neg (by decide), if_neg (show ¬ A = B by omega), cmpI_gt (show B < A by omega)]
          · rw [cmpI_same (show (Q : Int) = P by omega), if_pos rfl, if_pos (show A = B by omega)]
          · rw [cmpI_lt (show (Q : Int) < P by omega), if_neg (by decide), if_neg (show ¬ A = B by omega), cmpI_lt (show A < B by omega)]
        · rw [if_neg hm]
          by_cases ho : sd = 1
          · rw [if_pos ho]
            have hA : A = (P : Int) := by omega
            have hB : B = (Q : Int) := by omega
            rcases Nat.lt_trichotomy P Q with g | g | g
            · rw [cmpI_lt (show (P : Int) < Q by omega), if_neg (by decide), if_neg (show ¬ A = B by omega), cmpI_lt (show A < B by omega)]
            · rw [cmpI_same (show (P : Int) = Q by omega), if_pos rfl, if_pos (show A = B by omega)]
            · rw [cmpI_gt (show (Q : Int) < P by omega), if_neg (by decide), if_neg (show ¬ A = B by omega), cmpI_gt (show B < A by omega)]
          · rw [if_neg ho, if_pos (show A = B by omega)]
      · rw [if_neg hsd]
        rcases Int.lt_trichotomy sd sd' with g | g | g
        · rw [cmpI_lt g, if_neg (show ¬ A = B by omega), cmpI_lt (show A < B by omega)]
        · exact absurd g hsd
        · rw [cmpI_gt g, if_neg (show ¬ A = B by omega), cmpI_gt (show B < A by omega)]
end Go.Proofs.Ytpklfohaifeboaa

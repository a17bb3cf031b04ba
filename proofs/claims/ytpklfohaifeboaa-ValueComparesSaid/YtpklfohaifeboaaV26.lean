/- The maths of the reference's order: what numbers and floats stand for. -/
import Derived.Test.YtpklfohaifeboaaV25
namespace Go.Proofs.Ytpklfohaifeboaa
open Go.RowKit Go.Ytpklfohaifeboaa
set_option linter.unusedVariables false
/-- What the bits of a float without its sign stand for, times 2^1074. -/
def SX (b : Nat) : Nat := (if b / 4503599627370496 = 0 then b % 4503599627370496 else 4503599627370496 + b % 4503599627370496) * 2 ^ (b / 4503599627370496 - 1)
def NumS (n : Nat) : Nat := n * 2 ^ 1074
theorem SX_succ (b : Nat) : SX (b + 1) = SX b + 2 ^ (b / 4503599627370496 - 1) := by
  unfold SX
  by_cases hF : b % 4503599627370496 + 1 < 4503599627370496
  · have e1 : (b + 1) / 4503599627370496 = b / 4503599627370496 := by omega
    have e2 : (b + 1) % 4503599627370496 = b % 4503599627370496 + 1 := by omega
    rw [e1, e2]
    generalize b / 4503599627370496 = X
    generalize b % 4503599627370496 = F
    generalize 2 ^ (X - 1) = p
    split
    · rw [Nat.add_mul, Nat.one_mul]
    · rw [← Nat.add_assoc, Nat.add_mul, Nat.one_mul]
  · have e1 : (b + 1) / 4503599627370496 = b / 4503599627370496 + 1 := by omega
    have e2 : (b + 1) % 4503599627370496 = 0 := by omega
    have e3 : b % 4503599627370496 = 4503599627370495 := by omega
    rw [e1, e2, e3, if_neg (by omega)]
    generalize b / 4503599627370496 = X
    by_cases hX : X = 0
    · subst hX; rw [if_pos rfl]
    · rw [if_neg hX, show X + 1 - 1 = (X - 1) + 1 by omega, Nat.pow_succ]
      generalize 2 ^ (X - 1) = p
      omega
theorem SX_lt {a b : Nat} (h : a < b) : SX a + 2 ^ (a / 4503599627370496 - 1) ≤ SX b := by
  obtain ⟨d, rfl⟩ : ∃ d, b = a + 1 + d := ⟨b - (a + 1), by omega⟩
  clear h
  induction d with
  | zero => rw [Nat.add_zero, SX_succ]; exact Nat.le_refl _
  | succ d ih => rw [← Nat.add_assoc, SX_succ]; exact Nat.le_trans ih (Nat.le_add_right _ _)
theorem SX_mono {a b : Nat} (h : a < b) : SX a < SX b := by
  have := SX_lt h
  have := Nat.pow_pos (n := a / 4503599627370496 - 1) (show 0 < 2 by decide)
  omega
theorem SX_zero : SX 0 = 0 := by unfold SX; simp
theorem num_cut (n : Nat) (hn : n < 18446744073709551616) : ∃ e, NumS n = SX (cutB n) + cutR n * 2 ^ e ∧ cutR n * 2 ^ e < 2 ^ (cutB n / 4503599627370496 - 1) := by
  by_cases h0 : n = 0
  · subst h0
    refine ⟨0, ?_, ?_⟩
    · rw [show cutB 0 = 0 from rfl, show cutR 0 = 0 from rfl, SX_zero]; unfold NumS; generalize 2 ^ 1074 = P; simp
    · rw [show cutB 0 = 0 from rfl, show cutR 0 = 0 from rfl]; decide
  obtain ⟨l1, l2, l3, l4⟩ := bitLen_in n h0 hn
  obtain ⟨d1, d2⟩ := cutD_in n h0 hn
  have hB : cutB n = (1022 + Lib.bitLen n) * 4503599627370496 + cutD n / 2048 % 4503599627370496 := by unfold cutB; rw [if_neg h0]
  have hR : cutR n = cutD n % 2048 := by unfold cutR; rw [if_neg h0]
  have hD : cutD n * 2 ^ (1010 + Lib.bitLen n) = NumS n := by
    unfold NumS cutD
    rw [Nat.mul_assoc, ← Nat.pow_add, show 64 - Lib.bitLen n + (1010 + Lib.bitLen n) = 1074 by omega]
  refine ⟨1010 + Lib.bitLen n, ?_, ?_⟩
  · rw [← hD]
    unfold SX
    rw [hB, hR]
    generalize cutD n = D at *
    generalize Lib.bitLen n = L at *
    have e1 : ((1022 + L) * 4503599627370496 + D / 2048 % 4503599627370496) / 4503599627370496 = 1022 + L := by omega
    have e2 : ((1022 + L) * 4503599627370496 + D / 2048 % 4503599627370496) % 4503599627370496 = D / 2048 % 4503599627370496 := by omega
    rw [e1, e2, if_neg (by omega), show 1022 + L - 1 = 11 + (1010 + L) by omega, Nat.pow_add 2 11 (1010 + L)]
    generalize 2 ^ (1010 + L) = p
    rw [← Nat.mul_assoc, ← Nat.add_mul]
    congr 1
    have e3 : (2 : Nat) ^ 11 = 2048 := by decide
    rw [e3]
    omega
  · rw [hB, hR]
    generalize cutD n = D at *
    generalize Lib.bitLen n = L at *
    have e1 : ((1022 + L) * 4503599627370496 + D / 2048 % 4503599627370496) / 4503599627370496 = 1022 + L := by omega
    rw [e1, show 1022 + L - 1 = 11 + (1010 + L) by omega, Nat.pow_add 2 11 (1010 + L)]
    have hp := Nat.pow_pos (n := 1010 + L) (show 0 < 2 by decide)
    generalize 2 ^ (1010 + L) = p at *
    have e3 : (2 : Nat) ^ 11 = 2048 := by decide
    rw [e3]
    exact Nat.mul_lt_mul_of_pos_right (Nat.mod_lt _ (by decide)) hp
/-- A number and the bits of a float. -/
theorem nf (n b : Nat) (hn : n < 18446744073709551616) : (cutB n < b ∧ NumS n < SX b) ∨ (b < cutB n ∧ SX b < NumS n) ∨ (b = cutB n ∧ cutR n = 0 ∧ NumS n = SX b) ∨ (b = cutB n ∧ 0 < cutR n ∧ SX b < NumS n) := by
  obtain ⟨e, h1, h2⟩ := num_cut n hn
  rcases Nat.lt_trichotomy (cutB n) b with h | h | h
  · left; have := SX_lt h; exact ⟨h, by omega⟩
  · right; right
    by_cases hr : cutR n = 0
    · left; exact ⟨h.symm, hr, by rw [h1, hr, h]; omega⟩
    · right
      have := Nat.mul_pos (show 0 < cutR n by omega) (Nat.pow_pos (n := e) (show 0 < 2 by decide))
      rw [← h]
      exact ⟨rfl, by omega, by omega⟩
  · right; left; have := SX_mono h; exact ⟨h, by omega⟩
theorem mul_lt_any {n m : Nat} (P : Nat) (hP : 0 < P) (h : n < m) : n * P < m * P := Nat.mul_lt_mul_of_pos_right h hP
theorem NumS_lt {n m : Nat} (h : n < m) : NumS n < NumS m := by
  unfold NumS
  have hP := Nat.two_pow_pos 1074
  generalize 2 ^ 1074 = P at *
  exact mul_lt_any P hP h
theorem NumS_zero : NumS 0 = 0 := by unfold NumS; generalize 2 ^ 1074 = P; exact Nat.zero_mul P
/-- What a value stands for. -/
def Kv (k n : Int) (b : Nat) : Int := if k = 1 then (if n < 0 then -(NumS (-n).toNat : Int) else (NumS n.toNat : Int)) else (if b < 9223372036854775808 then (SX b : Int) else -(SX (b - 9223372036854775808) : Int))
def rkF (k : Int) (b : Nat) : Int := if k = 1 then 1 else if b = 9223372036854775808 then 0 else 2
def lexK (k n : Int) (b : Nat) (k' n' : Int) (b' : Nat) : Int := if Kv k n b = Kv k' n' b' then cmpI (rkF k b) (rkF k' b') else cmpI (Kv k n b) (Kv k' n' b')
/-- The parts of a place: the sign, the index of the float, what is beyond, and what it stands for without the sign. -/
structure Pl (k n : Int) (b : Nat) (g : Bool) (i r M : Nat) : Prop where
  hr : r < 2048
  hK : Kv k n b = if g = true then -(M : Int) else (M : Int)
  hp : plP k n b = ((9223372036854775808 + (if g = true then -1 - (i : Int) else (i : Int))) * 4096 + (if g = true then -(r : Int) else (r : Int))) * 4 + k
  hk : k = 1 ∨ k = 2
  hq : rkF k b = if k = 1 then 1 else if g = true ∧ i = 0 then 0 else 2
  hz : k = 1 → g = true → 0 < i
  hf : k = 2 → r = 0
theorem pl_cmp {F R k F' R' k' : Int} (h1 : -2048 < R ∧ R < 2048) (h2 : -2048 < R' ∧ R' < 2048) (hk : 1 ≤ k ∧ k ≤ 2) (hk' : 1 ≤ k' ∧ k' ≤ 2) (h : F < F' ∨ F = F' ∧ (R < R' ∨ R = R' ∧ k < k')) :
    ((9223372036854775808 + F) * 4096 + R) * 4 + k < ((9223372036854775808 + F') * 4096 + R') * 4 + k' := by omega
/-- Two of them are ordered alike by their places and by what they stand for. -/
def Alike (i r M i' r' M' : Nat) : Prop := (i < i' ∧ M < M') ∨ (i' < i ∧ M' < M) ∨ (i = i' ∧ r < r' ∧ M < M') ∨ (i = i' ∧ r' < r ∧ M' < M) ∨ (i = i' ∧ r = r' ∧ M = M')
theorem lex_of {P Q A B a b : Int} (h : (P < Q ∧ (A < B ∨ A = B ∧ a < b)) ∨ (Q < P ∧ (B < A ∨ A = B ∧ b < a)) ∨ (P = Q ∧ A = B ∧ a = b)) : cmpI P Q = if A = B then cmpI a b else cmpI A B := by
  rcases h with ⟨h, g | ⟨g, f⟩⟩ | ⟨h, g | ⟨g, f⟩⟩ | ⟨h, g, f⟩
  · rw [cmpI_lt h, if_neg (by omega), cmpI_lt g]
  · rw [cmpI_lt h, if_pos g, cmpI_lt f]
  · rw [cmpI_gt h, if_neg (by omega), cmpI_gt g]
  · rw [cmpI_gt h, if_pos g, cmpI_gt f]
  · rw [cmpI_same h, if_pos g, cmpI_same f]
theorem lex_pl {k n : Int} {b : Nat} {g : Bool} {i r M : Nat} {k' n' : Int} {b' : Nat} {g' : Bool} {i' r' M' : Nat} (h : Pl k n b g i r M) (h' : Pl k' n' b' g' i' r' M') (ha : Alike i r M i' r' M') (hz : i = 0 → r = 0 → M = 0) (hz' : i' = 0 → r' = 0 → M' = 0) (hp : 0 < i → 0 < M) (hp' : 0 < i' → 0 < M') :
    cmpI (plP k n b) (plP k' n' b') = lexK k n b k' n' b' := by
  have r1 := h.hr
  have r2 := h'.hr
  have z1 := h.hz
  have z2 := h'.hz
  have f1 := h.hf
  have f2 := h'.hf
  unfold lexK
  apply lex_of
  rw [h.hK, h'.hK, h.hp, h'.hp, h.hq, h'.hq]
  have k1 : 1 ≤ k ∧ k ≤ 2 := by rcases h.hk with e | e <;> omega
  have k2 : 1 ≤ k' ∧ k' ≤ 2 := by rcases h'.hk with e | e <;> omega
  have hkk := h.hk
  have hkk' := h'.hk
  obtain ⟨F, hF⟩ : ∃ F : Int, F = if g = true then -1 - (i : Int) else (i : Int) := ⟨_, rfl⟩
  obtain ⟨R, hR⟩ : ∃ R : Int, R = if g = true then -(r : Int) else (r : Int) := ⟨_, rfl⟩
  obtain ⟨F', hF'⟩ : ∃ F : Int, F = if g' = true then -1 - (i' : Int) else (i' : Int) := ⟨_, rfl⟩
  obtain ⟨R', hR'⟩ : ∃ R : Int, R = if g' = true then -(r' : Int) else (r' : Int) := ⟨_, rfl⟩
  obtain ⟨A, hA⟩ : ∃ A : Int, A = if g = true then -(M : Int) else (M : Int) := ⟨_, rfl⟩
  obtain ⟨B, hB⟩ : ∃ A : Int, A = if g' = true then -(M' : Int) else (M' : Int) := ⟨_, rfl⟩
  obtain ⟨p, hp1⟩ : ∃ A : Int, A = if k = 1 then 1 else if g = true ∧ i = 0 then 0 else 2 := ⟨_, rfl⟩
  obtain ⟨q, hq1⟩ : ∃ A : Int, A = if k' = 1 then 1 else if g' = true ∧ i' = 0 then 0 else 2 := ⟨_, rfl⟩
  rw [← hF, ← hR, ← hF', ← hR', ← hA, ← hB, ← hp1, ← hq1]
  clear h h'
  have R1 : -2048 < R ∧ R < 2048 := by rw [hR]; split <;> omega
  have R2 : -2048 < R' ∧ R' < 2048 := by rw [hR']; split <;> omega
  have main : ((F < F' ∨ F = F' ∧ (R < R' ∨ R = R' ∧ k < k')) ∧ (A < B ∨ A = B ∧ p < q)) ∨ ((F' < F ∨ F' = F ∧ (R' < R ∨ R' = R ∧ k' < k)) ∧ (B < A ∨ A = B ∧ q < p)) ∨ (F = F' ∧ R = R' ∧ k = k' ∧ A = B ∧ p = q) := by
    have hp2 : p = 1 ∧ k = 1 ∨ k = 2 ∧ (p = 0 ∧ g = true ∧ i = 0 ∨ p = 2 ∧ ¬ (g = true ∧ i = 0)) := by
      rw [hp1]
      rcases hkk with rfl | rfl
      · exact .inl ⟨rfl, rfl⟩
      · right
        refine ⟨rfl, ?_⟩
        rw [if_neg (show ¬ (2 : Int) = 1 by decide)]
        by_cases hc : g = true ∧ i = 0
        · left; rw [if_pos hc]; exact ⟨rfl, hc⟩
        · right; rw [if_neg hc]; exact ⟨rfl, hc⟩
    have hq2 : q = 1 ∧ k' = 1 ∨ k' = 2 ∧ (q = 0 ∧ g' = true ∧ i' = 0 ∨ q = 2 ∧ ¬ (g' = true ∧ i' = 0)) := by
      rw [hq1]
      rcases hkk' with rfl | rfl
      · exact .inl ⟨rfl, rfl⟩
      · right
        refine ⟨rfl, ?_⟩
        rw [if_neg (show ¬ (2 : Int) = 1 by decide)]
        by_cases hc : g' = true ∧ i' = 0
        · left; rw [if_pos hc]; exact ⟨rfl, hc⟩
        · right; rw [if_neg hc]; exact ⟨rfl, hc⟩
    clear hp1 hq1 hkk hkk' R1 R2
    unfold Alike at ha
    cases g <;> cases g' <;> simp only [if_true, if_false, Bool.false_eq_true, true_and, false_and, forall_const, not_false_eq_true, and_true, and_false, or_false, false_or] at hF hR hF' hR' hA hB hp2 hq2 z1 z2
    all_goals
      rcases hp2 with ⟨e1, e2⟩ | ⟨e1, e2⟩ <;> rcases hq2 with ⟨e3, e4⟩ | ⟨e3, e4⟩
      all_goals
        try have f1 := f1 e1
        try have f2 := f2 e3
        try have z1 := z1 e2
        try have z2 := z2 e4
        rcases ha with ha | ha | ha | ha | ha <;> omega
  rcases main with ⟨m1, m2⟩ | ⟨m1, m2⟩ | ⟨rfl, rfl, rfl, rfl, rfl⟩
  · exact .inl ⟨pl_cmp R1 R2 k1 k2 m1, m2⟩
  · exact .inr (.inl ⟨pl_cmp R2 R1 k2 k1 m1, m2⟩)
  · exact .inr (.inr ⟨rfl, rfl, rfl⟩)
theorem cutB_pos {m : Nat} (h0 : m ≠ 0) (hm : m < 18446744073709551616) : 0 < cutB m := by
  obtain ⟨l1, _, _, _⟩ := bitLen_in m h0 hm
  unfold cutB; rw [if_neg h0]; omega
theorem pl_num (n : Int) (b : Nat) (hn : -9223372036854775808 ≤ n ∧ n ≤ 9223372036854775807) : ∃ g m, Pl 1 n b g (cutB m) (cutR m) (NumS m) ∧ m < 18446744073709551616 := by
  by_cases h : n < 0
  · have hB := cutB_lt (-n).toNat (by omega)
    have hz := cutB_pos (m := (-n).toNat) (by omega) (by omega)
    refine ⟨true, (-n).toNat, ⟨cutR_lt _, ?_, ?_, .inl rfl, rfl, (fun _ _ => hz), (fun h => by cases h)⟩, by omega⟩
    · unfold Kv; rw [if_pos rfl, if_pos h, if_pos rfl]
    · unfold plP plF plR rankF
      rw [if_pos rfl, if_pos rfl, if_pos h, if_pos h, if_pos rfl, if_pos rfl]
      generalize cutB (-n).toNat = c at *
      rw [if_neg (by omega)]
      omega
  · have hB := cutB_lt n.toNat (by omega)
    refine ⟨false, n.toNat, ⟨cutR_lt _, ?_, ?_, .inl rfl, rfl, (fun _ h => by cases h), (fun h => by cases h)⟩, by omega⟩
    · unfold Kv; rw [if_pos rfl, if_neg h, if_neg (by decide)]
    · unfold plP plF plR rankF
      rw [if_pos rfl, if_pos rfl, if_neg h, if_neg h, if_neg (show ¬ false = true by decide), if_neg (show ¬ false = true by decide)]
      generalize cutB n.toNat = c at *
      rw [if_pos hB]
      omega
theorem rk_flt (b : Nat) : rkF 2 b = if b = 9223372036854775808 then 0 else 2 := by unfold rkF; rw [if_neg (show ¬ (2 : Int) = 1 by decide)]
theorem Kv_flt (n : Int) (b : Nat) : Kv 2 n b = if b < 9223372036854775808 then (SX b : Int) else -(SX (b - 9223372036854775808) : Int) := by unfold Kv; rw [if_neg (show ¬ (2 : Int) = 1 by decide)]
theorem pl_flt (n : Int) (b : Nat) (hb : b < 18446744073709551616) : ∃ g i, Pl 2 n b g i 0 (SX i) ∧ (b = i ∧ g = false ∨ b = i + 9223372036854775808 ∧ g = true) := by
  by_cases h : b < 9223372036854775808
  · refine ⟨false, b, ⟨by decide, ?_, ?_, .inr rfl, ?_, (fun h => by cases h), fun _ => rfl⟩, .inl ⟨rfl, rfl⟩⟩
    · rw [Kv_flt, if_pos h, if_neg (show ¬ false = true by decide)]
    · rw [plP_flt]; unfold rankF; rw [if_pos h, if_neg (show ¬ false = true by decide), if_neg (show ¬ false = true by decide)]; omega
    · rw [rk_flt, if_neg (show ¬ (2 : Int) = 1 by decide), if_neg (show ¬ b = 9223372036854775808 by omega), if_neg (show ¬ (false = true ∧ b = 0) from fun h => by cases h.1)]
  · obtain ⟨i, rfl⟩ : ∃ i, b = i + 9223372036854775808 := ⟨b - 9223372036854775808, by omega⟩
    refine ⟨true, i, ⟨by decide, ?_, ?_, .inr rfl, ?_, (fun h => by cases h), fun _ => rfl⟩, .inr ⟨rfl, rfl⟩⟩
    · rw [Kv_flt, if_neg h, if_pos rfl, Nat.add_sub_cancel]
    · rw [plP_flt]; unfold rankF; rw [if_neg h, if_pos rfl, if_pos rfl]; omega
    · rw [rk_flt, if_neg (show ¬ (2 : Int) = 1 by decide)]
      by_cases h0 : i = 0
      · rw [if_pos (show i + 9223372036854775808 = 9223372036854775808 by omega), if_pos (show true = true ∧ i = 0 from ⟨rfl, h0⟩)]
      · rw [if_neg (show ¬ i + 9223372036854775808 = 9223372036854775808 by omega), if_neg (show ¬ (true = true ∧ i = 0) from fun h => h0 h.2)]
theorem SX_pos {i : Nat} (h : 0 < i) : 0 < SX i := by have := SX_mono h; omega
theorem num_zero (m : Nat) (hm : m < 18446744073709551616) : (cutB m = 0 → cutR m = 0 → NumS m = 0) ∧ (0 < cutB m → 0 < NumS m) := by
  obtain ⟨e, h1, h2⟩ := num_cut m hm
  refine ⟨fun a b => by rw [h1, a, b, SX_zero]; omega, fun a => ?_⟩
  have := SX_pos a
  omega
/-- The program's order of numbers and floats, by what they stand for. -/
theorem cmp_lex (k n : Int) (b : Nat) (k' n' : Int) (b' : Nat) (hk : k = 1 ∨ k = 2) (hk' : k' = 1 ∨ k' = 2) (hn : -9223372036854775808 ≤ n ∧ n ≤ 9223372036854775807) (hn' : -9223372036854775808 ≤ n' ∧ n' ≤ 9223372036854775807) (hb : b < 18446744073709551616) (hb' : b' < 18446744073709551616) :
    cmpI (plP k n b) (plP k' n' b') = lexK k n b k' n' b' := by
  rcases hk with rfl | rfl <;> rcases hk' with rfl | rfl
  · obtain ⟨g, m, h, hm⟩ := pl_num n b hn
    obtain ⟨g', m', h', hm'⟩ := pl_num n' b' hn'
    refine lex_pl h h' ?_ (num_zero m hm).1 (num_zero m' hm').1 (num_zero m hm).2 (num_zero m' hm').2
    rcases Nat.lt_trichotomy m m' with f | f | f
    · have := NumS_lt f
      rcases cut_less m m' hm' f with c | c
      · exact .inl ⟨c, this⟩
      · exact .inr (.inr (.inl ⟨c.1, c.2, this⟩))
    · subst f; exact .inr (.inr (.inr (.inr ⟨rfl, rfl, rfl⟩)))
    · have := NumS_lt f
      rcases cut_less m' m hm f with c | c
      · exact .inr (.inl ⟨c, this⟩)
      · exact .inr (.inr (.inr (.inl ⟨c.1.symm, c.2, this⟩)))
  · obtain ⟨g, m, h, hm⟩ := pl_num n b hn
    obtain ⟨g', i', h', _⟩ := pl_flt n' b' hb'
    refine lex_pl h h' ?_ (num_zero m hm).1 (fun a _ => by rw [a, SX_zero]) (num_zero m hm).2 SX_pos
    rcases nf m i' hm with c | c | c | c
    · exact .inl c
    · exact .inr (.inl c)
    · exact .inr (.inr (.inr (.inr ⟨c.1.symm, c.2.1, c.2.2⟩)))
    · exact .inr (.inr (.inr (.inl ⟨c.1.symm, c.2.1, c.2.2⟩)))
  · obtain ⟨g, i, h, _⟩ := pl_flt n b hb
    obtain ⟨g', m', h', hm'⟩ := pl_num n' b' hn'
    refine lex_pl h h' ?_ (fun a _ => by rw [a, SX_zero]) (num_zero m' hm').1 SX_pos (num_zero m' hm').2
    rcases nf m' i hm' with c | c | c | c
    · exact .inr (.inl c)
    · exact .inl c
    · exact .inr (.inr (.inr (.inr ⟨c.1, c.2.1.symm, c.2.2.symm⟩)))
    · exact .inr (.inr (.inl ⟨c.1, c.2.1, c.2.2⟩))
  · obtain ⟨g, i, h, _⟩ := pl_flt n b hb
    obtain ⟨g', i', h', _⟩ := pl_flt n' b' hb'
    refine lex_pl h h' ?_ (fun a _ => by rw [a, SX_zero]) (fun a _ => by rw [a, SX_zero]) SX_pos SX_pos
    rcases Nat.lt_trichotomy i i' with f | f | f
    · exact .inl ⟨f, SX_mono f⟩
    · subst f; exact .inr (.inr (.inr (.inr ⟨rfl, rfl, rfl⟩)))
    · exact .inr (.inl ⟨f, SX_mono f⟩)
end Go.Proofs.Ytpklfohaifeboaa

/- Plain mathematics of layer 4: the bytes of a number, what is read, and their order. No program. -/
import Derived.Test.YtnknkiiikeefgaaGreatDoorLib
import Derived.Lib.ItoaNum
namespace Go
namespace YtnknkiiikeefgaaGreatDoor
theorem ith_ext {a b : List Int} (h : a.length = b.length) (h2 : ∀ i, i < a.length → ith a i = ith b i) : a = b := by
  apply List.ext_getElem h
  intro i h1 h3
  have := h2 i h1
  simpa [ith, h1, h3] using this
theorem bytes_cons {x : Int} {l : List Int} (h : Bytes (x :: l)) : (0 ≤ x ∧ x < 256) ∧ Bytes l := by
  refine ⟨by simpa [ith] using h 0, fun i => ?_⟩
  have := h (i + 1)
  simpa [ith] using this
theorem bytes_mk_cons {x : Int} {l : List Int} (hx : 0 ≤ x ∧ x < 256) (h : Bytes l) : Bytes (x :: l) := by
  intro i
  cases i with
  | zero => simpa [ith] using hx
  | succ i => have := h i; simpa [ith] using this
/-- How many bytes a number has behind its first one. -/
def ks (n : Nat) : Nat := (Lib.bitLen n + 7) / 8
theorem pow256 (k : Nat) : 256 ^ k = 2 ^ (8 * k) := by rw [Nat.pow_mul]
theorem ks_bounds (n : Nat) (h0 : n ≠ 0) (h : n < 18446744073709551616) : 1 ≤ ks n ∧ ks n ≤ 8 ∧ 256 ^ (ks n - 1) ≤ n ∧ n < 256 ^ ks n := by
  obtain ⟨a, b, c⟩ := Lib.bitLenAux_bounds 64 n h h0
  have hL : Lib.bitLenAux 64 n ≤ 64 := Lib.bitLen_le n 64 (Nat.le_refl _) h
  unfold ks Lib.bitLen
  generalize Lib.bitLenAux 64 n = L at a b c hL ⊢
  refine ⟨by omega, by omega, ?_, ?_⟩
  · rw [pow256]; exact Nat.le_trans (Nat.pow_le_pow_right (by decide) (by omega)) b
  · rw [pow256]; exact Nat.lt_of_lt_of_le c (Nat.pow_le_pow_right (by decide) (by omega))
theorem ks_unique (n k : Nat) (h : n < 18446744073709551616) (hk : 1 ≤ k) (h1 : 256 ^ (k - 1) ≤ n) (h2 : n < 256 ^ k) : ks n = k := by
  have h0 : n ≠ 0 := by
    have : 0 < 256 ^ (k - 1) := Nat.pow_pos (by decide)
    omega
  obtain ⟨a, _, b, c⟩ := ks_bounds n h0 h
  rcases Nat.lt_trichotomy (ks n) k with hlt | heq | hlt
  · have : 256 ^ ks n ≤ 256 ^ (k - 1) := Nat.pow_le_pow_right (by decide) (by omega)
    omega
  · exact heq
  · have : 256 ^ k ≤ 256 ^ (ks n - 1) := Nat.pow_le_pow_right (by decide) (by omega)
    omega
theorem ks_mono (n m : Nat) (h0 : n ≠ 0) (hm : m < 18446744073709551616) (h : n ≤ m) : ks n ≤ ks m := by
  obtain ⟨_, _, b, _⟩ := ks_bounds n h0 (by omega)
  obtain ⟨_, _, _, c⟩ := ks_bounds m (by omega) hm
  rcases Nat.lt_or_ge (ks m) (ks n) with hlt | hge
  · have : 256 ^ ks m ≤ 256 ^ (ks n - 1) := Nat.pow_le_pow_right (by decide) (by omega)
    omega
  · exact hge
/-- The lowest k bytes of a number, the highest one first. -/
def be (k n : Nat) : List Int := (List.range k).map fun i => ((n / 256 ^ (k - 1 - i) % 256 : Nat) : Int)
theorem be_length (k n : Nat) : (be k n).length = k := by simp [be]
theorem ith_be (k n i : Nat) (h : i < k) : ith (be k n) i = ((n / 256 ^ (k - 1 - i) % 256 : Nat) : Int) := by
  simp [ith, be, h]
theorem be_bytes (k n : Nat) : Bytes (be k n) := by
  intro i
  rcases Nat.lt_or_ge i k with h | h
  · rw [ith_be k n i h]; omega
  · rw [ith_over _ _ (by rw [be_length]; exact h)]; omega
theorem be_succ (k n : Nat) : be (k + 1) n = ((n / 256 ^ k % 256 : Nat) : Int) :: be k n := by
  apply ith_ext
  · simp [be_length]
  · intro i hi
    rw [be_length] at hi
    rw [ith_be _ _ _ hi]
    cases i with
    | zero => simp [ith]
    | succ i =>
      have : ith (((n / 256 ^ k % 256 : Nat) : Int) :: be k n) (i + 1) = ith (be k n) i := by simp [ith]
      have e : k + 1 - 1 - (i + 1) = k - 1 - i := by omega
      rw [this, ith_be _ _ _ (by omega), e]
/-- The number that the first k bytes of a list make. -/
def valN (l : List Int) : Nat → Nat
  | 0 => 0
  | k + 1 => valN l k * 256 + (ith l k).toNat
theorem valN_congr (a b : List Int) (k : Nat) (h : ∀ i, i < k → ith a i = ith b i) : valN a k = valN b k := by
  induction k with
  | zero => rfl
  | succ k ih => rw [valN, valN, ih (fun i hi => h i (by omega)), h k (by omega)]
theorem valN_lt (l : List Int) (hl : Bytes l) (k : Nat) : valN l k < 256 ^ k := by
  induction k with
  | zero => simp [valN]
  | succ k ih =>
    obtain ⟨h1, h2⟩ := hl k
    rw [valN, Nat.pow_succ]
    have : (ith l k).toNat < 256 := by omega
    generalize (ith l k).toNat = x at *
    generalize 256 ^ k = p at *
    omega
theorem valN_lt64 (l : List Int) (hl : Bytes l) (k : Nat) (hk : k ≤ 8) : valN l k < 18446744073709551616 :=
  Nat.lt_of_lt_of_le (valN_lt l hl k) (Nat.le_trans (Nat.pow_le_pow_right (by decide) hk) (by decide))
theorem valN_be (k n j : Nat) (hj : j ≤ k) (hn : n < 256 ^ k) : valN (be k n) j = n / 256 ^ (k - j) := by
  induction j with
  | zero => rw [valN, Nat.sub_zero, Nat.div_eq_of_lt hn]
  | succ j ih =>
    rw [valN, ih (by omega), ith_be _ _ _ (by omega)]
    have e1 : k - j = (k - (j + 1)) + 1 := by omega
    have e2 : k - 1 - j = k - (j + 1) := by omega
    rw [e1, e2, Nat.pow_succ, ← Nat.div_div_eq_div_mul]
    generalize n / 256 ^ (k - (j + 1)) = q
    omega
theorem valN_be_all (k n : Nat) (hn : n < 256 ^ k) : valN (be k n) k = n := by
  rw [valN_be k n k (Nat.le_refl _) hn]; simp
theorem valN_div (l : List Int) (hl : Bytes l) (k j : Nat) (hj : j ≤ k) : valN l k / 256 ^ (k - j) = valN l j := by
  induction k with
  | zero => have : j = 0 := by omega
            subst this; simp
  | succ k ih =>
    rcases Nat.lt_or_ge k j with h | h
    · have : j = k + 1 := by omega
      subst this; simp
    · have e1 : k + 1 - j = (k - j) + 1 := by omega
      have hb := hl k
      rw [e1, Nat.pow_succ, Nat.mul_comm, ← Nat.div_div_eq_div_mul, valN]
      have : (valN l k * 256 + (ith l k).toNat) / 256 = valN l k := by omega
      rw [this, ih h]
theorem be_valN (l : List Int) (hl : Bytes l) (k : Nat) (hk : l.length = k) : be k (valN l k) = l := by
  apply ith_ext
  · rw [be_length, hk]
  · intro i hi
    rw [be_length] at hi
    rw [ith_be _ _ _ hi]
    have e : k - 1 - i = k - (i + 1) := by omega
    rw [e, valN_div l hl k (i + 1) (by omega), valN]
    have hb := hl i
    omega
/-- The bytes of a number. -/
def numB (n : Nat) : List Int := if n ≤ 247 then [(n : Int)] else (247 + (ks n : Int)) :: be (ks n) n
def numL (n : Nat) : Nat := if n ≤ 247 then 1 else 1 + ks n
theorem numB_length (n : Nat) : (numB n).length = numL n := by
  unfold numB numL; split
  · rfl
  · simp [be_length]; omega
theorem numL_pos (n : Nat) : 1 ≤ numL n := by unfold numL; split <;> omega
theorem numL_le (n : Nat) (h : n < 18446744073709551616) : numL n ≤ 9 := by
  unfold numL; split
  · omega
  · have := ks_bounds n (by omega) h; omega
theorem numB_bytes (n : Nat) (h : n < 18446744073709551616) : Bytes (numB n) := by
  unfold numB; split
  · exact bytes_one _ (by omega)
  · have := ks_bounds n (by omega) h
    exact bytes_mk_cons (by omega) (be_bytes _ _)
/-- What is read at the beginning of some bytes: the number, and how many bytes it has. -/
def readF (l : List Int) : Option (Nat × Nat) :=
  if l.length = 0 then none else
  if ith l 0 ≤ 247 then some ((ith l 0).toNat, 1) else
  if l.length < (ith l 0).toNat - 247 + 1 then none else
  if 247 < valN (l.drop 1) ((ith l 0).toNat - 247) ∧ ks (valN (l.drop 1) ((ith l 0).toNat - 247)) = (ith l 0).toNat - 247 then some (valN (l.drop 1) ((ith l 0).toNat - 247), (ith l 0).toNat - 247 + 1) else none
theorem ith_cons_zero (x : Int) (l : List Int) : ith (x :: l) 0 = x := by simp [ith]
theorem readF_num (n : Nat) (h : n < 18446744073709551616) (b : List Int) : readF (numB n ++ b) = some (n, numL n) := by
  unfold readF
  by_cases hn : n ≤ 247
  · have e : numB n = [(n : Int)] := by simp [numB, hn]
    have e2 : numL n = 1 := by simp [numL, hn]
    rw [e, e2, List.singleton_append, ith_cons_zero]
    rw [if_neg (by simp), if_pos (by omega)]
    simp
  · obtain ⟨k1, k8, kl, kh⟩ := ks_bounds n (by omega) h
    have e : numB n = (247 + (ks n : Int)) :: be (ks n) n := by simp [numB, hn]
    have e2 : numL n = 1 + ks n := by simp [numL, hn]
    rw [e, e2, List.cons_append, ith_cons_zero]
    have ek : (247 + (ks n : Int)).toNat - 247 = ks n := by omega
    have ev : valN ((247 + (ks n : Int)) :: (be (ks n) n ++ b)).tail (ks n) = n := by
      rw [List.tail_cons, valN_congr _ (be (ks n) n) _ (fun i hi => ?_), valN_be_all _ _ kh]
      rw [ith_append, if_pos (by rw [be_length]; exact hi)]
    rw [ek, List.drop_one, ev]
    rw [if_neg (by simp), if_neg (by omega), if_neg (by simp [be_length]), if_pos ⟨by omega, rfl⟩, Nat.add_comm]
theorem take_one (l : List Int) (h : l.length ≠ 0) : l.take 1 = [ith l 0] := by
  cases l with
  | nil => simp at h
  | cons x l => simp [ith]
theorem readF_some {l : List Int} (hl : Bytes l) {n u : Nat} (h : readF l = some (n, u)) : n < 18446744073709551616 ∧ u = numL n ∧ u ≤ l.length ∧ l.take u = numB n := by
  unfold readF at h
  split at h
  · cases h
  rename_i h0
  have hb := hl 0
  split at h
  · rename_i h1
    obtain ⟨rfl, rfl⟩ := Prod.mk.injEq .. ▸ Option.some.inj h
    have hn : (ith l 0).toNat ≤ 247 := by omega
    refine ⟨by omega, by simp [numL, hn], by omega, ?_⟩
    rw [take_one l h0, numB, if_pos hn]
    congr 1; omega
  rename_i h1
  split at h
  · cases h
  rename_i h2
  split at h
  · rename_i h3
    obtain ⟨rfl, rfl⟩ := Prod.mk.injEq .. ▸ Option.some.inj h
    have hbd : Bytes (l.drop 1) := bytes_drop l 1 hl
    generalize hk : (ith l 0).toNat - 247 = k at *
    have hk8 : k ≤ 8 := by omega
    have hlt := valN_lt64 (l.drop 1) hbd k hk8
    have hv : be k (valN (l.drop 1) k) = (l.drop 1).take k := by
      rw [valN_congr (l.drop 1) ((l.drop 1).take k) k (fun i hi => (ith_take _ _ _ hi).symm)]
      refine be_valN _ (fun i => ?_) k (by simp; omega)
      rcases Nat.lt_or_ge i k with hi | hi
      · rw [ith_take _ _ _ hi]; exact hbd i
      · rw [ith_over _ _ (by simp; omega)]; omega
    refine ⟨hlt, ?_, by omega, ?_⟩
    · rw [numL, if_neg (by omega), h3.2]; omega
    · rw [numB, if_neg (by omega), h3.2, hv]
      cases l with
      | nil => simp at h0
      | cons x l =>
        rw [ith_cons_zero] at hk hb h1
        simp
        omega
  · cases h
theorem readF_iff {l : List Int} (hl : Bytes l) (n u : Nat) : readF l = some (n, u) ↔ n < 18446744073709551616 ∧ u = numL n ∧ l.take u = numB n := by
  refine ⟨fun h => ?_, fun ⟨h1, h2, h3⟩ => ?_⟩
  · obtain ⟨a, b, _, c⟩ := readF_some hl h
    exact ⟨a, b, c⟩
  · have := readF_num n h1 (l.drop u)
    rw [← h3, List.take_append_drop] at this
    rw [this, h2]
/-- No first part of the bytes of a number can be read. -/
theorem readF_cut (n : Nat) (h : n < 18446744073709551616) (j : Nat) (hj : j < numL n) : readF ((numB n).take j) = none := by
  cases hr : readF ((numB n).take j) with
  | none => rfl
  | some p =>
    obtain ⟨m, u⟩ := p
    have hb : Bytes ((numB n).take j) := by
      intro i
      rcases Nat.lt_or_ge i j with hi | hi
      · rw [ith_take _ _ _ hi]; exact numB_bytes n h i
      · rw [ith_over _ _ (by simp; omega)]; omega
    obtain ⟨a, b, c, d⟩ := readF_some hb hr
    have hlen : ((numB n).take j).length = j := by rw [List.length_take, numB_length]; omega
    rw [hlen] at c
    rw [List.take_take, Nat.min_eq_left c] at d
    have h1 := (readF_iff (numB_bytes n h) m u).2 ⟨a, b, d⟩
    have h2 := readF_num n h []
    rw [List.append_nil, h1] at h2
    obtain ⟨_, h3⟩ := Prod.mk.injEq .. ▸ Option.some.inj h2
    omega
/-- What the reference takes for the number before it looks whether its bytes are there. -/
def refN (l : List Int) : Nat := if ith l 0 ≤ 247 then (ith l 0).toNat else valN (l.drop 1) (min ((ith l 0).toNat - 247) (l.length - 1))
theorem refN_of_read {l : List Int} {n u : Nat} (h : readF l = some (n, u)) : refN l = n := by
  unfold readF at h
  split at h
  · cases h
  split at h
  · rename_i h1
    obtain ⟨rfl, rfl⟩ := Prod.mk.injEq .. ▸ Option.some.inj h
    simp [refN, h1]
  rename_i h1
  split at h
  · cases h
  rename_i h2
  split at h
  · obtain ⟨rfl, rfl⟩ := Prod.mk.injEq .. ▸ Option.some.inj h
    rw [refN, if_neg h1, Nat.min_eq_left (by omega)]
  · cases h
theorem refN_lt (l : List Int) (hl : Bytes l) : refN l < 18446744073709551616 := by
  have := hl 0
  unfold refN; split
  · omega
  · exact valN_lt64 _ (bytes_drop l 1 hl) _ (by omega)
/-- How the reference reads. -/
theorem readF_ref {l : List Int} (hl : Bytes l) : readF l = if l.take (numL (refN l)) = numB (refN l) then some (refN l, numL (refN l)) else none := by
  split
  · rename_i h
    exact (readF_iff hl _ _).2 ⟨refN_lt l hl, rfl, h⟩
  · rename_i h
    cases hr : readF l with
    | none => rfl
    | some p =>
      obtain ⟨n, u⟩ := p
      have hn := refN_of_read hr
      obtain ⟨_, b, _, c⟩ := readF_some hl hr
      rw [hn, ← b] at h
      exact absurd c h
/-- Bytewise order. -/
def befF : List Int → List Int → Bool
  | [], [] => false
  | [], _ :: _ => true
  | _ :: _, [] => false
  | a :: as, b :: bs => if a = b then befF as bs else decide (a < b)
theorem befF_be (k n m : Nat) (h : n % 256 ^ k < m % 256 ^ k) : befF (be k n) (be k m) = true := by
  induction k with
  | zero => simp [Nat.mod_one] at h
  | succ k ih =>
    rw [be_succ, be_succ, befF]
    have e : ∀ x, x % 256 ^ (k + 1) = x % 256 ^ k + 256 ^ k * (x / 256 ^ k % 256) := fun x => by rw [Nat.pow_succ, Nat.mod_mul]
    rw [e n, e m] at h
    split
    · rename_i hh
      have hh' : n / 256 ^ k % 256 = m / 256 ^ k % 256 := by omega
      rw [hh'] at h
      exact ih (by omega)
    · rename_i hh
      have hp : 0 < 256 ^ k := Nat.pow_pos (by decide)
      have h1 := Nat.mod_lt n hp
      have h2 := Nat.mod_lt m hp
      have hh' : n / 256 ^ k % 256 ≠ m / 256 ^ k % 256 := by omega
      have : n / 256 ^ k % 256 < m / 256 ^ k % 256 := by
        rcases Nat.lt_or_ge (n / 256 ^ k % 256) (m / 256 ^ k % 256) with h3 | h3
        · exact h3
        · have h4 : m / 256 ^ k % 256 + 1 ≤ n / 256 ^ k % 256 := by omega
          have h5 := Nat.mul_le_mul_left (256 ^ k) h4
          rw [Nat.mul_add, Nat.mul_one] at h5
          omega
      simp only [decide_eq_true_eq]
      omega
theorem befF_num (n m : Nat) (hm : m < 18446744073709551616) (h : n < m) : befF (numB n) (numB m) = true ∧ numL n ≤ numL m := by
  by_cases h1 : m ≤ 247
  · have h2 : n ≤ 247 := by omega
    simp [numB, numL, h1, h2, befF]
    omega
  · obtain ⟨m1, m8, ml, mh⟩ := ks_bounds m (by omega) hm
    by_cases h2 : n ≤ 247
    · refine ⟨?_, by simp [numL, h1, h2]⟩
      simp only [numB, h1, h2, if_true, if_false, befF]
      rw [if_neg (by omega)]
      simp only [decide_eq_true_eq]; omega
    · obtain ⟨n1, n8, nl, nh⟩ := ks_bounds n (by omega) (by omega)
      have hk := ks_mono n m (by omega) hm (by omega)
      refine ⟨?_, by simp [numL, h1, h2]; omega⟩
      simp only [numB, h1, h2, if_false, befF]
      by_cases h3 : ks n = ks m
      · rw [if_pos (by omega), h3]
        rw [h3] at nh
        exact befF_be _ _ _ (by rw [Nat.mod_eq_of_lt nh, Nat.mod_eq_of_lt mh]; exact h)
      · rw [if_neg (by omega)]
        simp only [decide_eq_true_eq]; omega
theorem numB_inj {n m : Nat} (hn : n < 18446744073709551616) (hm : m < 18446744073709551616) (h : numB n = numB m) : n = m := by
  have h1 := readF_num n hn []
  have h2 := readF_num m hm []
  rw [h, h2] at h1
  exact ((Prod.mk.injEq .. ▸ Option.some.inj h1).1).symm
/-- The fold of a number with a sign, and back. -/
def foldN (n : Int) : Nat := if n < 0 then (-2 * n - 1).toNat else (2 * n).toNat
def unfoldN (f : Nat) : Int := if f % 2 = 1 then -((f / 2 : Nat) : Int) - 1 else ((f / 2 : Nat) : Int)
theorem unfold_fold (n : Int) : unfoldN (foldN n) = n := by
  unfold unfoldN foldN; split <;> split <;> omega
theorem fold_lt (n : Int) (h : -9223372036854775808 ≤ n ∧ n ≤ 9223372036854775807) : foldN n < 18446744073709551616 := by
  unfold foldN; split <;> omega
theorem fold_unfold (f : Nat) : foldN (unfoldN f) = f := by
  unfold unfoldN foldN; split <;> split <;> omega
theorem unfold_in (f : Nat) (h : f < 18446744073709551616) : -9223372036854775808 ≤ unfoldN f ∧ unfoldN f ≤ 9223372036854775807 := by
  unfold unfoldN; split <;> omega
def rdN (l : List Int) : Nat := match readF l with | some p => p.1 | none => 0
def rdU (l : List Int) : Nat := match readF l with | some p => p.2 | none => 0
def rdE (l : List Int) : Int := match readF l with | some _ => 0 | none => 12
theorem rd_some {l : List Int} {n u : Nat} (h : readF l = some (n, u)) : rdN l = n ∧ rdU l = u ∧ rdE l = 0 := by simp [rdN, rdU, rdE, h]
theorem rd_none {l : List Int} (h : readF l = none) : rdN l = 0 ∧ rdU l = 0 ∧ rdE l = 12 := by simp [rdN, rdU, rdE, h]
theorem rdN_lt {l : List Int} (hl : Bytes l) : rdN l < 18446744073709551616 := by
  cases h : readF l with
  | none => rw [(rd_none h).1]; decide
  | some p => obtain ⟨n, u⟩ := p; rw [(rd_some h).1]; exact (readF_some hl h).1
theorem unfold_zero : unfoldN 0 = 0 := rfl
/-- The lowest bytes of a number, the lowest one first. -/
def le : Nat → Nat → List Int
  | 0, _ => []
  | k + 1, n => le k n ++ [((n / 256 ^ k % 256 : Nat) : Int)]
theorem le_length (k n : Nat) : (le k n).length = k := by
  induction k with
  | zero => rfl
  | succ k ih => simp [le, ih]
theorem ith_le (k n i : Nat) (h : i < k) : ith (le k n) i = ((n / 256 ^ i % 256 : Nat) : Int) := by
  induction k with
  | zero => omega
  | succ k ih =>
    rw [le, ith_append, le_length]
    split
    · rename_i h1; exact ih h1
    · rw [ith_single, if_pos (by omega)]
      have : i = k := by omega
      rw [this]
theorem take_succ_ith (l : List Int) (k : Nat) (h : k < l.length) : l.take (k + 1) = l.take k ++ [ith l k] := by
  rw [List.take_succ_eq_append_getElem h]; simp [ith, h]
theorem div_pos_iff (n j : Nat) (h0 : n ≠ 0) (h : n < 18446744073709551616) : 0 < n / 256 ^ j ↔ j < ks n := by
  obtain ⟨k1, k8, kl, kh⟩ := ks_bounds n h0 h
  have hp : 0 < 256 ^ j := Nat.pow_pos (by decide)
  constructor
  · intro h1
    rcases Nat.lt_or_ge j (ks n) with h2 | h2
    · exact h2
    · have h3 : 256 ^ ks n ≤ 256 ^ j := Nat.pow_le_pow_right (by decide) h2
      rw [Nat.div_eq_of_lt (by omega)] at h1
      omega
  · intro h1
    have h3 : 256 ^ j ≤ 256 ^ (ks n - 1) := Nat.pow_le_pow_right (by decide) (by omega)
    exact Nat.div_pos (by omega) hp
theorem div_step (n j : Nat) : n / 256 ^ j / 256 = n / 256 ^ (j + 1) := by rw [Nat.pow_succ, Nat.div_div_eq_div_mul]
end YtnknkiiikeefgaaGreatDoor
end Go

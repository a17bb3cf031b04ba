/- The maths of the reference's order: digits. -/
import Derived.Test.YtpklfohaifeboaaV14
namespace Go.Proofs.Ytpklfohaifeboaa
open Go.RowKit Go.Ytpklfohaifeboaa
set_option linter.unusedVariables false
/-- The binary digits of a number, the lowest first. -/
def bitsL (n : Nat) : List Int := if h : n = 0 then [] else ((n % 2 : Nat) : Int) :: bitsL (n / 2)
termination_by n
decreasing_by omega
def digF (n s : Nat) : List Int := if n = 0 then [] else List.replicate s 0 ++ bitsL n
def valD : List Int → Nat
  | [] => 0
  | x :: l => x.toNat + 2 * valD l
def Bin (l : List Int) : Prop := ∀ x ∈ l, x = 0 ∨ x = 1
def Norm (l : List Int) : Prop := l = [] ∨ 2 ^ (l.length - 1) ≤ valD l
theorem valD_lt : ∀ (l : List Int), Bin l → valD l < 2 ^ l.length
  | [], _ => by decide
  | x :: l, h => by
    have h1 := valD_lt l (fun y hy => h y (List.mem_cons_of_mem _ hy))
    have h2 := h x (List.mem_cons_self ..)
    rw [valD, List.length_cons, Nat.pow_succ]
    omega
theorem bitsL_zero : bitsL 0 = [] := by unfold bitsL; rfl
theorem bitsL_pos {n : Nat} (h : n ≠ 0) : bitsL n = ((n % 2 : Nat) : Int) :: bitsL (n / 2) := by rw [bitsL, dif_neg h]
theorem bitsL_bin : ∀ (n : Nat), Bin (bitsL n) := fun n => by
  induction n using Nat.strongRecOn with
  | _ n ih =>
    by_cases h : n = 0
    · subst h; rw [bitsL_zero]; intro x hx; cases hx
    · rw [bitsL_pos h]
      intro x hx
      rcases List.mem_cons.1 hx with rfl | hx
      · omega
      · exact ih (n / 2) (by omega) x hx
theorem bitsL_val : ∀ (n : Nat), valD (bitsL n) = n := fun n => by
  induction n using Nat.strongRecOn with
  | _ n ih =>
    by_cases h : n = 0
    · subst h; rw [bitsL_zero]; rfl
    · rw [bitsL_pos h, valD, ih (n / 2) (by omega)]; omega
theorem bitsL_top : ∀ (n : Nat), n ≠ 0 → 2 ^ ((bitsL n).length - 1) ≤ n ∧ bitsL n ≠ [] := fun n => by
  induction n using Nat.strongRecOn with
  | _ n ih =>
    intro h
    rw [bitsL_pos h]
    refine ⟨?_, by simp⟩
    by_cases h2 : n / 2 = 0
    · rw [h2, bitsL_zero]; simp; omega
    · obtain ⟨g1, g2⟩ := ih (n / 2) (by omega) h2
      have : (bitsL (n / 2)).length ≠ 0 := fun h0 => g2 (List.eq_nil_of_length_eq_zero h0)
      rw [List.length_cons, show (bitsL (n / 2)).length + 1 - 1 = ((bitsL (n / 2)).length - 1) + 1 by omega, Nat.pow_succ]
      omega
theorem valD_zeros (l : List Int) : ∀ (s : Nat), valD (List.replicate s 0 ++ l) = valD l * 2 ^ s
  | 0 => by simp
  | s + 1 => by
    rw [List.replicate_succ, List.cons_append, valD, valD_zeros l s, Nat.pow_succ]
    generalize 2 ^ s = p
    rw [show valD l * (p * 2) = valD l * p * 2 from (Nat.mul_assoc _ _ _).symm]
    generalize valD l * p = q
    simp; omega
theorem digF_val (n s : Nat) : valD (digF n s) = n * 2 ^ s := by
  unfold digF
  split
  · rename_i h; rw [h]; simp [valD]
  · rw [valD_zeros, bitsL_val]
theorem digF_bin (n s : Nat) : Bin (digF n s) := by
  unfold digF
  split
  · intro x hx; cases hx
  · intro x hx
    rcases List.mem_append.1 hx with h | h
    · exact .inl (List.eq_of_mem_replicate h)
    · exact bitsL_bin n x h
theorem digF_norm (n s : Nat) : Norm (digF n s) := by
  by_cases h : n = 0
  · left; unfold digF; rw [if_pos h]
  · right
    rw [digF_val]
    obtain ⟨g1, g2⟩ := bitsL_top n h
    have : (bitsL n).length ≠ 0 := fun h0 => g2 (List.eq_nil_of_length_eq_zero h0)
    unfold digF
    rw [if_neg h, List.length_append, List.length_replicate, show s + (bitsL n).length - 1 = ((bitsL n).length - 1) + s by omega, Nat.pow_add]
    exact Nat.mul_le_mul_right _ g1
/-- Comparing digits of the same number of places, from the top. -/
def lsE : List Int → List Int → Int
  | x :: a, y :: b => if lsE a b = 0 then cmpI x y else lsE a b
  | _, _ => 0
def lsF (a b : List Int) : Int := if a.length = b.length then lsE a b else if a.length < b.length then -1 else 1
theorem lsE_val : ∀ (a b : List Int), Bin a → Bin b → a.length = b.length → lsE a b = cmpI (valD a) (valD b)
  | [], [], _, _, _ => by rw [cmpI_same rfl]; rfl
  | x :: a, y :: b, ha, hb, h => by
    have ih := lsE_val a b (fun z hz => ha z (List.mem_cons_of_mem _ hz)) (fun z hz => hb z (List.mem_cons_of_mem _ hz)) (by simpa using h)
    have hx := ha x (List.mem_cons_self ..)
    have hy := hb y (List.mem_cons_self ..)
    rw [lsE, ih, valD, valD]
    rcases Nat.lt_trichotomy (valD a) (valD b) with g | g | g
    · rw [cmpI_lt (show (valD a : Int) < valD b by omega), if_neg (by decide), cmpI_lt (by omega)]
    · rw [cmpI_same (show (valD a : Int) = valD b by omega), if_pos rfl]
      rcases Int.lt_trichotomy x y with f | f | f
      · rw [cmpI_lt f, cmpI_lt (by omega)]
      · rw [cmpI_same f, cmpI_same (by omega)]
      · rw [cmpI_gt f, cmpI_gt (by omega)]
    · rw [cmpI_gt (show (valD b : Int) < valD a by omega), if_neg (by decide), cmpI_gt (by omega)]
theorem lsF_val (a b : List Int) (ha : Bin a) (hb : Bin b) (na : Norm a) (nb : Norm b) : lsF a b = cmpI (valD a) (valD b) := by
  unfold lsF
  have la := valD_lt a ha
  have lb := valD_lt b hb
  have short : ∀ {p q : List Int}, valD p < 2 ^ p.length → Norm q → p.length < q.length → valD p < valD q := by
    intro p q hp hq h
    rcases hq with rfl | hq
    · simp at h
    · have := Nat.pow_le_pow_right (show 0 < 2 by decide) (show p.length ≤ q.length - 1 by omega)
      omega
  by_cases h : a.length = b.length
  · rw [if_pos h]; exact lsE_val a b ha hb h
  · rw [if_neg h]
    by_cases h2 : a.length < b.length
    · have := short la nb h2
      rw [if_pos h2, cmpI_lt (by omega)]
    · have := short lb na (by omega)
      rw [if_neg h2, cmpI_gt (by omega)]
theorem lsF_dig (n s m t : Nat) : lsF (digF n s) (digF m t) = cmpI ((n * 2 ^ s : Nat) : Int) ((m * 2 ^ t : Nat) : Int) := by
  rw [lsF_val _ _ (digF_bin n s) (digF_bin m t) (digF_norm n s) (digF_norm m t), digF_val, digF_val]
end Go.Proofs.Ytpklfohaifeboaa

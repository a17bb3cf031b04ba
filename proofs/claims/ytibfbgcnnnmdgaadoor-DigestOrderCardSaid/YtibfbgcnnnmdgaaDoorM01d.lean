/- The order of lists of bytes is a total order, from the first byte on. -/
import Derived.Test.YtibfbgcnnnmdgaaDoorLibD
namespace Go.Proofs.YtibfbgcnnnmdgaaDoor
open Go.RowKit Go.YtibfbgcnnnmdgaaDoor
set_option linter.unusedVariables false
theorem cmp_range : ∀ a b : List Int, cmpF a b = -1 ∨ cmpF a b = 0 ∨ cmpF a b = 1
  | [], [] => .inr (.inl rfl)
  | [], _ :: _ => .inl rfl
  | _ :: _, [] => .inr (.inr rfl)
  | a :: as, b :: bs => by
    unfold cmpF
    split
    · exact .inl rfl
    · split
      · exact .inr (.inr rfl)
      · exact cmp_range as bs
theorem cmp_anti : ∀ a b : List Int, cmpF b a = - cmpF a b
  | [], [] => rfl
  | [], _ :: _ => rfl
  | _ :: _, [] => rfl
  | a :: as, b :: bs => by
    have h := cmp_anti as bs
    unfold cmpF
    by_cases h1 : a < b
    · rw [if_neg (by omega), if_pos h1, if_pos h1]; rfl
    · by_cases h2 : b < a
      · rw [if_pos h2, if_neg h1, if_pos h2]
      · rw [if_neg h2, if_neg h1, if_neg h1, if_neg h2, h]
theorem cmp_self : ∀ a : List Int, cmpF a a = 0
  | [] => rfl
  | a :: as => by
    unfold cmpF
    rw [if_neg (by omega), if_neg (by omega)]; exact cmp_self as
theorem cmp_zero : ∀ a b : List Int, cmpF a b = 0 → a = b
  | [], [], _ => rfl
  | [], _ :: _, h => by simp [cmpF] at h
  | _ :: _, [], h => by simp [cmpF] at h
  | a :: as, b :: bs, h => by
    unfold cmpF at h
    by_cases h1 : a < b
    · rw [if_pos h1] at h; omega
    · by_cases h2 : b < a
      · rw [if_neg h1, if_pos h2] at h; omega
      · rw [if_neg h1, if_neg h2] at h
        rw [cmp_zero as bs h, show a = b by omega]
theorem cmp_trans : ∀ a b c : List Int, cmpF a b ≤ 0 → cmpF b c ≤ 0 → cmpF a c ≤ 0
  | [], _, [], _, _ => by simp [cmpF]
  | [], _, _ :: _, _, _ => by simp [cmpF]
  | _ :: _, [], _, h, _ => by simp [cmpF] at h
  | _ :: _, _ :: _, [], _, h => by simp [cmpF] at h
  | a :: as, b :: bs, c :: cs, h, g => by
    unfold cmpF at h g ⊢
    by_cases h1 : a < b
    · by_cases g1 : b < c
      · rw [if_pos (by omega)]; omega
      · by_cases g2 : c < b
        · rw [if_neg g1, if_pos g2] at g; omega
        · rw [if_pos (by omega)]; omega
    · by_cases h2 : b < a
      · rw [if_neg h1, if_pos h2] at h; omega
      · rw [if_neg h1, if_neg h2] at h
        by_cases g1 : b < c
        · rw [if_pos (by omega)]; omega
        · by_cases g2 : c < b
          · rw [if_neg g1, if_pos g2] at g; omega
          · rw [if_neg g1, if_neg g2] at g
            rw [if_neg (by omega), if_neg (by omega)]
            exact cmp_trans as bs cs h g
theorem cmp_less : ∀ (k : Nat) (a b : List Int), k < a.length → k < b.length → (∀ j, j < k → ith b j = ith a j) → ith a k < ith b k → cmpF a b = -1
  | _, [], _, h, _, _, _ => by simp at h
  | _, _ :: _, [], _, h, _, _ => by simp at h
  | 0, a :: as, b :: bs, _, _, _, h => by
    unfold cmpF
    rw [if_pos (by simpa [ith] using h)]
  | k + 1, a :: as, b :: bs, h1, h2, h3, h4 => by
    have e : b = a := by simpa [ith] using h3 0 (by omega)
    unfold cmpF
    rw [if_neg (by omega), if_neg (by omega)]
    exact cmp_less k as bs (by simpa using h1) (by simpa using h2) (fun j hj => by simpa [ith] using h3 (j + 1) (by omega)) (by simpa [ith] using h4)
end Go.Proofs.YtibfbgcnnnmdgaaDoor

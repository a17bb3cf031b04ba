/- Contracts of the reference of layer 4: strings that are read. Contracts of the reference of layer 4: lists of ids that are read. -/
import Derived.Test.YtnknkiiikeefgaaGreatDoorI01
namespace Go.Proofs.YtnknkiiikeefgaaGreatDoor.wir
open Go.RowKit Go.YtnknkiiikeefgaaGreatDoor
set_option linter.unusedVariables false
theorem readC_none1 {l : List Int} {M : Nat} {size n u : Nat} (hre : readF l = some (n, u)) (h : readC l (M : Int) size = none) : ¬ ((n : Int) ≤ (M : Int) ∧ n ≤ (l.length - u) / size) := by
  intro hc
  unfold readC at h
  rw [hre] at h
  simp only [hc, and_self, if_true] at h
  cases h
end Go.Proofs.YtnknkiiikeefgaaGreatDoor.wir
namespace Go.Proofs.YtnknkiiikeefgaaGreatDoor.wir
open Go.RowKit Go.YtnknkiiikeefgaaGreatDoor
set_option linter.unusedVariables false
theorem fold_list (l : List Value) (k : Nat) (z : Array Value) (h : k + l.length ≤ z.size) (i : Nat) : ((l.zipIdx k).foldl (fun cs x => cs.setIfInBounds x.snd x.fst) z)[i]? = if k ≤ i ∧ i < k + l.length then l[i - k]? else z[i]? := by
  induction l generalizing k z with
  | nil => simp; intro h1 h2; omega
  | cons v l ih =>
    rw [List.zipIdx_cons, List.foldl_cons, ih (k + 1) _ (by simp at h ⊢; omega)]
    simp only [List.length_cons] at h ⊢
    by_cases h1 : i = k
    · subst h1
      rw [if_neg (by omega), if_pos (by omega), Nat.sub_self]
      rw [Array.getElem?_setIfInBounds_self_of_lt (by omega)]; simp
    · by_cases h2 : k + 1 ≤ i ∧ i < k + 1 + l.length
      · rw [if_pos h2, if_pos (by omega), show i - k = (i - (k + 1)) + 1 by omega]
        simp
      · rw [if_neg h2, if_neg (by omega)]
        simp [Array.getElem?_setIfInBounds, Ne.symm h1]
theorem fold_arr (a z : Array Value) (h : a.size = z.size) : (a.zipIdx).foldl (fun cs x => cs.setIfInBounds x.snd x.fst) z = a := by
  apply Array.ext_getElem?
  intro i
  rw [← Array.foldl_toList, Array.toList_zipIdx, fold_list _ _ _ (by simp; omega)]
  by_cases hi : i < a.size
  · rw [if_pos (by simp; omega)]; simp
  · rw [if_neg (by simp; omega), Array.getElem?_eq_none (by omega), Array.getElem?_eq_none (by omega)]
/-- The first bytes of an id, and zeros. -/
def xP (A : List Int) (j : Nat) : List Int := A.take j ++ zerosB (32 - j)
theorem xP_length (A : List Int) (j : Nat) (hA : A.length = 32) (hj : j ≤ 32) : (xP A j).length = 32 := by
  rw [xP, List.length_append, List.length_take, zerosB_length]; omega
theorem xP_set (A : List Int) (j : Nat) (hA : A.length = 32) (hj : j < 32) : (xP A j).set j (ith A j) = xP A (j + 1) := by
  have hl : (A.take j).length = j := by rw [List.length_take]; omega
  obtain ⟨d, hd⟩ : ∃ d, 32 - j = d + 1 := ⟨32 - j - 1, by omega⟩
  have hd2 : 32 - (j + 1) = d := by omega
  unfold xP
  rw [hd, hd2, List.set_append_right _ _ (by rw [hl]; exact Nat.le_refl _), hl, Nat.sub_self, take_succ_ith A j (by omega)]
  simp [zerosB, List.replicate_succ]
theorem xP_all (A : List Int) (hA : A.length = 32) : xP A 32 = A := by
  unfold xP
  rw [List.take_of_length_le (by omega)]
  simp [zerosB]
def rreadIDsPost (w : World) (F : List Int) (n used : Nat) (e : Ending) (w' : World) : Prop :=
  Below w.heap.size w w' ∧ if riseF F n = true then ∃ v, e = .returned (.tuple #[v, .int .i64 (used : Nat), .int .i64 0]) ∧ OwnI w.heap.size 24 w' v n F else e = .returned (.tuple #[.slice none 0 0, .int .i64 0, .int .i64 12])
end Go.Proofs.YtnknkiiikeefgaaGreatDoor.wir

/- Contract of digest.ending: the last bytes of a mill. -/
import Derived.Test.YtegffpjhdodldaaD01c
import Derived.Test.YtegffpjhdodldaaLibB
namespace Go.Proofs.Ytegffpjhdodldaa
open Go.RowKit Go.Ytegffpjhdodldaa
set_option linter.unusedVariables false
theorem put4_at (L S : List Int) (a b c d x : Int) : put4 (L ++ a :: b :: c :: d :: S) L.length x = L ++ (be4 x ++ S) := by
  unfold put4 be4
  rw [List.set_append_right _ _ (Nat.le_refl _), List.set_append_right _ _ (by omega), List.set_append_right _ _ (by omega), List.set_append_right _ _ (by omega)]
  simp
theorem put4_append (L : List Int) (a b c d x : Int) : put4 (L ++ [a, b, c, d]) L.length x = L ++ be4 x := by
  rw [put4_at]; simp
theorem overlay_ending (r : List Int) (sz : Nat) (N : Nat) (h : r.length + 5 ≤ sz) (hsz : endSize r.length = sz) :
    put4 ((overlay (zerosB sz) 0 r).set r.length 128) (sz - 4) (8 * (N : Int)) = endingF r N := by
  have e1 : (overlay (zerosB sz) 0 r).set r.length 128 = (r ++ [128] ++ List.replicate (sz - 4 - (r.length + 1)) 0) ++ [0, 0, 0, 0] := by
    have e2 : List.replicate (sz - r.length) (0 : Int) = 0 :: (List.replicate (sz - 4 - (r.length + 1)) 0 ++ [0, 0, 0, 0]) := by
      have : sz - r.length = (sz - 4 - (r.length + 1)) + 4 + 1 := by omega
      rw [this, List.replicate_succ]
      congr 1
      rw [← List.replicate_append_replicate]
      rfl
    have e3 : overlay (zerosB sz) 0 r = r ++ List.replicate (sz - r.length) 0 := by simp [overlay, zerosB]
    rw [e3, List.set_append_right _ _ (Nat.le_refl _), Nat.sub_self, e2, List.set_cons_zero]
    simp
  have e4 : (r ++ [128] ++ List.replicate (sz - 4 - (r.length + 1)) (0 : Int)).length = sz - 4 := by simp; omega
  have e5 := put4_append (r ++ [128] ++ List.replicate (sz - 4 - (r.length + 1)) (0 : Int)) 0 0 0 0 (8 * (N : Int))
  rw [e4] at e5
  rw [e1, e5]
  unfold endingF
  rw [hsz]
theorem rd_row {w : World} {g : Nat} {cs : List Int} {E : TypeId} (hg : w.heap[g]? = some (.cells (u8s cs) E (0, 0))) (n c : Nat) (hn : cs.length = n) (hc : n ≤ c) (hm : c ≤ maxLen) :
    RdB w (.slice (some ⟨g, 0, none⟩) n c) cs :=
  .inr ⟨g, 0, c, by rw [hn], by omega, hm, (Array.getElem?_eq_some_iff.1 hg).1, fun i hi => by rw [Nat.zero_add, cell_of_row _ _ _ _ _ _ hg]; exact u8s_get _ _ hi⟩
end Go.Proofs.Ytegffpjhdodldaa

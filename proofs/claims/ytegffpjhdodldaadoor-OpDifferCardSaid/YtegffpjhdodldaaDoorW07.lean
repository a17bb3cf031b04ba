/- Contracts of package wire: strings that are read. -/
import Derived.Test.YtegffpjhdodldaaDoorW04
namespace Go.Proofs.YtegffpjhdodldaaDoor.wir
open Go.RowKit Go.YtegffpjhdodldaaDoor
set_option linter.unusedVariables false
/-- What is read of a counted row: how many items, and how many bytes their number has. -/
def readC (l : List Int) (most : Int) (size : Nat) : Option (Nat × Nat) :=
  match readF l with
  | none => none
  | some p => if (p.1 : Int) ≤ most ∧ p.1 ≤ (l.length - p.2) / size then some p else none
theorem readC_some {l : List Int} {most : Int} {size n u : Nat} (h : readC l most size = some (n, u)) : readF l = some (n, u) ∧ (n : Int) ≤ most ∧ n ≤ (l.length - u) / size := by
  unfold readC at h
  split at h
  · cases h
  · split at h
    · rename_i h1 h2
      cases h
      exact ⟨h1, h2.1, h2.2⟩
    · cases h
theorem rdB_sub {w : World} {b o n c : Nat} {l : List Int} (h : RdB w (.slice (some ⟨b, o, none⟩) n c) l) (u k cap : Nat) (hk : u + k ≤ n) (hcap : k ≤ cap) (hc : cap ≤ c) : RdB w (.slice (some ⟨b, o + u, none⟩) k cap) ((l.drop u).take k) := by
  rcases h with ⟨a', c', e, h1, rfl⟩ | ⟨b', o', c', e, h1, h2, h3, h4⟩
  · cases e
    obtain rfl : k = 0 := by omega
    exact .inl ⟨_, _, rfl, (fun h => by cases h), by simp⟩
  · cases e
    have hl : ((l.drop u).take k).length = k := by rw [List.length_take, List.length_drop]; omega
    exact .inr ⟨b, o + u, cap, by rw [hl], by rw [hl]; exact hcap, Nat.le_trans hc h2, h3, fun i hi => by
      rw [hl] at hi
      rw [ith_take _ _ _ hi, ith_drop, Nat.add_assoc]; exact h4 (u + i) (by omega)⟩
theorem overlay_all (r : List Int) : overlay (zerosB r.length) 0 r = r := by
  have h := overlay_zero r 0
  simpa [zerosB] using h
end Go.Proofs.YtegffpjhdodldaaDoor.wir

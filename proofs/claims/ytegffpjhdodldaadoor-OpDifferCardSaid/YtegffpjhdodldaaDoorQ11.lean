/- Layer 6: messages: contract of the reference. Layer 6: bytes: contracts of the reference. -/
import Derived.Test.YtegffpjhdodldaaDoorQ08
import Derived.Test.YtegffpjhdodldaaDoorQ04
import Derived.Test.YtegffpjhdodldaaDoorI03
import Derived.Test.YtegffpjhdodldaaDoorV22
import Derived.Test.YtegffpjhdodldaaDoorQ10
namespace Go.Proofs.YtegffpjhdodldaaDoor.wir.val
open Go.RowKit Go.YtegffpjhdodldaaDoor
set_option linter.unusedVariables false
theorem valid_le {v : Va} (h : v.ok = true) : v.s.size ≤ 30 := by
  unfold Va.ok validV at h
  split at h
  · simp only [Bool.and_eq_true, decide_eq_true_eq] at h; omega
  · split at h
    · simp only [Bool.and_eq_true, decide_eq_true_eq] at h; omega
    · split at h
      · simp only [Bool.and_eq_true, decide_eq_true_eq] at h; omega
      · cases h
theorem own_grown {B B2 : Nat} {E : TypeId} {w w' : World} {v : Value} {l : List Int} {row : Option Nat} (h : OwnB B2 E w v l) (hg : w.grownBy w' row) (hne : ∀ k, row = some k → k < B2) : OwnB B2 E w' v l := by
  refine ⟨h.1, ?_⟩
  rcases h.2 with hn | ⟨k, cap, cur, rfl, hb, hk, rest⟩
  · exact .inl hn
  · exact .inr ⟨k, cap, cur, rfl, hb, (hg.block k (Array.getElem?_eq_some_iff.1 hk).1 (fun e => by have := hne k e.symm; omega)).trans hk, rest⟩
end Go.Proofs.YtegffpjhdodldaaDoor.wir.val
namespace Go.Proofs.YtegffpjhdodldaaDoor.wir.val
open Go.RowKit Go.YtegffpjhdodldaaDoor
set_option linter.unusedVariables false
theorem disj {B1 : Nat} {E1 E2 : TypeId} {w1 w2 : World} {v1 v2 : Value} {l1 l2 : List Int} (h1 : OwnB B1 E1 w1 v1 l1) (h2 : OwnB w1.heap.size E2 w2 v2 l2) : ∀ k, v1.ownBlock = some k → v2.ownBlock ≠ some k := fun k hk hk2 => by
  have a := (World.ownsRow.lt h1 k hk).2
  have b := (World.ownsRow.lt h2 k hk2).1
  omega
theorem own_apart {B : Nat} {E : TypeId} {w w' : World} {v : Value} {l : List Int} {row : Option Nat} (h : OwnB B E w v l) (hg : w.grownBy w' row) (hne : ∀ k, row = some k → v.ownBlock ≠ some k) : OwnB B E w' v l := by
  refine ⟨h.1, ?_⟩
  rcases h.2 with hn | ⟨k, cap, cur, rfl, hb, hk, rest⟩
  · exact .inl hn
  · exact .inr ⟨k, cap, cur, rfl, hb, (hg.block k (Array.getElem?_eq_some_iff.1 hk).1 (fun e => hne k e.symm rfl)).trans hk, rest⟩
end Go.Proofs.YtegffpjhdodldaaDoor.wir.val

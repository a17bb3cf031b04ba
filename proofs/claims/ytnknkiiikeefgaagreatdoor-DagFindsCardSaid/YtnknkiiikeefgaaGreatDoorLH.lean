/- Values that read as something in every world that has kept the blocks from some number on. -/
import Derived.Test.YtnknkiiikeefgaaGreatDoorL01
namespace Go
namespace YtnknkiiikeefgaaGreatDoor
open RowKit
/-- The value reads as these bytes in every world that has kept the blocks from 'base' on. -/
def HeldB (base : Nat) (w : World) (v : Value) (l : List Int) : Prop := ∀ wx : World, (∀ k, base ≤ k → k < w.heap.size → wx.heap[k]? = w.heap[k]?) → w.heap.size ≤ wx.heap.size → RdB wx v l
def HeldI (base : Nat) (w : World) (v : Value) (n : Nat) (F : List Int) : Prop := ∀ wx : World, (∀ k, base ≤ k → k < w.heap.size → wx.heap[k]? = w.heap[k]?) → w.heap.size ≤ wx.heap.size → RdI wx v n F
theorem heldB_own {base : Nat} {E : TypeId} {w : World} {v : Value} {l : List Int} (h : OwnB base E w v l) : HeldB base w v l := fun wx h1 h2 => by
  refine OwnB.rd (base := base) (E := E) ⟨h.1, ?_⟩
  rcases h.2 with hn | ⟨g, cap, cur, rfl, hb, hg, rest⟩
  · exact .inl hn
  · exact .inr ⟨g, cap, cur, rfl, hb, (h1 g hb (Array.getElem?_eq_some_iff.1 hg).1).trans hg, rest⟩
theorem heldI_own {base : Nat} {E : TypeId} {w : World} {v : Value} {n : Nat} {F : List Int} (h : OwnI base E w v n F) : HeldI base w v n F := fun wx h1 h2 => by
  refine OwnI.rd (base := base) (E := E) ⟨h.1, ?_⟩
  rcases h.2 with hn | ⟨g, cap, cur, rfl, hb, hg, rest⟩
  · exact .inl hn
  · exact .inr ⟨g, cap, cur, rfl, hb, (h1 g hb (Array.getElem?_eq_some_iff.1 hg).1).trans hg, rest⟩
theorem heldB_nil (base : Nat) (w : World) : HeldB base w (.slice none 0 0) [] := fun _ _ _ => .inl ⟨none, 0, rfl, fun _ => rfl, rfl⟩
theorem heldI_nil (base : Nat) (w : World) : HeldI base w (.slice none 0 0) 0 [] := fun _ _ _ => .inl ⟨none, 0, rfl, fun _ => rfl, rfl, rfl⟩
theorem heldB_mono {base : Nat} {w w' : World} {v : Value} {l : List Int} (h : HeldB base w v l) (hb : Below w.heap.size w w') : HeldB base w' v l := fun wx h1 h2 =>
  h wx (fun k k1 k2 => (h1 k k1 (Nat.lt_of_lt_of_le k2 hb.size)).trans (hb.block k k2)) (Nat.le_trans hb.size h2)
theorem heldI_mono {base : Nat} {w w' : World} {v : Value} {n : Nat} {F : List Int} (h : HeldI base w v n F) (hb : Below w.heap.size w w') : HeldI base w' v n F := fun wx h1 h2 =>
  h wx (fun k k1 k2 => (h1 k k1 (Nat.lt_of_lt_of_le k2 hb.size)).trans (hb.block k k2)) (Nat.le_trans hb.size h2)
theorem heldB_lower {base B : Nat} {w : World} {v : Value} {l : List Int} (h : HeldB B w v l) (hb : base ≤ B) : HeldB base w v l := fun wx h1 h2 => h wx (fun k k1 k2 => h1 k (Nat.le_trans hb k1) k2) h2
theorem heldI_lower {base B : Nat} {w : World} {v : Value} {n : Nat} {F : List Int} (h : HeldI B w v n F) (hb : base ≤ B) : HeldI base w v n F := fun wx h1 h2 => h wx (fun k k1 k2 => h1 k (Nat.le_trans hb k1) k2) h2
theorem draws_trans {a b c : World} (h1 : Draws a b) (h2 : Draws b c) : Draws a c := by
  obtain ⟨n, rfl⟩ := h1
  obtain ⟨m, rfl⟩ := h2
  exact ⟨n + m, by rw [World.drewN_drewN]⟩
end YtnknkiiikeefgaaGreatDoor
end Go
namespace Go.Proofs.YtnknkiiikeefgaaGreatDoor.wir
open Go.RowKit Go.YtnknkiiikeefgaaGreatDoor
set_option linter.unusedVariables false
theorem heldB_row {w : World} {g : Nat} {cs : List Int} {E : TypeId} (hg : w.heap[g]? = some (.cells (u8s cs) E (0, 0))) (n : Nat) (hn : cs.length = n) (hm : n ≤ maxLen) {B : Nat} (hB : B ≤ g) : HeldB B w (.slice (some ⟨g, 0, none⟩) n n) cs := heldB_own (ownB_row hg n hn hm hB)
theorem heldI_row {w : World} {g : Nat} {F : List Int} {E : TypeId} (hg : w.heap[g]? = some (.cells (u8s F) E (0, 0))) (n : Nat) (hF : F.length = 32 * n) (hn : n ≤ 1000000) {B : Nat} (hB : B ≤ g) : HeldI B w (.slice (some ⟨g, 0, none⟩) n n) n F := fun wx h1 h2 =>
  rdI_row ((h1 g hB (Array.getElem?_eq_some_iff.1 hg).1).trans hg) n hF hn
end Go.Proofs.YtnknkiiikeefgaaGreatDoor.wir

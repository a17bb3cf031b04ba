/- Contract of the reference's Ground. -/
import Derived.Test.YtegffpjhdodldaaDoorD01t
import Derived.Test.YtegffpjhdodldaaDoorLibE
import Derived.Test.YtegffpjhdodldaaDoorLibB
import Derived.Test.YtegffpjhdodldaaDoorD01n
import Derived.Deep.RegionHeld3
import Derived.Deep.DeepCutAuto
namespace Go.Proofs.YtegffpjhdodldaaDoor
open Go.RowKit Go.YtegffpjhdodldaaDoor
set_option linter.unusedVariables false
theorem rdW_new (w : World) (g : Nat) (x : Int) (T : TypeId) (h : w.heap[g]? = some (.cells #[.int .u32 x] T (0, 0))) : RdW w (.slice (some ⟨g, 0, none⟩) 1 1) [x] := .inr ⟨g, 0, 1, rfl, Nat.le_refl _, by decide, (Array.getElem?_eq_some_iff.1 h).1, fun i hi => by
  have hi0 : i = 0 := by simpa using hi
  subst hi0
  rw [Nat.zero_add, cell_of_row _ _ _ _ _ _ h]; rfl⟩
theorem below_lit (w : World) (o : Obj) : Below w.heap.size w (w.alloc o).drew := ((Draws.refl _).drewN 1).below ((Below.refl _ _).alloc (Nat.le_refl _) o)
theorem below_push (w w' : World) (o : Obj) (h1 : w'.os = w.os) (h2 : w'.tape = w.tape) (h3 : w'.output = w.output) (h4 : w'.heap = w.heap.push o) : Below w.heap.size w w' :=
  have h := (Below.refl w.heap.size w).alloc (Nat.le_refl _) o
  have e : (w.alloc o).heap = w'.heap := by rw [h4]; rfl
  ⟨h1.trans rfl, h2.trans rfl, h3.trans rfl, by rw [← e]; exact h.size, fun k hk => by rw [← e]; exact h.block k hk⟩
theorem push_new (w w' : World) (o : Obj) (h4 : w'.heap = w.heap.push o) : w'.heap[w.heap.size]? = some o := by rw [h4]; simp
def nextV (a0 a9 a1 a14 : Int) : Int := (((a0 + a9) % 4294967296 + sig0 a1) % 4294967296 + sig1 a14) % 4294967296
theorem nextW_at (x : List Int) (k : Nat) (h : x.length = k + 16) : nextW x = nextV (ith x k) (ith x (k + 9)) (ith x (k + 1)) (ith x (k + 14)) := by
  have e : nextV (ith x k) (ith x (k + 9)) (ith x (k + 1)) (ith x (k + 14)) = (ith x k + ith x (k + 9) + sig0 (ith x (k + 1)) + sig1 (ith x (k + 14))) % 4294967296 := by unfold nextV; omega
  rw [e]; unfold nextW
  rw [h, show k + 16 - 16 = k by omega, show k + 16 - 7 = k + 9 by omega, show k + 16 - 15 = k + 1 by omega, show k + 16 - 2 = k + 14 by omega]
end Go.Proofs.YtegffpjhdodldaaDoor

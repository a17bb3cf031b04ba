/- ValueOrder's walk. -/
import Derived.Test.YtnknkiiikeefgaaGreatDoorV09
import Derived.Test.YtnknkiiikeefgaaGreatDoorV04
namespace Go.Proofs.YtnknkiiikeefgaaGreatDoor.wir.val
open Go.RowKit Go.YtnknkiiikeefgaaGreatDoor
set_option linter.unusedVariables false
theorem boxes3 (w : World) (o1 o2 o3 : Obj) : (((w.alloc o1).alloc o2).alloc o3).heap[w.heap.size]? = some o1 ∧ (((w.alloc o1).alloc o2).alloc o3).heap[w.heap.size + 1]? = some o2 ∧ (((w.alloc o1).alloc o2).alloc o3).heap[w.heap.size + 2]? = some o3 ∧ Below w.heap.size w (((w.alloc o1).alloc o2).alloc o3) := by
  have e1 : (w.alloc o1).heap.size = w.heap.size + 1 := by simp
  have e2 : ((w.alloc o1).alloc o2).heap.size = w.heap.size + 2 := by simp
  have h1 := heap_alloc_new w o1
  have h2 := heap_alloc_new (w.alloc o1) o2
  have h3 := heap_alloc_new ((w.alloc o1).alloc o2) o3
  have b2 := below_a (w.alloc o1) o2
  have b3 := below_a ((w.alloc o1).alloc o2) o3
  refine ⟨rowB (rowB h1 b2 (by omega)) b3 (by omega), ?_, ?_, ((below_a w o1).trans (b2.mono (by omega))).trans (b3.mono (by omega))⟩
  · rw [e1] at h2; exact rowB h2 b3 (by omega)
  · rw [e2] at h3; exact h3
def fitV (k n : Int) (b : Nat) (s : ByteArray) : Bool := decide (s.size ≤ 100) && validV k n b s
theorem fitV_ok {k n : Int} {b : Nat} {s : ByteArray} (p : 0 ≤ k ∧ k < 256) (q : -9223372036854775808 ≤ n ∧ n ≤ 9223372036854775807) (r : b < 18446744073709551616) (h : fitV k n b s = true) : VFit k n b s ∧ validV k n b s = true := by
  unfold fitV at h
  simp only [Bool.and_eq_true, decide_eq_true_eq] at h
  exact ⟨⟨p, q, r, by omega⟩, h.2⟩
end Go.Proofs.YtnknkiiikeefgaaGreatDoor.wir.val

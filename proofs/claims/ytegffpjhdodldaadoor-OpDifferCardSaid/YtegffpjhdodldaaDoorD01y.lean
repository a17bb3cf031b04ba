/- Contract of the reference's blocks. Contracts of the reference's Of and Sum. Contracts of the reference's Sum, Start, Valid, Add and End. -/
import Derived.Test.YtegffpjhdodldaaDoorD01x
namespace Go.Proofs.YtegffpjhdodldaaDoor
open Go.RowKit Go.YtegffpjhdodldaaDoor
set_option linter.unusedVariables false
end Go.Proofs.YtegffpjhdodldaaDoor
namespace Go.Proofs.YtegffpjhdodldaaDoor
open Go.RowKit Go.YtegffpjhdodldaaDoor
set_option linter.unusedVariables false
def tailF (n : Nat) : List Int := tl (zT n) ++ [0, 0, 0, 0] ++ be4 (8 * (n : Int))
theorem tailF_length (n : Nat) : (tailF n).length = zT n + 9 := by simp [tailF, tl_length, be4]
theorem zT_lt (n : Nat) : zT n < 64 := Nat.mod_lt _ (by decide)
theorem tailF_bytes (n : Nat) (hn : n ≤ 300000) : Bytes (tailF n) := by
  unfold tailF
  refine bytes_append _ _ (bytes_append _ _ ?_ (bytes_replicate 4)) (be4_bytes _ ⟨by omega, by omega⟩)
  exact bytes_append [128] _ (bytes_one 128 (by omega)) (bytes_replicate _)
theorem tail_ending (r : List Int) (n : Nat) (h : r.length = n % 64) : r ++ tailF n = endingF r n := by
  have e : List.replicate (zT n) (0 : Int) ++ [0, 0, 0, 0] = List.replicate (endSize r.length - 4 - (r.length + 1)) 0 := by
    rw [show ([0, 0, 0, 0] : List Int) = List.replicate 4 0 from rfl, List.replicate_append_replicate]
    congr 1
    unfold zT endSize
    split <;> omega
  unfold tailF endingF tl
  rw [← e]
  simp
theorem own0 (w : World) : OwnB w.heap.size 5 (w.alloc (.cells #[] 5)) (.slice (some ⟨w.heap.size, 0, none⟩) 0 0) [] :=
  ⟨rfl, .inr ⟨w.heap.size, 0, _, rfl, Nat.le_refl _, heap_alloc_new w _, Nat.le_refl _, by decide, rfl, rfl⟩⟩
end Go.Proofs.YtegffpjhdodldaaDoor
namespace Go.Proofs.YtegffpjhdodldaaDoor
open Go.RowKit Go.YtegffpjhdodldaaDoor
set_option linter.unusedVariables false
end Go.Proofs.YtegffpjhdodldaaDoor

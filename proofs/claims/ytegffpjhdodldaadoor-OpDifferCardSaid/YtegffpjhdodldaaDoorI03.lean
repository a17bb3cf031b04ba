/- Contracts of the reference of layer 4: strings and lists that are written. -/
import Derived.Test.YtegffpjhdodldaaDoorI02
namespace Go.Proofs.YtegffpjhdodldaaDoor.wir
open Go.RowKit Go.YtegffpjhdodldaaDoor
set_option linter.unusedVariables false
theorem run_sliceAt_off {P : Program} {t n elem : Nat} (ht : P.underlying t = some (.array n elem)) (hs : (P.info? elem).map (·.size) = some 1) (b o : Nat) (w : World) :
    (Instr.sliceAt t (.pointer (some ⟨b, o, none⟩)) none none none).run P w = .ok (.slice (some ⟨b, o, none⟩) n n) w := by
  cases hq : P.info? elem with
  | none => simp [hq] at hs
  | some inf =>
    simp [Instr.sliceAt, run_underlying ht, Instr.sureAddr, Instr.sliceBounds, sizeOf, typeInfo, hq]
    unfold Addr.add
    simp
end Go.Proofs.YtegffpjhdodldaaDoor.wir

/- More laws of our own: what a callee leaves of old cells; eight cells stored. -/
import Derived.Test.YtfncepfjnljhlaaDoorLibB
namespace Go
namespace YtfncepfjnljhlaaDoor
open RowKit
theorem bcell {W w1 : World} (hb : Below W.heap.size W w1) : (∀ b o, b < W.heap.size → w1.cell? ⟨b, o, none⟩ = W.cell? ⟨b, o, none⟩) ∧ (∀ b o, b < W.heap.size → w1.frozen? ⟨b, o, none⟩ = W.frozen? ⟨b, o, none⟩) :=
  ⟨fun b o h => hb.cell (p := ⟨b, o, none⟩) h, fun b o h => hb.frozen (p := ⟨b, o, none⟩) h⟩
theorem run_sliceAt_low {P : Program} {t n elem : Nat} (ht : P.underlying t = some (.array n elem)) (hs : (P.info? elem).map (·.size) = some 1) (b lo : Nat) (hlo : lo < n) (w : World) :
    (Instr.sliceAt t (.pointer (some ⟨b, 0, none⟩)) (some (.int .i64 (lo : Int))) none none).run P w = .ok (.slice (some ⟨b, lo, none⟩) (n - lo) (n - lo)) w := by
  cases hq : P.info? elem with
  | none => simp [hq] at hs
  | some inf =>
    have h1 : inf.size = 1 := by simpa [hq] using hs
    have h2 : ¬ n = lo := by omega
    have h3 : (lo : Int) ≤ (n : Int) := by omega
    simp [Instr.sliceAt, run_underlying ht, Instr.sureAddr, Instr.sliceBounds, Instr.sliceBound, asIntOf, sizeOf, typeInfo, hq, h1, h2, Nat.le_of_lt hlo, addr_add]
theorem run_sliceAt_full {P : Program} {t n elem : Nat} (ht : P.underlying t = some (.array n elem)) (hs : (P.info? elem).map (·.size) = some 1) (b : Nat) (w : World) :
    (Instr.sliceAt t (.pointer (some ⟨b, 0, none⟩)) none none none).run P w = .ok (.slice (some ⟨b, 0, none⟩) n n) w := by
  cases hq : P.info? elem with
  | none => simp [hq] at hs
  | some inf =>
    simp [Instr.sliceAt, run_underlying ht, Instr.sureAddr, Instr.sliceBounds, sizeOf, typeInfo, hq]
    unfold Addr.add
    simp
set_option maxHeartbeats 1000000 in
theorem set8v_world {w : World} {g : Nat} {a0 a1 a2 a3 a4 a5 a6 a7 x0 x1 x2 x3 x4 x5 x6 x7 : Value} {T : TypeId} (hg : w.heap[g]? = some (.cells #[a0, a1, a2, a3, a4, a5, a6, a7] T (0, 0))) :
    ((((((((w.setCell ⟨g, 0, none⟩ x0).setCell ⟨g, 1, none⟩ x1).setCell ⟨g, 2, none⟩ x2).setCell ⟨g, 3, none⟩ x3).setCell ⟨g, 4, none⟩ x4).setCell ⟨g, 5, none⟩ x5).setCell ⟨g, 6, none⟩ x6).setCell ⟨g, 7, none⟩ x7) = w.setRow g #[x0, x1, x2, x3, x4, x5, x6, x7] := by
  have h := fun c => setRow_heap w g #[a0, a1, a2, a3, a4, a5, a6, a7] c T (0, 0) hg
  rw [setCell_eq hg]
  rw [setCell_eq (h _), setRow2 hg]
  rw [setCell_eq (h _), setRow2 hg]
  rw [setCell_eq (h _), setRow2 hg]
  rw [setCell_eq (h _), setRow2 hg]
  rw [setCell_eq (h _), setRow2 hg]
  rw [setCell_eq (h _), setRow2 hg]
  rw [setCell_eq (h _), setRow2 hg]
  simp only [List.setIfInBounds_toArray, List.set_cons_succ, List.set_cons_zero]
end YtfncepfjnljhlaaDoor
end Go

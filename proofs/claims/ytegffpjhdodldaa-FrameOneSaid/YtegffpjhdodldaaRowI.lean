/- Rows: slices of ids that come in, opened. -/
import Derived.Test.YtegffpjhdodldaaRowW
import Derived.Test.YtegffpjhdodldaaI01
namespace Go.Proofs.Ytegffpjhdodldaa
open Go.ChangeShapes Go.WideShapes Go.ChangeAt Go.WideMaps Go.WideElems Go.RowKit Go.Ytegffpjhdodldaa
set_option linter.unusedVariables false
section
variable {H : Type} {enc : TypeId × Value → H} {P : Program} {W : World}
theorem addr_add_spot (a : Addr) (j k : Nat) : (a.add j).add k = a.add (j + k) := by
  by_cases hj : j = 0
  · subst hj; simp [Addr.add]
  · by_cases hk : k = 0
    · subst hk; simp [Addr.add]
    · simp [Addr.add, hj, hk, Nat.add_assoc]
theorem trod_ids {t e e8 : TypeId} (ht : P.underlying t = some (.slice e)) (he : P.underlying e = some (.array 32 e8)) (he8 : P.underlying e8 = some (.int .u8)) (hc8 : P.cellsOf e8 = 1) (hc : P.cellsOf e = 32) {fuel : Nat} {cs : List Value} {x : DataW H × List MemPlace}
    (h : DataW.trod enc P W 0 (fun _ => true) true fuel t cs = some x) : ∃ v n F, cs = [v] ∧ RdI W v n F ∧ Bytes F := by
  rcases DataW.trod_slice ht h with ⟨rfl, _⟩ | ⟨a, len, cap, elems, rest, m, _, rfl, _, hb, hl, hm, hlen, hel, _, _⟩
  · exact ⟨_, 0, [], rfl, .inl ⟨none, 0, rfl, fun _ => rfl, rfl, rfl⟩, bytes_nil⟩
  · have each : ∀ i, i < len → ∃ ks : List Int, ks.length = 32 ∧ Bytes ks ∧ ∀ j, j < 32 → W.cell? (a.add (i * 32 + j)) = some (.int .u8 (ith ks j)) := by
      intro i hi
      have h1 := hel i hi
      have hy : elems[i]? = some elems[i] := List.getElem?_eq_getElem (by omega)
      rw [hc, hy, Option.bind_eq_some_iff] at h1
      obtain ⟨cs', hcs, hy'⟩ := h1
      obtain ⟨ks, e1, e2, e3, _⟩ := trod_ints he he8 hc8 hc hy'
      have hcell := World.cells?_some hcs
      refine ⟨ks, e2, bytes_of e3, fun j hj => ?_⟩
      have h2 := hcell.2.2 j hj
      rw [addr_add_spot, e1] at h2
      rw [h2]
      simp [ith, e2, hj]
    have build : ∀ k, k ≤ len → ∃ F : List Int, F.length = 32 * k ∧ Bytes F ∧ ∀ i, i < 32 * k → W.cell? (a.add i) = some (.int .u8 (ith F i)) := by
      intro k
      induction k with
      | zero => intro _; exact ⟨[], rfl, bytes_nil, fun i hi => by omega⟩
      | succ k ih =>
        intro hk
        obtain ⟨F, f1, f2, f3⟩ := ih (by omega)
        obtain ⟨ks, k1, k2, k3⟩ := each k (by omega)
        refine ⟨F ++ ks, by rw [List.length_append, f1, k1]; omega, bytes_append _ _ f2 k2, fun i hi => ?_⟩
        rw [ith_append, f1]
        split
        · rename_i h; exact f3 i h
        · rename_i h
          have := k3 (i - 32 * k) (by omega)
          rw [show k * 32 + (i - 32 * k) = i by omega] at this
          exact this
    obtain ⟨F, f1, f2, f3⟩ := build len (Nat.le_refl _)
    by_cases h0 : len = 0
    · subst h0
      obtain rfl : F = [] := List.eq_nil_of_length_eq_zero (by omega)
      exact ⟨_, 0, [], rfl, .inl ⟨some a, cap, rfl, (fun h => by cases h), rfl, rfl⟩, bytes_nil⟩
    · obtain ⟨b, o, spot⟩ := a
      have hspot : spot = none := by simpa [Addr.add] using World.cell?_spot (f3 0 (by omega))
      subst hspot
      refine ⟨_, len, F, rfl, .inr ⟨b, o, cap, rfl, hl, hm, World.block_lt_of_cell? _ _ (f3 0 (by omega)), f1, fun i hi => ?_⟩, f2⟩
      have := f3 i (by omega)
      rw [addr_add] at this
      exact this
theorem open_ids {t e e8 : TypeId} {v : Value} {d : DataW H} {p : List MemPlace} (ht : P.underlying t = some (.slice e)) (he : P.underlying e = some (.array 32 e8)) (he8 : P.underlying e8 = some (.int .u8)) (hc8 : P.cellsOf e8 = 1) (hc : P.cellsOf e = 32) (hct : P.cellsOf t = 1)
    {r : Reach} {b0 : Nat} (hv : Value.okWide P W r b0 t v) (h : DataW.Trod enc P W 0 (fun _ => true) true t v d p) : ∃ n F, RdI W v n F ∧ Bytes F := by
  obtain ⟨fuel, hf⟩ := h
  obtain ⟨v', n, F, h1, h2, h3⟩ := trod_ids ht he he8 hc8 hc hf
  refine ⟨n, F, ?_, h3⟩
  unfold Value.okWide at hv
  rw [ht] at hv
  simp only [Cell.okWide, ht] at hv
  cases v <;> simp [Cell.ok, ht] at hv
  simp [Value.cells] at h1
  rw [h1]; exact h2
end
end Go.Proofs.Ytegffpjhdodldaa

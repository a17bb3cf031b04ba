/- Rows: frames that come in, opened. -/
import Derived.Test.YtegffpjhdodldaaRowI
import Derived.Test.YtegffpjhdodldaaF02
import Derived.Lib.SmallJoins
import Derived.ChangeMaps5
namespace Go.Proofs.Ytegffpjhdodldaa
open Go.ChangeShapes Go.WideShapes Go.ChangeAt Go.WideMaps Go.WideElems Go.RowKit Go.Joins Go.Ytegffpjhdodldaa
set_option linter.unusedVariables false
/-- What every frame that comes in has, whatever its sizes. -/
structure Fr.Raw (f : Fr) : Prop where
  k : 0 ≤ f.k ∧ f.k < 256
  N : f.N < 18446744073709551616
  F : Bytes f.F
  L : ∀ i, Bytes (nthL f.L i)
section
variable {H : Type} {enc : TypeId × Value → H} {P : Program} {W : World}
theorem trod_strs {t e e8 : TypeId} (ht : P.underlying t = some (.slice e)) (he : P.underlying e = some (.slice e8)) (he8 : P.underlying e8 = some (.int .u8)) (hc8 : P.cellsOf e8 = 1) (hc : P.cellsOf e = 1) {fuel : Nat} {cs : List Value} {x : DataW H × List MemPlace}
    (h : DataW.trod enc P W 0 (fun _ => true) true fuel t cs = some x) : ∃ v L, cs = [v] ∧ RdS W v L ∧ ∀ i, Bytes (nthL L i) := by
  rcases DataW.trod_slice ht h with ⟨rfl, _⟩ | ⟨a, len, cap, elems, rest, m, _, rfl, _, hb, hl, hm, hlen, hel, _, _⟩
  · exact ⟨_, [], rfl, RdS.nil W, fun i => by rw [num_nil]; exact bytes_nil⟩
  · have each : ∀ i, i < len → ∃ s l, W.cell? (a.add i) = some s ∧ RdB W s l ∧ Bytes l := by
      intro i hi
      have h1 := hel i hi
      have hy : elems[i]? = some elems[i] := List.getElem?_eq_getElem (by omega)
      rw [hc, hy, Option.bind_eq_some_iff] at h1
      obtain ⟨cs', hcs, hy'⟩ := h1
      obtain ⟨s, l, rfl, e2, e3⟩ := trod_bytes he he8 hc8 hy'
      have hcell := (World.cells?_some hcs).2.2 0 (by decide)
      rw [addr_add_spot, Nat.add_zero, Nat.mul_one] at hcell
      exact ⟨s, l, hcell, e2, e3⟩
    have build : ∀ k, k ≤ len → ∃ L : List (List Int), L.length = k ∧ (∀ i, Bytes (nthL L i)) ∧ ∀ i, i < k → ∃ s, W.cell? (a.add i) = some s ∧ RdB W s (nthL L i) := by
      intro k
      induction k with
      | zero => intro _; exact ⟨[], rfl, fun i => by rw [num_nil]; exact bytes_nil, fun i hi => by omega⟩
      | succ k ih =>
        intro hk
        obtain ⟨L, f1, f2, f3⟩ := ih (by omega)
        obtain ⟨s, l, k1, k2, k3⟩ := each k (by omega)
        refine ⟨L ++ [l], by simp [f1], nthL_snoc (p := Bytes) _ _ bytes_nil f2 k3, fun i hi => ?_⟩
        rcases Nat.lt_or_ge i k with h | h
        · rw [nthL_pre _ _ _ (by omega)]; exact f3 i h
        · obtain rfl : i = k := by omega
          rw [show nthL (L ++ [l]) i = l by rw [← f1]; exact nthL_last L l]
          exact ⟨s, k1, k2⟩
    obtain ⟨L, f1, f2, f3⟩ := build len (Nat.le_refl _)
    by_cases h0 : len = 0
    · subst h0
      obtain rfl : L = [] := List.eq_nil_of_length_eq_zero f1
      exact ⟨_, [], rfl, .inl ⟨some a, cap, rfl, (fun h => by cases h), rfl⟩, f2⟩
    · obtain ⟨b, o, spot⟩ := a
      obtain ⟨s0, hs0, _⟩ := f3 0 (by omega)
      have hspot : spot = none := by simpa [Addr.add] using World.cell?_spot hs0
      subst hspot
      refine ⟨_, L, rfl, .inr ⟨b, o, cap, by rw [f1], by rw [f1]; exact hl, hm, World.block_lt_of_cell? _ _ hs0, fun i hi => ?_⟩, f2⟩
      rw [f1] at hi
      have := f3 i hi
      rw [addr_add] at this
      exact this
end
theorem array4 {α : Type} {cs : Array α} (h : cs.size = 4) : ∃ c0 c1 c2 c3, cs = #[c0, c1, c2, c3] := by
  obtain ⟨l⟩ := cs
  match l, h with
  | [c0, c1, c2, c3], _ => exact ⟨c0, c1, c2, c3, rfl⟩
section
variable {H : Type} {enc : TypeId × Value → H} {W : World}
set_option maxRecDepth 10000 in
theorem open_frame {v : Value} {d : DataW H} {p : List MemPlace} {r : Reach} {b0 : Nat} (hv : Value.okWide Try.prog W r b0 26 v) (h : DataW.Trod enc Try.prog W 0 (fun _ => true) true 26 v d p) :
    ∃ (f : Fr) (iv ov : Value), v = .agg (f.c iv ov) ∧ f.Raw ∧ RdI W iv f.n f.F ∧ RdS W ov f.L := by
  obtain ⟨cs, rfl, hsz⟩ := okWide_struct Try.underlying26 hv
  obtain ⟨c0, c1, c2, c3, rfl⟩ := array4 (hsz.trans (by kernel_rfl))
  obtain ⟨fuel, hf⟩ := h
  obtain ⟨y0, y1, y2, y3, n, _, _, e0, e1, e2, e3⟩ := trod_struct4 Try.underlying26 hf
  have kI : Try.prog.cellsOf 23 = 1 := by kernel_rfl
  have k64 : Try.prog.cellsOf 22 = 1 := by kernel_rfl
  have k8 : Try.prog.cellsOf 5 = 1 := by kernel_rfl
  have kS : Try.prog.cellsOf 24 = 1 := by kernel_rfl
  dsimp only at e0 e1 e2 e3
  rw [k8] at e0
  rw [k64] at e1
  rw [kI] at e2
  rw [kS] at e3
  simp only [Value.cells, List.drop_zero, List.take_succ_cons, List.take_zero, List.drop_succ_cons] at e0 e1 e2 e3
  obtain ⟨k, a0, _, w0⟩ := DataW.trod_int Try.underlying5 e0
  obtain ⟨N, a1, _, w1⟩ := DataW.trod_int Try.underlying22 e1
  obtain ⟨iv, m, F, a2, hF, hFb⟩ := trod_ids Try.underlying23 Try.underlying58 Try.underlying5 (by kernel_rfl) (by kernel_rfl) e2
  obtain ⟨ov, L, a3, hL, hLb⟩ := trod_strs Try.underlying24 Try.underlying29 Try.underlying5 (by kernel_rfl) (by kernel_rfl) e3
  obtain ⟨N, rfl, hN⟩ := natOf64 N w1
  have hk : 0 ≤ k ∧ k ≤ 255 := by simpa [Lit.wf, IntKind.min, IntKind.max, IntKind.signed, IntKind.bits] using w0
  refine ⟨⟨k, N, m, F, L⟩, iv, ov, ?_, ⟨⟨hk.1, show k < 256 by omega⟩, hN, hFb, hLb⟩, hF, hL⟩
  rw [(List.cons.inj a0).1, (List.cons.inj a1).1, (List.cons.inj a2).1, (List.cons.inj a3).1]
end
end Go.Proofs.Ytegffpjhdodldaa

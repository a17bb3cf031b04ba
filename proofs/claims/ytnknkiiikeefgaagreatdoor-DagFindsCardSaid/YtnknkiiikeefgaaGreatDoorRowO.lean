/- Rows: operations that come in, opened. -/
import Derived.Test.YtnknkiiikeefgaaGreatDoorRow
import Derived.Test.YtnknkiiikeefgaaGreatDoorQ13
import Derived.Lib.SmallJoins
import Derived.ChangeMaps5
import Derived.Deep.Strs
namespace Go.Proofs.YtnknkiiikeefgaaGreatDoor.wir.val
open Go.ChangeShapes Go.WideShapes Go.ChangeAt Go.WideMaps Go.WideElems Go.RowKit Go.Joins Go.YtnknkiiikeefgaaGreatDoor
set_option linter.unusedVariables false
section
variable {H : Type} {enc : TypeId × Value → H} {P : Program} {W : World}
theorem addr_add_spot (a : Addr) (j k : Nat) : (a.add j).add k = a.add (j + k) := by
  by_cases hj : j = 0
  · subst hj; simp [Addr.add]
  · by_cases hk : k = 0
    · subst hk; simp [Addr.add]
    · simp [Addr.add, hj, hk, Nat.add_assoc]
theorem trod_ids {t e e8 : TypeId} (ht : P.underlying t = some (.slice e)) (he : P.underlying e = some (.array 32 e8)) (he8 : P.underlying e8 = some (.int .u8)) (hc8 : P.cellsOf e8 = 1) (hc : P.cellsOf e = 32) {fuel : Nat} {cs : List Value} {x : DataW H × List MemPlace}
    (h : DataW.trod enc P W 0 (fun _ => true) true fuel t cs = some x) : ∃ v n F, cs = [v] ∧ RdI W v n F ∧ Bytes F := by
  rcases DataW.trod_slice ht h with ⟨rfl, _⟩ | ⟨a, len, cap, elems, rest, m, _, rfl, _, hb, hl, hm, hlen, hel, _, _⟩
  · exact ⟨_, 0, [], rfl, .inl ⟨none, 0, rfl, fun _ => rfl, rfl, rfl⟩, bytes_nil⟩
  · have each : ∀ i, i < len → ∃ ks : List Int, ks.length = 32 ∧ Bytes ks ∧ ∀ j, j < 32 → W.cell? (a.add (i * 32 + j)) = some (.int .u8 (ith ks j)) := by
      intro i hi
      have h1 := hel i hi
      have hy : elems[i]? = some elems[i] := List.getElem?_eq_getElem (by omega)
      rw [hc, hy, Option.bind_eq_some_iff] at h1
      obtain ⟨cs', hcs, hy'⟩ := h1
      obtain ⟨ks, e1, e2, e3, _⟩ := trod_ints he he8 hc8 hc hy'
      have hcell := World.cells?_some hcs
      refine ⟨ks, e2, bytes_of e3, fun j hj => ?_⟩
      have h2 := hcell.2.2 j hj
      rw [addr_add_spot, e1] at h2
      rw [h2]
      simp [ith, e2, hj]
    have build : ∀ k, k ≤ len → ∃ F : List Int, F.length = 32 * k ∧ Bytes F ∧ ∀ i, i < 32 * k → W.cell? (a.add i) = some (.int .u8 (ith F i)) := by
      intro k
      induction k with
      | zero => intro _; exact ⟨[], rfl, bytes_nil, fun i hi => by omega⟩
      | succ k ih =>
        intro hk
        obtain ⟨F, f1, f2, f3⟩ := ih (by omega)
        obtain ⟨ks, k1, k2, k3⟩ := each k (by omega)
        refine ⟨F ++ ks, by rw [List.length_append, f1, k1]; omega, bytes_append _ _ f2 k2, fun i hi => ?_⟩
        rw [ith_append, f1]
        split
        · rename_i h; exact f3 i h
        · rename_i h
          have := k3 (i - 32 * k) (by omega)
          rw [show k * 32 + (i - 32 * k) = i by omega] at this
          exact this
    obtain ⟨F, f1, f2, f3⟩ := build len (Nat.le_refl _)
    by_cases h0 : len = 0
    · subst h0
      obtain rfl : F = [] := List.eq_nil_of_length_eq_zero (by omega)
      exact ⟨_, 0, [], rfl, .inl ⟨some a, cap, rfl, (fun h => by cases h), rfl, rfl⟩, bytes_nil⟩
    · obtain ⟨b, o, spot⟩ := a
      have hspot : spot = none := by simpa [Addr.add] using World.cell?_spot (f3 0 (by omega))
      subst hspot
      refine ⟨_, len, F, rfl, .inr ⟨b, o, cap, rfl, hl, hm, World.block_lt_of_cell? _ _ (f3 0 (by omega)), f1, fun i hi => ?_⟩, f2⟩
      have := f3 i (by omega)
      rw [addr_add] at this
      exact this
theorem trod_struct5 {t : TypeId} {f0 f1 f2 f3 f4 : Field} {base fuel : Nat} {spare : Nat → Bool} {held : Bool} {w : World} {cs : List Value} {x : DataW H × List MemPlace} (ht : P.underlying t = some (.struct #[f0, f1, f2, f3, f4])) (h : DataW.trod enc P w base spare held fuel t cs = some x) :
    ∃ y0 y1 y2 y3 y4 n, cs.length = P.cellsOf t ∧ DataW.trod enc P w base spare held n f0.type ((cs.drop f0.offset).take (P.cellsOf f0.type)) = some y0 ∧
      DataW.trod enc P w base spare held n f1.type ((cs.drop f1.offset).take (P.cellsOf f1.type)) = some y1 ∧ DataW.trod enc P w base spare held n f2.type ((cs.drop f2.offset).take (P.cellsOf f2.type)) = some y2 ∧
      DataW.trod enc P w base spare held n f3.type ((cs.drop f3.offset).take (P.cellsOf f3.type)) = some y3 ∧ DataW.trod enc P w base spare held n f4.type ((cs.drop f4.offset).take (P.cellsOf f4.type)) = some y4 := by
  obtain ⟨xs, n, _, rfl, hl, hlen, hf⟩ := DataW.trod_struct ht h
  match xs, hlen with
  | [y0, y1, y2, y3, y4], _ => exact ⟨y0, y1, y2, y3, y4, n, hl, by simpa using hf 0 f0 rfl, by simpa using hf 1 f1 rfl, by simpa using hf 2 f2 rfl, by simpa using hf 3 f3 rfl, by simpa using hf 4 f4 rfl⟩
end
theorem array11 {α : Type} {cs : Array α} (h : cs.size = 11) : ∃ c0 c1 c2 c3 c4 c5 c6 c7 c8 c9 c10, cs = #[c0, c1, c2, c3, c4, c5, c6, c7, c8, c9, c10] := by
  obtain ⟨l⟩ := cs
  match l, h with
  | [c0, c1, c2, c3, c4, c5, c6, c7, c8, c9, c10], _ => exact ⟨c0, c1, c2, c3, c4, c5, c6, c7, c8, c9, c10, rfl⟩
theorem natOf64 (x : Int) (h : (Lit.int .u64 x).wf = true) : ∃ n : Nat, x = (n : Int) ∧ n < 18446744073709551616 := by
  have h3 : 0 ≤ x ∧ x ≤ 18446744073709551615 := by simpa [Lit.wf, IntKind.min, IntKind.max, IntKind.signed, IntKind.bits] using h
  exact ⟨x.toNat, by omega, by omega⟩
theorem natOf32 (x : Int) (h : (Lit.int .u32 x).wf = true) : ∃ n : Nat, x = (n : Int) ∧ n < 4294967296 := by
  have h3 : 0 ≤ x ∧ x ≤ 4294967295 := by simpa [Lit.wf, IntKind.min, IntKind.max, IntKind.signed, IntKind.bits] using h
  exact ⟨x.toNat, by omega, by omega⟩
theorem boundsOf64 (x : Int) (h : (Lit.int .i64 x).wf = true) : -9223372036854775808 ≤ x ∧ x ≤ 9223372036854775807 := by
  simpa [Lit.wf, IntKind.min, IntKind.max, IntKind.signed, IntKind.bits] using h
section
variable {H : Type} {enc : TypeId × Value → H} {W : World}
set_option maxRecDepth 10000 in
theorem open_op {v : Value} {d : DataW H} {p : List MemPlace} {r : Reach} {b0 : Nat} (hv : Value.okWide Tryz.prog W r b0 35 v) (h : DataW.Trod enc Tryz.prog W 0 (fun _ => true) true 35 v d p) :
    ∃ (o : Od) (pv : Value), v = .agg (o.c pv) ∧ o.Raw ∧ RdI W pv o.n o.F := by
  obtain ⟨cs, rfl, hsz⟩ := okWide_struct Tryz.underlying35 hv
  obtain ⟨c0, c1, c2, c3, c4, c5, c6, c7, c8, c9, c10, rfl⟩ := array11 (hsz.trans (by kernel_rfl))
  obtain ⟨fuel, hf⟩ := h
  obtain ⟨y0, y1, y2, y3, y4, n, _, e0, e1, e2, e3, e4⟩ := trod_struct5 Tryz.underlying35 hf
  have k32 : Tryz.prog.cellsOf 25 = 1 := by kernel_rfl
  have kI : Tryz.prog.cellsOf 26 = 1 := by kernel_rfl
  have k64 : Tryz.prog.cellsOf 27 = 1 := by kernel_rfl
  have kA : Tryz.prog.cellsOf 31 = 6 := by kernel_rfl
  have kS : Tryz.prog.cellsOf 33 = 2 := by kernel_rfl
  have k8 : Tryz.prog.cellsOf 5 = 1 := by kernel_rfl
  have kT : Tryz.prog.cellsOf 9 = 1 := by kernel_rfl
  have kV : Tryz.prog.cellsOf 29 = 4 := by kernel_rfl
  have kN : Tryz.prog.cellsOf 2 = 1 := by kernel_rfl
  dsimp only at e0 e1 e2 e3 e4
  rw [k32] at e0
  rw [kI] at e1
  rw [k64] at e2
  rw [kA] at e3
  rw [kS] at e4
  simp only [Value.cells, List.drop_zero, List.take_succ_cons, List.take_zero, List.drop_succ_cons] at e0 e1 e2 e3 e4
  obtain ⟨au, a0, _, w0⟩ := DataW.trod_int Tryz.underlying25 e0
  obtain ⟨pv, pn, F, a1, hF, hFb⟩ := trod_ids Tryz.underlying26 Tryz.underlying24 Tryz.underlying5 (by kernel_rfl) (by kernel_rfl) e1
  obtain ⟨st, a2, _, w2⟩ := DataW.trod_int Tryz.underlying27 e2
  obtain ⟨z0, z1, z2, n2, _, _, g0, g1, g2⟩ := Deep.trod_struct3 Tryz.underlying31 e3
  obtain ⟨u0, u1, n3, _, _, s0, s1⟩ := trod_struct2 Tryz.underlying33 e4
  dsimp only at g0 g1 g2 s0 s1
  rw [k8] at g0
  rw [kT] at g1
  rw [kV] at g2
  rw [k32] at s0 s1
  simp only [List.drop_zero, List.take_succ_cons, List.take_zero, List.drop_succ_cons] at g0 g1 g2 s0 s1
  obtain ⟨k, b0, _, x0⟩ := DataW.trod_int Tryz.underlying5 g0
  obtain ⟨key, b1, _, x1⟩ := DataW.trod_string Tryz.underlying9 g1
  obtain ⟨q0, q1, q2, q3, n4, _, _, v0, v1, v2, v3⟩ := trod_struct4 Tryz.underlying29 g2
  dsimp only at v0 v1 v2 v3
  rw [k8] at v0
  rw [kN] at v1
  rw [k64] at v2
  rw [kT] at v3
  simp only [List.drop_zero, List.take_succ_cons, List.take_zero, List.drop_succ_cons] at v0 v1 v2 v3
  obtain ⟨vk, d0, _, y0⟩ := DataW.trod_int Tryz.underlying5 v0
  obtain ⟨vn, d1, _, y1⟩ := DataW.trod_int Tryz.underlying2 v1
  obtain ⟨vb, d2, _, y2⟩ := DataW.trod_int Tryz.underlying27 v2
  obtain ⟨vs, d3, _, y3⟩ := DataW.trod_string Tryz.underlying9 v3
  obtain ⟨e, f0, _, t0⟩ := DataW.trod_int Tryz.underlying25 s0
  obtain ⟨s, f1, _, t1⟩ := DataW.trod_int Tryz.underlying25 s1
  obtain ⟨au, rfl, hau⟩ := natOf32 au w0
  obtain ⟨st, rfl, hst⟩ := natOf64 st w2
  obtain ⟨vb, rfl, hvb⟩ := natOf64 vb y2
  obtain ⟨e, rfl, he⟩ := natOf32 e t0
  obtain ⟨s, rfl, hs⟩ := natOf32 s t1
  have hk : 0 ≤ k ∧ k ≤ 255 := by simpa [Lit.wf, IntKind.min, IntKind.max, IntKind.signed, IntKind.bits] using x0
  have hvk : 0 ≤ vk ∧ vk ≤ 255 := by simpa [Lit.wf, IntKind.min, IntKind.max, IntKind.signed, IntKind.bits] using y0
  refine ⟨⟨au, pn, F, st, k, key, ⟨vk, vn, vb, vs⟩, e, s⟩, pv, ?_, ⟨hau, hFb, hst, ⟨hk.1, show k < 256 by omega⟩, ⟨hvk.1, show vk < 256 by omega⟩, boundsOf64 vn y1, hvb, he, hs⟩, hF⟩
  rw [(List.cons.inj a0).1, (List.cons.inj a1).1, (List.cons.inj a2).1, (List.cons.inj b0).1, (List.cons.inj b1).1, (List.cons.inj d0).1, (List.cons.inj d1).1, (List.cons.inj d2).1, (List.cons.inj d3).1, (List.cons.inj f0).1, (List.cons.inj f1).1]
end
end Go.Proofs.YtnknkiiikeefgaaGreatDoor.wir.val

/- Rows: graphs that come in, opened. -/
import Derived.Test.YtnknkiiikeefgaaGreatDoorRowO
import Derived.Test.YtnknkiiikeefgaaGreatDoorG10
namespace Go.Proofs.YtnknkiiikeefgaaGreatDoor.wir.val
open Go.ChangeShapes Go.WideShapes Go.ChangeAt Go.WideMaps Go.WideElems Go.RowKit Go.Joins Go.YtnknkiiikeefgaaGreatDoor
set_option linter.unusedVariables false
theorem nthO_pre (L M : List Od) (i : Nat) (h : i < L.length) : nthO (L ++ M) i = nthO L i := by
  unfold nthO
  rw [List.getElem?_append_left h]
theorem nthO_last (L : List Od) (s : Od) : nthO (L ++ [s]) L.length = s := by
  unfold nthO
  simp
section
variable {H : Type} {enc : TypeId × Value → H} {W : World}
set_option maxRecDepth 10000 in
theorem trod_opG {fuel : Nat} {cs : List Value} {x : DataW H × List MemPlace} (h0 : DataW.trod enc Tryz.prog W 0 (fun _ => true) true fuel 35 cs = some x) :
    ∃ (o : Od) (pv : Value), cs = (o.c pv).toList ∧ o.Raw ∧ RdI W pv o.n o.F := by
  have hsz : cs.length = 11 := by
    obtain ⟨_, _, _, _, _, _, hl, _⟩ := trod_struct5 Tryz.underlying35 h0
    exact hl.trans (by kernel_rfl)
  obtain ⟨c0, c1, c2, c3, c4, c5, c6, c7, c8, c9, c10, hcs⟩ := array11 (cs := cs.toArray) (by simpa using hsz)
  obtain rfl : cs = [c0, c1, c2, c3, c4, c5, c6, c7, c8, c9, c10] := by simpa using congrArg Array.toList hcs
  have h := h0
  obtain ⟨y0, y1, y2, y3, y4, n, _, e0, e1, e2, e3, e4⟩ := trod_struct5 Tryz.underlying35 h
  have k32 : Tryz.prog.cellsOf 25 = 1 := by kernel_rfl
  have kI : Tryz.prog.cellsOf 26 = 1 := by kernel_rfl
  have k64 : Tryz.prog.cellsOf 27 = 1 := by kernel_rfl
  have kA : Tryz.prog.cellsOf 31 = 6 := by kernel_rfl
  have kS : Tryz.prog.cellsOf 33 = 2 := by kernel_rfl
  have k8 : Tryz.prog.cellsOf 5 = 1 := by kernel_rfl
  have kT : Tryz.prog.cellsOf 9 = 1 := by kernel_rfl
  have kV : Tryz.prog.cellsOf 29 = 4 := by kernel_rfl
  have kN : Tryz.prog.cellsOf 2 = 1 := by kernel_rfl
  dsimp only at e0 e1 e2 e3 e4
  rw [k32] at e0
  rw [kI] at e1
  rw [k64] at e2
  rw [kA] at e3
  rw [kS] at e4
  simp only [Value.cells, List.drop_zero, List.take_succ_cons, List.take_zero, List.drop_succ_cons] at e0 e1 e2 e3 e4
  obtain ⟨au, a0, _, w0⟩ := DataW.trod_int Tryz.underlying25 e0
  obtain ⟨pv, pn, F, a1, hF, hFb⟩ := trod_ids Tryz.underlying26 Tryz.underlying24 Tryz.underlying5 (by kernel_rfl) (by kernel_rfl) e1
  obtain ⟨st, a2, _, w2⟩ := DataW.trod_int Tryz.underlying27 e2
  obtain ⟨z0, z1, z2, n2, _, _, g0, g1, g2⟩ := Deep.trod_struct3 Tryz.underlying31 e3
  obtain ⟨u0, u1, n3, _, _, s0, s1⟩ := trod_struct2 Tryz.underlying33 e4
  dsimp only at g0 g1 g2 s0 s1
  rw [k8] at g0
  rw [kT] at g1
  rw [kV] at g2
  rw [k32] at s0 s1
  simp only [List.drop_zero, List.take_succ_cons, List.take_zero, List.drop_succ_cons] at g0 g1 g2 s0 s1
  obtain ⟨k, b0, _, x0⟩ := DataW.trod_int Tryz.underlying5 g0
  obtain ⟨key, b1, _, x1⟩ := DataW.trod_string Tryz.underlying9 g1
  obtain ⟨q0, q1, q2, q3, n4, _, _, v0, v1, v2, v3⟩ := trod_struct4 Tryz.underlying29 g2
  dsimp only at v0 v1 v2 v3
  rw [k8] at v0
  rw [kN] at v1
  rw [k64] at v2
  rw [kT] at v3
  simp only [List.drop_zero, List.take_succ_cons, List.take_zero, List.drop_succ_cons] at v0 v1 v2 v3
  obtain ⟨vk, d0, _, y0⟩ := DataW.trod_int Tryz.underlying5 v0
  obtain ⟨vn, d1, _, y1⟩ := DataW.trod_int Tryz.underlying2 v1
  obtain ⟨vb, d2, _, y2⟩ := DataW.trod_int Tryz.underlying27 v2
  obtain ⟨vs, d3, _, y3⟩ := DataW.trod_string Tryz.underlying9 v3
  obtain ⟨e, f0, _, t0⟩ := DataW.trod_int Tryz.underlying25 s0
  obtain ⟨s, f1, _, t1⟩ := DataW.trod_int Tryz.underlying25 s1
  obtain ⟨au, rfl, hau⟩ := natOf32 au w0
  obtain ⟨st, rfl, hst⟩ := natOf64 st w2
  obtain ⟨vb, rfl, hvb⟩ := natOf64 vb y2
  obtain ⟨e, rfl, he⟩ := natOf32 e t0
  obtain ⟨s, rfl, hs⟩ := natOf32 s t1
  have hk : 0 ≤ k ∧ k ≤ 255 := by simpa [Lit.wf, IntKind.min, IntKind.max, IntKind.signed, IntKind.bits] using x0
  have hvk : 0 ≤ vk ∧ vk ≤ 255 := by simpa [Lit.wf, IntKind.min, IntKind.max, IntKind.signed, IntKind.bits] using y0
  refine ⟨⟨au, pn, F, st, k, key, ⟨vk, vn, vb, vs⟩, e, s⟩, pv, ?_, ⟨hau, hFb, hst, ⟨hk.1, show k < 256 by omega⟩, ⟨hvk.1, show vk < 256 by omega⟩, boundsOf64 vn y1, hvb, he, hs⟩, hF⟩
  rw [(List.cons.inj a0).1, (List.cons.inj a1).1, (List.cons.inj a2).1, (List.cons.inj b0).1, (List.cons.inj b1).1, (List.cons.inj d0).1, (List.cons.inj d1).1, (List.cons.inj d2).1, (List.cons.inj d3).1, (List.cons.inj f0).1, (List.cons.inj f1).1]
theorem trod_opsG {fuel : Nat} {cs : List Value} {x : DataW H × List MemPlace}
    (h : DataW.trod enc Tryz.prog W 0 (fun _ => true) true fuel 22 cs = some x) : ∃ v L, cs = [v] ∧ RdO W v L ∧ ∀ i, i < L.length → (nthO L i).Raw := by
  have hc : Tryz.prog.cellsOf 35 = 11 := by kernel_rfl
  rcases DataW.trod_slice Tryz.underlying22 h with ⟨rfl, _⟩ | ⟨a, len, cap, elems, rest, m, _, rfl, _, hb, hl, hm, hlen, hel, _, _⟩
  · exact ⟨_, [], rfl, .inl ⟨none, 0, rfl, fun _ => rfl, rfl⟩, fun i hi => by cases hi⟩
  · have each : ∀ i, i < len → ∃ (o : Od) (pv : Value), o.Raw ∧ RdI W pv o.n o.F ∧ ∀ j y, (o.c pv).toList[j]? = some y → W.cell? (a.add (i * 11 + j)) = some y := by
      intro i hi
      have h1 := hel i hi
      have hy : elems[i]? = some elems[i] := List.getElem?_eq_getElem (by omega)
      rw [hc, hy, Option.bind_eq_some_iff] at h1
      obtain ⟨cs', hcs, hy'⟩ := h1
      obtain ⟨o, pv, rfl, e2, e3⟩ := trod_opG hy'
      have hcell := World.cells?_some hcs
      refine ⟨o, pv, e2, e3, fun j y hj => ?_⟩
      have hlt : j < 11 := by
        have := (List.getElem?_eq_some_iff.1 hj).1
        simpa [Od.c] using this
      have h2 := hcell.2.2 j hlt
      rw [addr_add_spot] at h2
      rw [h2]; exact hj
    have build : ∀ k, k ≤ len → ∃ L : List Od, L.length = k ∧ (∀ i, i < k → (nthO L i).Raw) ∧ ∀ i, i < k → ∃ pv, RdI W pv (nthO L i).n (nthO L i).F ∧ ∀ j y, ((nthO L i).c pv).toList[j]? = some y → W.cell? (a.add (i * 11 + j)) = some y := by
      intro k
      induction k with
      | zero => intro _; exact ⟨[], rfl, fun i hi => by omega, fun i hi => by omega⟩
      | succ k ih =>
        intro hk
        obtain ⟨L, f1, f2, f3⟩ := ih (by omega)
        obtain ⟨o, pv, k1, k2, k3⟩ := each k (by omega)
        have hlast : nthO (L ++ [o]) k = o := by rw [← f1]; exact nthO_last L o
        refine ⟨L ++ [o], by simp [f1], fun i hi => ?_, fun i hi => ?_⟩
        · rcases Nat.lt_or_ge i k with h | h
          · rw [nthO_pre _ _ _ (by omega)]; exact f2 i h
          · obtain rfl : i = k := by omega
            rw [hlast]; exact k1
        · rcases Nat.lt_or_ge i k with h | h
          · rw [nthO_pre _ _ _ (by omega)]; exact f3 i h
          · obtain rfl : i = k := by omega
            rw [hlast]; exact ⟨pv, k2, k3⟩
    obtain ⟨L, f1, f2, f3⟩ := build len (Nat.le_refl _)
    by_cases h0 : len = 0
    · subst h0
      obtain rfl : L = [] := List.eq_nil_of_length_eq_zero f1
      exact ⟨_, [], rfl, .inl ⟨some a, cap, rfl, (fun h => by cases h), rfl⟩, fun i hi => by cases hi⟩
    · obtain ⟨b, o, spot⟩ := a
      obtain ⟨pv0, _, h00⟩ := f3 0 (by omega)
      have hs0 := h00 0 _ rfl
      have hspot : spot = none := by simpa [Addr.add] using World.cell?_spot hs0
      subst hspot
      refine ⟨_, L, rfl, .inr ⟨b, o, cap, by rw [f1], by rw [f1]; exact hl, hm, World.block_lt_of_cell? _ _ hs0, fun i hi => ?_⟩, fun i hi => f2 i (by omega)⟩
      obtain ⟨pv, g1, g2⟩ := f3 i (by omega)
      refine ⟨pv, fun j y hj => ?_, g1⟩
      have := g2 j y hj
      rw [addr_add] at this
      rw [Nat.add_assoc]
      exact this
set_option maxRecDepth 10000 in
theorem open_graph {v : Value} {d : DataW H} {p : List MemPlace} {r : Reach} {b0 : Nat} (hv : Value.okWide Tryz.prog W r b0 41 v) (h : DataW.Trod enc Tryz.prog W 0 (fun _ => true) true 41 v d p) :
    ∃ (iv ov : Value) (n : Nat) (F : List Int) (L : List Od), v = .agg (gC iv ov) ∧ RdI W iv n F ∧ Bytes F ∧ RdO W ov L ∧ ∀ i, i < L.length → (nthO L i).Raw := by
  obtain ⟨cs, rfl, hsz⟩ := okWide_struct Tryz.underlying41 hv
  obtain ⟨fuel, hf⟩ := h
  obtain ⟨y0, y1, n, _, hl, e0, e1⟩ := trod_struct2 Tryz.underlying41 hf
  have kI : Tryz.prog.cellsOf 26 = 1 := by kernel_rfl
  have kO : Tryz.prog.cellsOf 22 = 1 := by kernel_rfl
  have hl' : cs.toList.length = 2 := hl.trans (by kernel_rfl)
  obtain ⟨l⟩ := cs
  match l, hl' with
  | [c0, c1], _ =>
    dsimp only at e0 e1
    rw [kI] at e0
    rw [kO] at e1
    simp only [Value.cells, List.drop_zero, List.take_succ_cons, List.take_zero, List.drop_succ_cons] at e0 e1
    obtain ⟨iv, m, F, a0, hF, hFb⟩ := trod_ids Tryz.underlying26 Tryz.underlying24 Tryz.underlying5 (by kernel_rfl) (by kernel_rfl) e0
    obtain ⟨ov, L, a1, hO, hraw⟩ := trod_opsG e1
    refine ⟨iv, ov, m, F, L, ?_, hF, hFb, hO, hraw⟩
    rw [(List.cons.inj a0).1, (List.cons.inj a1).1]
set_option maxRecDepth 10000 in
theorem open_id {v : Value} {d : DataW H} {p : List MemPlace} {r : Reach} {b0 : Nat} (hv : Value.okWide Tryz.prog W r b0 24 v) (h : DataW.Trod enc Tryz.prog W 0 (fun _ => true) true 24 v d p) :
    ∃ x : List Int, v = .agg (u8s x) ∧ x.length = 32 ∧ Bytes x := by
  obtain ⟨ks, rfl, h1, h2⟩ := open_arrI Tryz.underlying24 Tryz.underlying5 (by kernel_rfl) (by kernel_rfl) hv h
  exact ⟨ks, rfl, h1, bytes_of h2⟩
end
end Go.Proofs.YtnknkiiikeefgaaGreatDoor.wir.val

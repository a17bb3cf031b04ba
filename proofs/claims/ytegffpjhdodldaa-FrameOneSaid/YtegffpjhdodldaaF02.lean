/- Slices of slices of bytes: read, of one's own, appended to; appends of rows of any cells. -/
import Derived.Test.YtegffpjhdodldaaF01
import Derived.Test.YtegffpjhdodldaaLH
namespace Go
namespace Ytegffpjhdodldaa
open RowKit
/-- The value 'v' is a slice of slices of bytes that reads as 'L'. -/
def RdS (w : World) (v : Value) (L : List (List Int)) : Prop :=
  (∃ a c, v = .slice a 0 c ∧ (a = none → c = 0) ∧ L = []) ∨ ∃ b o c, v = .slice (some ⟨b, o, none⟩) L.length c ∧ L.length ≤ c ∧ c ≤ maxLen ∧ b < w.heap.size ∧ ∀ i, i < L.length → ∃ s, w.cell? ⟨b, o + i, none⟩ = some s ∧ RdB w s (nthL L i)
theorem RdS.mono {w w' : World} {v : Value} {L : List (List Int)} (h : RdS w v L) (hb : Below w.heap.size w w') : RdS w' v L := by
  rcases h with h | ⟨b, o, c, hv, h1, h2, h3, h4⟩
  · exact .inl h
  · refine .inr ⟨b, o, c, hv, h1, h2, Nat.lt_of_lt_of_le h3 hb.size, fun i hi => ?_⟩
    obtain ⟨s, hs, hr⟩ := h4 i hi
    exact ⟨s, (hb.cell (p := (⟨b, o + i, none⟩ : Addr)) h3).trans hs, hr.mono hb⟩
theorem RdS.slice {w : World} {v : Value} {L : List (List Int)} (h : RdS w v L) : ∃ a c, v = .slice a L.length c := by
  rcases h with ⟨a, c, rfl, _, rfl⟩ | ⟨b, o, c, hv, _⟩
  · exact ⟨a, c, rfl⟩
  · exact ⟨_, c, hv⟩
theorem RdS.at {w : World} {a : Option Addr} {n c : Nat} {L : List (List Int)} (h : RdS w (.slice a n c) L) (i : Nat) (hi : i < L.length) : ∃ b o, a = some ⟨b, o, none⟩ ∧ b < w.heap.size ∧ ∃ s, w.cell? ⟨b, o + i, none⟩ = some s ∧ RdB w s (nthL L i) := by
  rcases h with ⟨_, _, _, _, rfl⟩ | ⟨b, o, c', hv, h1, h2, h3, h4⟩
  · exact absurd hi (Nat.not_lt_zero _)
  · cases hv
    exact ⟨b, o, rfl, h3, h4 i hi⟩
theorem RdS.nil (w : World) : RdS w (.slice none 0 0) [] := .inl ⟨none, 0, rfl, fun _ => rfl, rfl⟩
/-- The value reads as these strings in every world that has kept the blocks from 'base' on. -/
def HeldS (base : Nat) (w : World) (v : Value) (L : List (List Int)) : Prop := ∀ wx : World, (∀ k, base ≤ k → k < w.heap.size → wx.heap[k]? = w.heap[k]?) → w.heap.size ≤ wx.heap.size → RdS wx v L
theorem heldS_nil (base : Nat) (w : World) : HeldS base w (.slice none 0 0) [] := fun wx _ _ => RdS.nil wx
theorem heldS_mono {base : Nat} {w w' : World} {v : Value} {L : List (List Int)} (h : HeldS base w v L) (hb : Below w.heap.size w w') : HeldS base w' v L := fun wx h1 h2 =>
  h wx (fun k k1 k2 => (h1 k k1 (Nat.lt_of_lt_of_le k2 hb.size)).trans (hb.block k k2)) (Nat.le_trans hb.size h2)
theorem heldS_lower {base B : Nat} {w : World} {v : Value} {L : List (List Int)} (h : HeldS B w v L) (hb : base ≤ B) : HeldS base w v L := fun wx h1 h2 => h wx (fun k k1 k2 => h1 k (Nat.le_trans hb k1) k2) h2
theorem heldS_rd {base : Nat} {w : World} {v : Value} {L : List (List Int)} (h : HeldS base w v L) : RdS w v L := h w (fun _ _ _ => rfl) (Nat.le_refl _)
theorem heldB_rd {base : Nat} {w : World} {v : Value} {l : List Int} (h : HeldB base w v l) : RdB w v l := h w (fun _ _ _ => rfl) (Nat.le_refl _)
theorem heldI_rd {base : Nat} {w : World} {v : Value} {n : Nat} {F : List Int} (h : HeldI base w v n F) : RdI w v n F := h w (fun _ _ _ => rfl) (Nat.le_refl _)
theorem owns_kept {base : Nat} {e : TypeId} {size : Nat} {w w' : World} {v : Value} {n : Nat} {xs : List Value} (h : w.ownsRow base e size v n xs) (hb : Below w.heap.size w w') : w'.ownsRow base e size v n xs := by
  refine ⟨h.1, ?_⟩
  rcases h.2 with hn | ⟨g, cap, cur, rfl, hbg, hg, rest⟩
  · exact .inl hn
  · exact .inr ⟨g, cap, cur, rfl, hbg, (hb.block g (Array.getElem?_eq_some_iff.1 hg).1).trans hg, rest⟩
theorem owns_same {base : Nat} {e : TypeId} {size : Nat} {w w' : World} {v : Value} {n : Nat} {xs : List Value} (h : w.ownsRow base e size v n xs) (h1 : ∀ k, base ≤ k → k < w.heap.size → w'.heap[k]? = w.heap[k]?) : w'.ownsRow base e size v n xs := by
  refine ⟨h.1, ?_⟩
  rcases h.2 with hn | ⟨g, cap, cur, rfl, hbg, hg, rest⟩
  · exact .inl hn
  · exact .inr ⟨g, cap, cur, rfl, hbg, (h1 g hbg (Array.getElem?_eq_some_iff.1 hg).1).trans hg, rest⟩
theorem owns_ne {w : World} {B B' : Nat} {e e' : TypeId} {z z' n n' : Nat} {v v' : Value} {xs xs' : List Value} (h : w.ownsRow B e z v n xs) (h' : w.ownsRow B' e' z' v' n' xs') (hne : e ≠ e') : v.ownBlock = none ∨ v.ownBlock ≠ v'.ownBlock := by
  rcases h.2 with ⟨rfl, _⟩ | ⟨g, cap, cur, rfl, _, hg, _⟩
  · exact .inl rfl
  · refine .inr fun heq => ?_
    rcases h'.2 with ⟨rfl, _⟩ | ⟨g', cap', cur', rfl, _, hg', _⟩
    · cases heq
    · obtain rfl : g = g' := Option.some.inj heq
      rw [hg] at hg'
      cases hg'
      exact hne rfl
theorem nthL_pre0 (L M : List (List Int)) (i : Nat) (h : i < L.length) : nthL (L ++ M) i = nthL L i := by
  unfold nthL
  rw [List.getElem?_append_left h]
theorem nthL_last0 (L : List (List Int)) (s : List Int) : nthL (L ++ [s]) L.length = s := by
  unfold nthL
  simp
/-- A slice of strings that is the call's own, each string too. -/
def OwnL (B : Nat) (T8 TS : TypeId) (w : World) (v : Value) (L : List (List Int)) : Prop :=
  ∃ vs : List Value, vs.length = L.length ∧ w.ownsRow B TS 1 v vs.length vs ∧ ∀ i, i < L.length → ∃ s, vs[i]? = some s ∧ OwnB B T8 w s (nthL L i)
theorem OwnL.nil (w : World) (B : Nat) (T8 TS : TypeId) : OwnL B T8 TS w (.slice none 0 0) [] := ⟨[], rfl, World.ownsRow_nil w B TS 1, fun i hi => absurd hi (Nat.not_lt_zero _)⟩
theorem OwnL.rd {B : Nat} {T8 TS : TypeId} {w : World} {v : Value} {L : List (List Int)} (h : OwnL B T8 TS w v L) : RdS w v L := by
  obtain ⟨vs, hl, ho, hs⟩ := h
  rcases ho.2 with ⟨rfl, h0⟩ | ⟨g, cap, cur, rfl, hb, hg, hn, hm, hz, ht⟩
  · exact .inl ⟨none, 0, rfl, fun _ => rfl, List.eq_nil_of_length_eq_zero (hl.symm.trans h0)⟩
  · refine .inr ⟨g, 0, cap, by rw [hl], by omega, hm, (Array.getElem?_eq_some_iff.1 hg).1, fun i hi => ?_⟩
    obtain ⟨s, h1, h2⟩ := hs i hi
    have hcell := World.ownsRow.cells (g := g) ho rfl i s h1
    rw [addr_add] at hcell
    exact ⟨s, hcell, h2.rd⟩
theorem OwnL.kept {B : Nat} {T8 TS : TypeId} {w w' : World} {v : Value} {L : List (List Int)} (h : OwnL B T8 TS w v L) (hb : Below w.heap.size w w') : OwnL B T8 TS w' v L := by
  obtain ⟨vs, hl, ho, hs⟩ := h
  refine ⟨vs, hl, owns_kept ho hb, fun i hi => ?_⟩
  obtain ⟨s, h1, h2⟩ := hs i hi
  exact ⟨s, h1, h2.kept hb⟩
theorem OwnL.mono {B B' : Nat} {T8 TS : TypeId} {w : World} {v : Value} {L : List (List Int)} (h : OwnL B T8 TS w v L) (hB : B' ≤ B) : OwnL B' T8 TS w v L := by
  obtain ⟨vs, hl, ho, hs⟩ := h
  refine ⟨vs, hl, ⟨ho.1, ?_⟩, fun i hi => ?_⟩
  · rcases ho.2 with hn | ⟨g, cap, cur, rfl, hbg, rest⟩
    · exact .inl hn
    · exact .inr ⟨g, cap, cur, rfl, Nat.le_trans hB hbg, rest⟩
  · obtain ⟨s, h1, h2⟩ := hs i hi
    exact ⟨s, h1, h2.mono hB⟩
theorem OwnL.held {B : Nat} {T8 TS : TypeId} {w : World} {v : Value} {L : List (List Int)} (h : OwnL B T8 TS w v L) : HeldS B w v L := fun wx h1 _ => by
  obtain ⟨vs, hl, ho, hs⟩ := h
  refine OwnL.rd (B := B) (T8 := T8) (TS := TS) ⟨vs, hl, owns_same ho h1, fun i hi => ?_⟩
  obtain ⟨s, k1, k2⟩ := hs i hi
  exact ⟨s, k1, owns_same k2 h1⟩
theorem OwnL.below {B : Nat} {T8 TS : TypeId} {w w' : World} {v : Value} {L : List (List Int)} (h : OwnL B T8 TS w v L) (hg : w.grownBy w' v.ownBlock) (hb : B ≤ w.heap.size) : Below B w w' := by
  obtain ⟨vs, hl, ho, hs⟩ := h
  exact Below.grown (Below.refl B w) hg hb (fun k hk => (World.ownsRow.lt ho k hk).1)
theorem OwnL.slice {B : Nat} {T8 TS : TypeId} {w : World} {v : Value} {L : List (List Int)} (h : OwnL B T8 TS w v L) : ∃ a c, v = .slice a L.length c := h.rd.slice
section
variable {P : Program}
theorem run_appendL (w : World) (B : Nat) (T8 : TypeId) (t ty e : TypeId) (ht : P.underlying t = some (.slice e)) (hinfo : (P.info? e).map (fun i => (i.zero, i.size, i.bytes)) = some (some (.slice none 0 0), 1, 24)) (hne : T8 ≠ e)
    (v : Value) (L : List (List Int)) (hown : OwnL B T8 e w v L) (g c : Nat) (s : Value) (E : TypeId) (hrow : w.heap[g]? = some (.cells #[s] E (0, 0))) (l : List Int) (hs : OwnB B T8 w s l) (hlen : L.length ≤ 1000000) (hbase : B ≤ w.heap.size) :
    ∃ v' w', (Builtin.append_ #[t, t] ty #[v, .slice (some ⟨g, 0, none⟩) 1 c]).run P w = .ok v' w' ∧ OwnL B T8 e w' v' (L ++ [l]) ∧ w.grownBy w' v.ownBlock ∧ Below B w w' := by
  obtain ⟨i, hi, hz, hsz, hb⟩ := info_parts hinfo
  have hown0 := hown
  obtain ⟨vs, hl, ho, hss⟩ := hown
  obtain ⟨sa, sc, rfl⟩ := hs.rd.slice
  obtain ⟨v', w', hrun, h2, h3, _⟩ := run_append_own (P := P) w B t ty e i (.slice none 0 0) 1 24 ht hi hz hsz hb rfl (by omega) v vs.length vs ho ⟨g, 0, none⟩ 1 c [.slice sa l.length sc]
    rfl (fun j u hu => by
      match j, hu with
      | 0, hu =>
        obtain rfl := Option.some.inj hu
        rw [addr_add, cell_of_row _ _ _ _ _ _ hrow]
        rfl) (fun u hu => by obtain rfl := List.mem_singleton.1 hu; rfl) (by unfold maxLen; omega) (by omega) hbase
  refine ⟨v', w', hrun, ⟨vs ++ [.slice sa l.length sc], by simp [hl], by rw [List.length_append]; exact h2, fun j hj => ?_⟩, h3, hown0.below h3 hbase⟩
  rw [List.length_append, List.length_singleton] at hj
  rcases Nat.lt_or_ge j L.length with h | h
  · obtain ⟨s', k1, k2⟩ := hss j h
    refine ⟨s', by rw [List.getElem?_append_left (by omega)]; exact k1, ?_⟩
    rw [nthL_pre0 _ _ _ h]
    exact World.ownsRow.kept k2 h3 (owns_ne k2 ho hne)
  · obtain rfl : j = L.length := by omega
    refine ⟨.slice sa l.length sc, by rw [← hl]; simp, ?_⟩
    rw [nthL_last0]
    exact World.ownsRow.kept hs h3 (owns_ne hs ho hne)
theorem appendL {ops : Array Oper} {rest : List Oper} {o : Oper} {a : Act} {w : World} {Q : Exit → Act → World → Prop} (hgd : o.guard = none) (s x : Operand) (t : TypeId)
    (ho : o.op = .call { callee := .builtin .append, args := #[s, x], argTypes := #[t, t] })
    (B : Nat) (T8 e : TypeId) (ht : P.underlying t = some (.slice e)) (hinfo : (P.info? e).map (fun i => (i.zero, i.size, i.bytes)) = some (some (.slice none 0 0), 1, 24)) (hne : T8 ≠ e)
    (v : Value) (hs : a.eval s = v) (L : List (List Int)) (hown : OwnL B T8 e w v L) (g c : Nat) (hx : a.eval x = .slice (some ⟨g, 0, none⟩) 1 c) (u : Value) (E : TypeId) (hrow : w.heap[g]? = some (.cells #[u] E (0, 0))) (l : List Int) (hu : OwnB B T8 w u l) (hlen : L.length ≤ 1000000) (hbase : B ≤ w.heap.size)
    (h : ∀ v' w', OwnL B T8 e w' v' (L ++ [l]) → Below B w w' → Stop (wpList P ops Q rest (a.put o.dst v') w')) : wpList P ops Q (o :: rest) a w := by
  refine wpList_plain hgd fun K hK => ?_
  obtain ⟨v', w', hrun, h2, _, h4⟩ := run_appendL (P := P) w B T8 t o.type e ht hinfo hne v L hown g c u E hrow l hu hlen hbase
  unfold Oper.wp execOp
  simp only [ho, resolve, invoke, builtin, Sem.run_bind, Sem.run_pure, Result.andThen_ok, List.map_toArray, List.map_cons, List.map_nil, hs, hx, hrun]
  exact hK _ _ (h v' w' h2 h4).out
theorem step_appendL {ops : Array Oper} {o : Oper} {a : Act} {w : World} {K : Act → World → Prop} {Q : Exit → Act → World → Prop} {Z : Prop} (hgd : o.guard = none) (s x : Operand) (t : TypeId)
    (ho : o.op = .call { callee := .builtin .append, args := #[s, x], argTypes := #[t, t] })
    (B : Nat) (T8 e : TypeId) (ht : P.underlying t = some (.slice e)) (hinfo : (P.info? e).map (fun i => (i.zero, i.size, i.bytes)) = some (some (.slice none 0 0), 1, 24)) (hne : T8 ≠ e)
    (v : Value) (hs : a.eval s = v) (L : List (List Int)) (hown : OwnL B T8 e w v L) (g c : Nat) (hx : a.eval x = .slice (some ⟨g, 0, none⟩) 1 c) (u : Value) (E : TypeId) (hrow : w.heap[g]? = some (.cells #[u] E (0, 0))) (l : List Int) (hu : OwnB B T8 w u l) (hlen : L.length ≤ 1000000) (hbase : B ≤ w.heap.size)
    (h : ∀ v' w', OwnL B T8 e w' v' (L ++ [l]) → Below B w w' → K (a.put o.dst v') w') :
    if Region.wanted o (yielded ops a.tmps) = true then Oper.wp P o a w K Q else Z := by
  have hw : Region.wanted o (yielded ops a.tmps) = true := by simp [Region.wanted, hgd]
  rw [if_pos hw]
  obtain ⟨v', w', hrun, h2, _, h4⟩ := run_appendL (P := P) w B T8 t o.type e ht hinfo hne v L hown g c u E hrow l hu hlen hbase
  unfold Oper.wp execOp
  simp only [ho, resolve, invoke, builtin, Sem.run_bind, Sem.run_pure, Result.andThen_ok, List.map_toArray, List.map_cons, List.map_nil, hs, hx, hrun]
  exact h v' w' h2 h4
theorem appendG {ops : Array Oper} {rest : List Oper} {o : Oper} {a : Act} {w : World} {Q : Exit → Act → World → Prop} (hgd : o.guard = none) (s x : Operand) (t : TypeId)
    (ho : o.op = .call { callee := .builtin .append, args := #[s, x], argTypes := #[t, t] })
    (B : Nat) (e : TypeId) (S bytes : Nat) (z : Value) (ht : P.underlying t = some (.slice e)) (hinfo : (P.info? e).map (fun i => (i.zero, i.size, i.bytes)) = some (some z, S, bytes)) (hzs : z.cells.size = S) (hS : 0 < S) (hby : bytes ≤ 1000)
    (v : Value) (hs : a.eval s = v) (n : Nat) (xs : List Value) (hown : w.ownsRow B e S v n xs) (g m c : Nat) (hx : a.eval x = .slice (some ⟨g, 0, none⟩) m c) (news : Array Value) (hnl : news.size = m * S) (E : TypeId) (hrow : w.heap[g]? = some (.cells news E (0, 0)))
    (h1 : news.all (·.oneCell') = true) (hlen : n + m ≤ 1000000) (hbase : B ≤ w.heap.size)
    (h : ∀ v' w', w'.ownsRow B e S v' (n + m) (xs ++ news.toList) → w.grownBy w' v.ownBlock → Below B w w' → Stop (wpList P ops Q rest (a.put o.dst v') w')) : wpList P ops Q (o :: rest) a w := by
  refine wpList_plain hgd fun K hK => ?_
  obtain ⟨i, hi, hz, hsz, hb⟩ := info_parts hinfo
  obtain ⟨v', w', hrun, h2, h3, _⟩ := run_append_own (P := P) w B t o.type e i z S bytes ht hi hz hsz hb hzs hS v n xs hown ⟨g, 0, none⟩ m c news.toList
    (by rw [Array.length_toList]; exact hnl) (fun j u hu => by
      rw [addr_add, Nat.zero_add, cell_of_row _ _ _ _ _ _ hrow, ← Array.getElem?_toList]; exact hu) (fun u hu => by
      rw [Array.all_eq_true'] at h1
      exact h1 u (Array.mem_toList_iff.1 hu)) (by unfold maxLen; omega) (Nat.le_trans (Nat.mul_le_mul hlen hby) (by decide)) hbase
  unfold Oper.wp execOp
  simp only [ho, resolve, invoke, builtin, Sem.run_bind, Sem.run_pure, Result.andThen_ok, List.map_toArray, List.map_cons, List.map_nil, hs, hx, hrun]
  exact hK _ _ (h v' w' h2 h3 (Below.grown (Below.refl B w) h3 hbase (fun k hk => (World.ownsRow.lt hown k hk).1))).out
end
end Ytegffpjhdodldaa
end Go

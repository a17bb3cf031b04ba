/- Laws on slices of bytes, over any program: append, copy and make, said of lists of bytes. -/
import Derived.Test.YtfncepfjnljhlaaDoorM01
import Derived.Test.YtfncepfjnljhlaaDoorLib
import Derived.Laws.AppendOwnNone
import Derived.Deep.RegionLaw
namespace Go
namespace YtfncepfjnljhlaaDoor
open RowKit
def u8v (l : List Int) : List Value := l.map (Value.int .u8)
theorem u8v_length (l : List Int) : (u8v l).length = l.length := by simp [u8v]
theorem u8v_append (l m : List Int) : u8v (l ++ m) = u8v l ++ u8v m := by simp [u8v]
theorem u8v_get (l : List Int) (j : Nat) (h : j < l.length) : (u8v l)[j]? = some (.int .u8 (ith l j)) := by simp [u8v, ith, h]
theorem u8s_eq (l : List Int) : u8s l = (u8v l).toArray := rfl
theorem u8v_one (l : List Int) : ∀ u ∈ u8v l, u.oneCell' = true := by
  intro u hu; simp [u8v] at hu; obtain ⟨x, _, rfl⟩ := hu; rfl
theorem addr_add (b o j : Nat) : (⟨b, o, none⟩ : Addr).add j = ⟨b, o + j, none⟩ := by unfold Addr.add; split <;> simp_all
/-- The slice value 'v' is the call's own (blocks from 'base' on), and reads as the bytes 'l'. -/
def OwnB (base : Nat) (E : TypeId) (w : World) (v : Value) (l : List Int) : Prop := w.ownsRow base E 1 v l.length (u8v l)
theorem OwnB.nil (w : World) (base : Nat) (E : TypeId) : OwnB base E w (.slice none 0 0) [] := World.ownsRow_nil w base E 1
theorem OwnB.rd {base : Nat} {E : TypeId} {w : World} {v : Value} {l : List Int} (h : OwnB base E w v l) : RdB w v l := by
  rcases h.2 with ⟨rfl, h0⟩ | ⟨g, cap, cur, rfl, hb, hg, hn, hm, hs, ht⟩
  · exact .inl ⟨none, 0, rfl, fun _ => rfl, List.eq_nil_of_length_eq_zero h0⟩
  · refine .inr ⟨g, 0, cap, rfl, hn, hm, (Array.getElem?_eq_some_iff.1 hg).1, fun i hi => ?_⟩
    have hcell := World.ownsRow.cells (g := g) h rfl i _ (u8v_get l i hi)
    rw [addr_add] at hcell
    exact hcell
theorem OwnB.kept {base : Nat} {E : TypeId} {w w' : World} {v : Value} {l : List Int} (h : OwnB base E w v l) (hb : Below w.heap.size w w') : OwnB base E w' v l := by
  refine ⟨h.1, ?_⟩
  rcases h.2 with hn | ⟨g, cap, cur, rfl, hbg, hg, rest⟩
  · exact .inl hn
  · exact .inr ⟨g, cap, cur, rfl, hbg, (hb.block g (Array.getElem?_eq_some_iff.1 hg).1).trans hg, rest⟩
theorem RdB.src {w : World} {b o : Nat} {l : List Int} (h : ∀ i, i < l.length → w.cell? ⟨b, o + i, none⟩ = some (.int .u8 (ith l i))) :
    ∀ j u, (u8v l)[j]? = some u → w.cell? ((⟨b, o, none⟩ : Addr).add j) = some u := by
  intro j u hu
  have hj : j < l.length := by
    rcases Nat.lt_or_ge j l.length with h' | h'
    · exact h'
    · simp [u8v, List.getElem?_eq_none h'] at hu
  rw [u8v_get l j hj] at hu
  rw [addr_add, h j hj]; exact hu
set_option maxHeartbeats 1000000 in
theorem set10_world {w : World} {g : Nat} {a0 a1 a2 a3 a4 a5 a6 a7 a8 a9 x0 x1 x2 x3 x4 x5 x6 x7 x8 x9 : Value} {T : TypeId} (hg : w.heap[g]? = some (.cells #[a0, a1, a2, a3, a4, a5, a6, a7, a8, a9] T (0, 0))) :
    ((((((((((w.setCell ⟨g, 0, none⟩ x0).setCell ⟨g, 1, none⟩ x1).setCell ⟨g, 2, none⟩ x2).setCell ⟨g, 3, none⟩ x3).setCell ⟨g, 4, none⟩ x4).setCell ⟨g, 5, none⟩ x5).setCell ⟨g, 6, none⟩ x6).setCell ⟨g, 7, none⟩ x7).setCell ⟨g, 8, none⟩ x8).setCell ⟨g, 9, none⟩ x9) = w.setRow g #[x0, x1, x2, x3, x4, x5, x6, x7, x8, x9] := by
  have h := fun c => setRow_heap w g #[a0, a1, a2, a3, a4, a5, a6, a7, a8, a9] c T (0, 0) hg
  rw [setCell_eq hg]
  rw [setCell_eq (h _), setRow2 hg]
  rw [setCell_eq (h _), setRow2 hg]
  rw [setCell_eq (h _), setRow2 hg]
  rw [setCell_eq (h _), setRow2 hg]
  rw [setCell_eq (h _), setRow2 hg]
  rw [setCell_eq (h _), setRow2 hg]
  rw [setCell_eq (h _), setRow2 hg]
  rw [setCell_eq (h _), setRow2 hg]
  rw [setCell_eq (h _), setRow2 hg]
  simp only [List.setIfInBounds_toArray, List.set_cons_succ, List.set_cons_zero]
theorem ownB_setRow {base B : Nat} {E : TypeId} {w : World} {v : Value} {l : List Int} (h : OwnB base E w v l) {g : Nat} (hB : B ≤ base) (hg : g < base) (cs : Array Value) : OwnB B E (w.setRow g cs) v l := by
  refine ⟨h.1, ?_⟩
  rcases h.2 with hn | ⟨k, cap, cur, rfl, hbg, hk, rest⟩
  · exact .inl hn
  · exact .inr ⟨k, cap, cur, rfl, Nat.le_trans hB hbg, (setRow_other w g k cs (by omega)).trans hk, rest⟩
/-- A place at which the walk stops, so that facts on the new world can be laid. -/
def Stop (p : Prop) : Prop := p
theorem Stop.go {p : Prop} (h : p) : Stop p := h
theorem Stop.out {p : Prop} (h : Stop p) : p := h
theorem OwnB.below {base : Nat} {E : TypeId} {w w' : World} {v : Value} {l : List Int} (h : OwnB base E w v l) (hg : w.grownBy w' v.ownBlock) (hb : base ≤ w.heap.size) : Below base w w' :=
  Below.grown (Below.refl base w) hg hb (fun k hk => (World.ownsRow.lt h k hk).1)
theorem OwnB.mono {base B : Nat} {E : TypeId} {w : World} {v : Value} {l : List Int} (h : OwnB base E w v l) (hB : B ≤ base) : OwnB B E w v l := by
  refine ⟨h.1, ?_⟩
  rcases h.2 with hn | ⟨g, cap, cur, rfl, hbg, rest⟩
  · exact .inl hn
  · exact .inr ⟨g, cap, cur, rfl, Nat.le_trans hB hbg, rest⟩
section
variable {P : Program}
theorem run_appendB (w : World) (base : Nat) (t ty e : TypeId) (ht : P.underlying t = some (.slice e)) (hinfo : (P.info? e).map (fun i => (i.zero, i.size, i.bytes)) = some (some (.int .u8 0), 1, 1))
    (v : Value) (l : List Int) (hown : OwnB base e w v l) (sv : Value) (r : List Int) (hr : RdB w sv r) (hlen : l.length + r.length ≤ 140737488355328) (hbase : base ≤ w.heap.size) :
    ∃ v' w', (Builtin.append_ #[t, t] ty #[v, sv]).run P w = .ok v' w' ∧ OwnB base e w' v' (l ++ r) ∧ w.grownBy w' v.ownBlock := by
  obtain ⟨i, hi, hz, hs, hb⟩ := info_parts hinfo
  rcases hr with ⟨sa, sc, rfl, hsn, rfl⟩ | ⟨b, o, c, rfl, h1, h2, h3, h4⟩
  · cases sa with
    | some sa =>
      obtain ⟨v', w', hrun, ho, hg, _⟩ := run_append_own (P := P) w base t ty e i (.int .u8 0) 1 1 ht hi hz hs hb rfl (by omega) v l.length (u8v l) hown sa 0 sc (u8v [])
        (by rw [u8v_length]; rfl) (fun k x hx => by cases hx) (u8v_one []) (by unfold maxLen; simp at hlen ⊢; omega) (by simp at hlen ⊢; omega) hbase
      refine ⟨v', w', hrun, ?_, hg⟩
      unfold OwnB
      rw [List.append_nil]
      simpa [u8v] using ho
    | none =>
    obtain rfl := hsn rfl
    refine ⟨v, w, run_append_owned_none (P := P) (w := w) base t ty e i 1 ht hi v l.length (u8v l) hown, ?_, ⟨rfl, rfl, rfl, Nat.le_refl _, fun _ _ _ => rfl⟩⟩
    rw [List.append_nil]; exact hown
  · obtain ⟨v', w', hrun, ho, hg, _⟩ := run_append_own (P := P) w base t ty e i (.int .u8 0) 1 1 ht hi hz hs hb rfl (by omega) v l.length (u8v l) hown ⟨b, o, none⟩ r.length c (u8v r)
      (by rw [u8v_length]; omega) (RdB.src h4) (u8v_one r) (by unfold maxLen; omega) (by omega) hbase
    refine ⟨v', w', hrun, ?_, hg⟩
    unfold OwnB
    rw [List.length_append, u8v_append]; exact ho
theorem appendB {ops : Array Oper} {rest : List Oper} {o : Oper} {a : Act} {w : World} {Q : Exit → Act → World → Prop} (hgd : o.guard = none) (s x : Operand) (t : TypeId)
    (ho : o.op = .call { callee := .builtin .append, args := #[s, x], argTypes := #[t, t] })
    (base : Nat) (e : TypeId) (ht : P.underlying t = some (.slice e)) (hinfo : (P.info? e).map (fun i => (i.zero, i.size, i.bytes)) = some (some (.int .u8 0), 1, 1))
    (v : Value) (hs : a.eval s = v) (l : List Int) (hown : OwnB base e w v l) (sv : Value) (hx : a.eval x = sv) (r : List Int) (hr : RdB w sv r) (hlen : l.length + r.length ≤ 140737488355328) (hbase : base ≤ w.heap.size)
    (h : ∀ v' w', OwnB base e w' v' (l ++ r) → w.grownBy w' v.ownBlock → Stop (wpList P ops Q rest (a.put o.dst v') w')) : wpList P ops Q (o :: rest) a w := by
  refine wpList_plain hgd fun K hK => ?_
  obtain ⟨v', w', hrun, h2, h3⟩ := run_appendB (P := P) w base t o.type e ht hinfo v l hown sv r hr hlen hbase
  unfold Oper.wp execOp
  simp only [ho, resolve, invoke, builtin, Sem.run_bind, Sem.run_pure, Result.andThen_ok, List.map_toArray, List.map_cons, List.map_nil, hs, hx, hrun]
  exact hK _ _ (h v' w' h2 h3).out
theorem step_appendB {ops : Array Oper} {o : Oper} {a : Act} {w : World} {K : Act → World → Prop} {Q : Exit → Act → World → Prop} {E : Prop} (hgd : o.guard = none) (s x : Operand) (t : TypeId)
    (ho : o.op = .call { callee := .builtin .append, args := #[s, x], argTypes := #[t, t] })
    (base : Nat) (e : TypeId) (ht : P.underlying t = some (.slice e)) (hinfo : (P.info? e).map (fun i => (i.zero, i.size, i.bytes)) = some (some (.int .u8 0), 1, 1))
    (v : Value) (hs : a.eval s = v) (l : List Int) (hown : OwnB base e w v l) (sv : Value) (hx : a.eval x = sv) (r : List Int) (hr : RdB w sv r) (hlen : l.length + r.length ≤ 140737488355328) (hbase : base ≤ w.heap.size)
    (h : ∀ v' w', OwnB base e w' v' (l ++ r) → w.grownBy w' v.ownBlock → K (a.put o.dst v') w') :
    if Region.wanted o (yielded ops a.tmps) = true then Oper.wp P o a w K Q else E := by
  have hw : Region.wanted o (yielded ops a.tmps) = true := by simp [Region.wanted, hgd]
  rw [if_pos hw]
  obtain ⟨v', w', hrun, h2, h3⟩ := run_appendB (P := P) w base t o.type e ht hinfo v l hown sv r hr hlen hbase
  unfold Oper.wp execOp
  simp only [ho, resolve, invoke, builtin, Sem.run_bind, Sem.run_pure, Result.andThen_ok, List.map_toArray, List.map_cons, List.map_nil, hs, hx, hrun]
  exact h v' w' h2 h3
/-- 'make([]byte, l, c)', of numbers. -/
def zerosB (n : Nat) : List Int := List.replicate n 0
theorem zerosB_length (n : Nat) : (zerosB n).length = n := by simp [zerosB]
theorem madeCells_bytes (n : Nat) : madeCells #[Value.int .u8 0] n = u8s (zerosB n) := by
  apply Array.ext'
  rw [toList_madeCells_one]
  simp [u8s, zerosB]
theorem run_makeB (w : World) (t e : TypeId) (ht : P.underlying t = some (.slice e)) (hinfo : (P.info? e).map (fun i => (i.zero, i.size, i.bytes)) = some (some (.int .u8 0), 1, 1))
    (l c : Nat) (hlc : l ≤ c) (hc : c ≤ 140737488355328) :
    (Instr.makeSlice t (.int .i64 (l : Int)) (.int .i64 (c : Int))).run P w = .ok (.slice (some ⟨w.heap.size, 0, none⟩) l c) (w.alloc (.cells (u8s (zerosB c)) e)) := by
  obtain ⟨i, hi, hz, hs, hb⟩ := info_parts hinfo
  have h := run_make (P := P) w t e i (.int .u8 0) ht hi hz .i64 .i64 (l : Int) (c : Int) (by omega) (by omega) (by rw [hb]; omega) (by omega)
  rw [h, hs]
  simp only [Int.toNat_natCast, Nat.mul_one, Value.cells]
  rw [madeCells_bytes]
def overlay (cs : List Int) (off : Nat) (r : List Int) : List Int := cs.take off ++ (r ++ cs.drop (off + r.length))
theorem copyB {ops : Array Oper} {rest : List Oper} {o : Oper} {a : Act} {w : World} {Q : Exit → Act → World → Prop} (hgd : o.guard = none) (d s : Operand) (dT sT : TypeId)
    (ho : o.op = .call { callee := .builtin .copy, args := #[d, s], argTypes := #[dT, sT] }) (elem : TypeId) (hu : P.underlying dT = some (.slice elem)) (hsz : (P.info? elem).map (·.size) = some 1)
    (g off dLen dCap : Nat) (hd : a.eval d = .slice (some ⟨g, off, none⟩) dLen dCap) (sv : Value) (hs : a.eval s = sv) (r : List Int) (hr : RdB w sv r)
    (cs : List Int) (t : TypeId) (hg : w.heap[g]? = some (.cells (u8s cs) t (0, 0))) (hle : r.length ≤ dLen) (hfit : off + r.length ≤ cs.length)
    (h : ∀ w', Hid (w' = w.setRow g (u8s (overlay cs off r))) → Stop (wpList P ops Q rest (a.put o.dst (goInt r.length)) w')) : wpList P ops Q (o :: rest) a w := by
  have h := (h _ (show _ = _ from rfl)).out
  rcases hr with ⟨sa, sc, rfl, _, rfl⟩ | ⟨b, o', c, rfl, h1, h2, h3, h4⟩
  · refine wpList_copy_nothing hgd d s dT sT ho elem hu hsz _ _ _ _ _ _ hd hs (Nat.zero_min _) ?_
    have : w.setRow g (u8s (overlay cs off [])) = w := by
      have e : overlay cs off [] = cs := by simp [overlay]
      rw [e]; exact setRow_self w g _ t _ hg
    rw [this] at h; exact h
  · refine wpList_copy_own hgd d s dT sT ho elem hu hsz g off dLen dCap ⟨b, o', none⟩ r.length c hd hs (u8s cs) t hg (u8v r) (by rw [u8v_length]; exact (Nat.min_eq_left hle).symm) (RdB.src h4) (by rw [u8v_length, u8s_size]; exact hfit) (u8v_one r) ?_
    rw [u8v_length]
    have e : ((u8s cs).toList.take off ++ (u8v r ++ (u8s cs).toList.drop (off + r.length))).toArray = u8s (overlay cs off r) := by
      simp [u8s, u8v, overlay]
    rw [e]; exact h
end
end YtfncepfjnljhlaaDoor
end Go

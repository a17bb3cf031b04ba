/- LibE Arrays of words that are compared. Laws on slices of 32-bit numbers, over any program: append, said of lists of numbers. -/
import Derived.Test.YtegffpjhdodldaaD01h
import Derived.Test.YtegffpjhdodldaaLibB
namespace Go
namespace Ytegffpjhdodldaa
theorem run_partB {P : Program} (w : World) (e : TypeId) (he : P.underlying e = some (.int .u8)) (l : List Int) (i : Nat) (h : i < l.length) : (part e (u8s l) i).run P w = .ok (.int .u8 (ith l i)) w := by
  simp [part, isAgg, run_underlying he, u8s_get l i h]
theorem eqLoop {P : Program} (w : World) (d elem : Nat) (he : P.underlying elem = some (.int .u8)) (a b : List Int) (n : Nat) (ha : a.length = n) (hb : b.length = n) : ∀ m i, i + m = n →
    (forIn (List.range' i m) ((none, ()) : Option Bool × Unit) fun i __s => do
              let __do_lift ← part elem (u8s a) (i * 1)
              let __do_lift_1 ← part elem (u8s b) (i * 1)
              let __do_lift ← Op.equalIn (d + 1) elem __do_lift __do_lift_1
              if __do_lift = false then (pure (ForInStep.done (some false, ())) : Sem _) else pure (ForInStep.yield (none, ()))).run P w
      = .ok (if a.drop i = b.drop i then (none, ()) else (some false, ())) w := by
  intro m
  induction m with
  | zero => intro i hi; simp [List.drop_eq_nil_of_le, ha, hb, ← hi]
  | succ m ih =>
    intro i hi
    have h1 : i < a.length := by omega
    have h2 : i < b.length := by omega
    rw [List.range'_succ, List.forIn_cons]
    simp only [Nat.mul_one, Sem.run_bind, run_partB w elem he a i h1, run_partB w elem he b i h2, Result.andThen_ok, run_equalIn_int w d elem .u8 .u8 _ _ he]
    have key : (a.drop i = b.drop i) = (a[i] = b[i] ∧ a.drop (i + 1) = b.drop (i + 1)) := by rw [List.drop_eq_getElem_cons h1, List.drop_eq_getElem_cons h2, List.cons.injEq]
    simp only [key]
    have e1 : ith a i = a[i] := by simp [ith, h1]
    have e2 : ith b i = b[i] := by simp [ith, h2]
    rw [e1, e2]
    by_cases h : a[i] = b[i]
    · have ih' := ih (i + 1) (by omega)
      simp only [Nat.mul_one] at ih'
      simp only [h, true_and, beq_self_eq_true, Bool.true_eq_false, if_false, Sem.run_pure, Result.andThen_ok]
      exact ih'
    · simp [h]
theorem run_equalArr {P : Program} (w : World) (d t elem n : Nat) (ht : P.underlying t = some (.array n elem)) (he : P.underlying elem = some (.int .u8)) (hs : (P.info? elem).map (·.size) = some 1)
    (a b : List Int) (ha : a.length = n) (hb : b.length = n) :
    (Op.equalIn (d + 2) t (.agg (u8s a)) (.agg (u8s b))).run P w = .ok (decide (a = b)) w := by
  have hinfo : ∃ i, P.info? elem = some i ∧ i.size = 1 := by
    cases h : P.info? elem with
    | none => simp [h] at hs
    | some i => exact ⟨i, rfl, by simpa [h] using hs⟩
  obtain ⟨i, hi, h1⟩ := hinfo
  have hsz : (sizeOf elem).run P w = .ok 1 w := by simp [sizeOf, typeInfo, hi, h1]
  rw [Op.equalIn]
  simp only [Sem.run_bind, run_underlying ht, Result.andThen_ok, hsz]
  have h := eqLoop w d elem he a b n ha hb n 0 (by omega)
  simp at h ⊢
  rw [h]
  by_cases hab : a = b <;> simp [hab]
theorem run_eqArr {P : Program} (w : World) (t elem n : Nat) (ht : P.underlying t = some (.array n elem)) (he : P.underlying elem = some (.int .u8)) (hs : (P.info? elem).map (·.size) = some 1)
    (a b : List Int) (ha : a.length = n) (hb : b.length = n) :
    (binOp .eql t (.agg (u8s a)) (.agg (u8s b))).run P w = .ok (.bool (decide (a = b))) w := by
  rw [run_eql_struct, run_equalArr w 9998 t elem n ht he hs a b ha hb]
  rfl
end Ytegffpjhdodldaa
end Go
namespace Go
namespace Ytegffpjhdodldaa
theorem run_partW {P : Program} (w : World) (e : TypeId) (he : P.underlying e = some (.int .u32)) (l : List Int) (i : Nat) (h : i < l.length) : (part e (u32s l) i).run P w = .ok (.int .u32 (ith l i)) w := by
  simp [part, isAgg, run_underlying he, u32s_get l i h]
theorem eqLoopW {P : Program} (w : World) (d elem : Nat) (he : P.underlying elem = some (.int .u32)) (a b : List Int) (n : Nat) (ha : a.length = n) (hb : b.length = n) : ∀ m i, i + m = n →
    (forIn (List.range' i m) ((none, ()) : Option Bool × Unit) fun i __s => do
              let __do_lift ← part elem (u32s a) (i * 1)
              let __do_lift_1 ← part elem (u32s b) (i * 1)
              let __do_lift ← Op.equalIn (d + 1) elem __do_lift __do_lift_1
              if __do_lift = false then (pure (ForInStep.done (some false, ())) : Sem _) else pure (ForInStep.yield (none, ()))).run P w
      = .ok (if a.drop i = b.drop i then (none, ()) else (some false, ())) w := by
  intro m
  induction m with
  | zero => intro i hi; simp [List.drop_eq_nil_of_le, ha, hb, ← hi]
  | succ m ih =>
    intro i hi
    have h1 : i < a.length := by omega
    have h2 : i < b.length := by omega
    rw [List.range'_succ, List.forIn_cons]
    simp only [Nat.mul_one, Sem.run_bind, run_partW w elem he a i h1, run_partW w elem he b i h2, Result.andThen_ok, run_equalIn_int w d elem .u32 .u32 _ _ he]
    have key : (a.drop i = b.drop i) = (a[i] = b[i] ∧ a.drop (i + 1) = b.drop (i + 1)) := by rw [List.drop_eq_getElem_cons h1, List.drop_eq_getElem_cons h2, List.cons.injEq]
    simp only [key]
    have e1 : ith a i = a[i] := by simp [ith, h1]
    have e2 : ith b i = b[i] := by simp [ith, h2]
    rw [e1, e2]
    by_cases h : a[i] = b[i]
    · have ih' := ih (i + 1) (by omega)
      simp only [Nat.mul_one] at ih'
      simp only [h, true_and, beq_self_eq_true, Bool.true_eq_false, if_false, Sem.run_pure, Result.andThen_ok]
      exact ih'
    · simp [h]
theorem run_equalArrW {P : Program} (w : World) (d t elem n : Nat) (ht : P.underlying t = some (.array n elem)) (he : P.underlying elem = some (.int .u32)) (hs : (P.info? elem).map (·.size) = some 1)
    (a b : List Int) (ha : a.length = n) (hb : b.length = n) :
    (Op.equalIn (d + 2) t (.agg (u32s a)) (.agg (u32s b))).run P w = .ok (decide (a = b)) w := by
  have hinfo : ∃ i, P.info? elem = some i ∧ i.size = 1 := by
    cases h : P.info? elem with
    | none => simp [h] at hs
    | some i => exact ⟨i, rfl, by simpa [h] using hs⟩
  obtain ⟨i, hi, h1⟩ := hinfo
  have hsz : (sizeOf elem).run P w = .ok 1 w := by simp [sizeOf, typeInfo, hi, h1]
  rw [Op.equalIn]
  simp only [Sem.run_bind, run_underlying ht, Result.andThen_ok, hsz]
  have h := eqLoopW w d elem he a b n ha hb n 0 (by omega)
  simp at h ⊢
  rw [h]
  by_cases hab : a = b <;> simp [hab]
theorem run_eqArrW {P : Program} (w : World) (t elem n : Nat) (ht : P.underlying t = some (.array n elem)) (he : P.underlying elem = some (.int .u32)) (hs : (P.info? elem).map (·.size) = some 1)
    (a b : List Int) (ha : a.length = n) (hb : b.length = n) :
    (binOp .eql t (.agg (u32s a)) (.agg (u32s b))).run P w = .ok (.bool (decide (a = b))) w := by
  rw [run_eql_struct, run_equalArrW w 9998 t elem n ht he hs a b ha hb]
  rfl
end Ytegffpjhdodldaa
end Go
namespace Go
namespace Ytegffpjhdodldaa
open RowKit
/-- A slice value that reads as these numbers of 32 bits. -/
def RdW (w : World) (v : Value) (l : List Int) : Prop :=
  (∃ a c, v = .slice a 0 c ∧ (a = none → c = 0) ∧ l = []) ∨ ∃ b o c, v = .slice (some ⟨b, o, none⟩) l.length c ∧ l.length ≤ c ∧ c ≤ maxLen ∧ b < w.heap.size ∧ ∀ i, i < l.length → w.cell? ⟨b, o + i, none⟩ = some (.int .u32 (ith l i))
theorem RdW.slice {w : World} {v : Value} {l : List Int} (h : RdW w v l) : ∃ a c, v = .slice a l.length c := by
  rcases h with ⟨a, c, rfl, _, rfl⟩ | ⟨b, o, c, hv, _⟩
  · exact ⟨a, c, rfl⟩
  · exact ⟨_, c, hv⟩
def u32v (l : List Int) : List Value := l.map (Value.int .u32)
theorem u32v_length (l : List Int) : (u32v l).length = l.length := by simp [u32v]
theorem u32v_append (l m : List Int) : u32v (l ++ m) = u32v l ++ u32v m := by simp [u32v]
theorem u32v_get (l : List Int) (j : Nat) (h : j < l.length) : (u32v l)[j]? = some (.int .u32 (ith l j)) := by simp [u32v, ith, h]
theorem u32s_eq (l : List Int) : u32s l = (u32v l).toArray := rfl
theorem u32v_one (l : List Int) : ∀ u ∈ u32v l, u.oneCell' = true := by
  intro u hu; simp [u32v] at hu; obtain ⟨x, _, rfl⟩ := hu; rfl
/-- The slice value 'v' is the call's own (blocks from 'base' on), and reads as the numbers 'l'. -/
def OwnW (base : Nat) (E : TypeId) (w : World) (v : Value) (l : List Int) : Prop := w.ownsRow base E 1 v l.length (u32v l)
theorem OwnW.nil (w : World) (base : Nat) (E : TypeId) : OwnW base E w (.slice none 0 0) [] := World.ownsRow_nil w base E 1
theorem OwnW.rd {base : Nat} {E : TypeId} {w : World} {v : Value} {l : List Int} (h : OwnW base E w v l) : RdW w v l := by
  rcases h.2 with ⟨rfl, h0⟩ | ⟨g, cap, cur, rfl, hb, hg, hn, hm, hs, ht⟩
  · exact .inl ⟨none, 0, rfl, fun _ => rfl, List.eq_nil_of_length_eq_zero h0⟩
  · refine .inr ⟨g, 0, cap, rfl, hn, hm, (Array.getElem?_eq_some_iff.1 hg).1, fun i hi => ?_⟩
    have hcell := World.ownsRow.cells (g := g) h rfl i _ (u32v_get l i hi)
    rw [addr_add] at hcell
    exact hcell
theorem OwnW.kept {base : Nat} {E : TypeId} {w w' : World} {v : Value} {l : List Int} (h : OwnW base E w v l) (hb : Below w.heap.size w w') : OwnW base E w' v l := by
  refine ⟨h.1, ?_⟩
  rcases h.2 with hn | ⟨g, cap, cur, rfl, hbg, hg, rest⟩
  · exact .inl hn
  · exact .inr ⟨g, cap, cur, rfl, hbg, (hb.block g (Array.getElem?_eq_some_iff.1 hg).1).trans hg, rest⟩
theorem RdW.src {w : World} {b o : Nat} {l : List Int} (h : ∀ i, i < l.length → w.cell? ⟨b, o + i, none⟩ = some (.int .u32 (ith l i))) :
    ∀ j u, (u32v l)[j]? = some u → w.cell? ((⟨b, o, none⟩ : Addr).add j) = some u := by
  intro j u hu
  have hj : j < l.length := by
    rcases Nat.lt_or_ge j l.length with h' | h'
    · exact h'
    · simp [u32v, List.getElem?_eq_none h'] at hu
  rw [u32v_get l j hj] at hu
  rw [addr_add, h j hj]; exact hu
theorem ownW_setRow {base B : Nat} {E : TypeId} {w : World} {v : Value} {l : List Int} (h : OwnW base E w v l) {g : Nat} (hB : B ≤ base) (hg : g < base) (cs : Array Value) : OwnW B E (w.setRow g cs) v l := by
  refine ⟨h.1, ?_⟩
  rcases h.2 with hn | ⟨k, cap, cur, rfl, hbg, hk, rest⟩
  · exact .inl hn
  · exact .inr ⟨k, cap, cur, rfl, Nat.le_trans hB hbg, (setRow_other w g k cs (by omega)).trans hk, rest⟩
theorem OwnW.below {base : Nat} {E : TypeId} {w w' : World} {v : Value} {l : List Int} (h : OwnW base E w v l) (hg : w.grownBy w' v.ownBlock) (hb : base ≤ w.heap.size) : Below base w w' :=
  Below.grown (Below.refl base w) hg hb (fun k hk => (World.ownsRow.lt h k hk).1)
theorem OwnW.mono {base B : Nat} {E : TypeId} {w : World} {v : Value} {l : List Int} (h : OwnW base E w v l) (hB : B ≤ base) : OwnW B E w v l := by
  refine ⟨h.1, ?_⟩
  rcases h.2 with hn | ⟨g, cap, cur, rfl, hbg, rest⟩
  · exact .inl hn
  · exact .inr ⟨g, cap, cur, rfl, Nat.le_trans hB hbg, rest⟩
section
variable {P : Program}
theorem run_appendW (w : World) (base : Nat) (t ty e : TypeId) (ht : P.underlying t = some (.slice e)) (hinfo : (P.info? e).map (fun i => (i.zero, i.size, i.bytes)) = some (some (.int .u32 0), 1, 4))
    (v : Value) (l : List Int) (hown : OwnW base e w v l) (sv : Value) (r : List Int) (hr : RdW w sv r) (hlen : (l.length + r.length) * 4 ≤ 140737488355328) (hbase : base ≤ w.heap.size) :
    ∃ v' w', (Builtin.append_ #[t, t] ty #[v, sv]).run P w = .ok v' w' ∧ OwnW base e w' v' (l ++ r) ∧ w.grownBy w' v.ownBlock := by
  obtain ⟨i, hi, hz, hs, hb⟩ := info_parts hinfo
  rcases hr with ⟨sa, sc, rfl, hsn, rfl⟩ | ⟨b, o, c, rfl, h1, h2, h3, h4⟩
  · cases sa with
    | some sa =>
      obtain ⟨v', w', hrun, ho, hg, _⟩ := run_append_own (P := P) w base t ty e i (.int .u32 0) 1 4 ht hi hz hs hb rfl (by omega) v l.length (u32v l) hown sa 0 sc (u32v [])
        (by rw [u32v_length]; rfl) (fun k x hx => by cases hx) (u32v_one []) (by unfold maxLen; simp at hlen ⊢; omega) (by simp at hlen ⊢; omega) hbase
      refine ⟨v', w', hrun, ?_, hg⟩
      unfold OwnW
      rw [List.append_nil]
      simpa [u32v] using ho
    | none =>
    obtain rfl := hsn rfl
    refine ⟨v, w, run_append_owned_none (P := P) (w := w) base t ty e i 1 ht hi v l.length (u32v l) hown, ?_, ⟨rfl, rfl, rfl, Nat.le_refl _, fun _ _ _ => rfl⟩⟩
    rw [List.append_nil]; exact hown
  · obtain ⟨v', w', hrun, ho, hg, _⟩ := run_append_own (P := P) w base t ty e i (.int .u32 0) 1 4 ht hi hz hs hb rfl (by omega) v l.length (u32v l) hown ⟨b, o, none⟩ r.length c (u32v r)
      (by rw [u32v_length]; omega) (RdW.src h4) (u32v_one r) (by unfold maxLen; omega) (by omega) hbase
    refine ⟨v', w', hrun, ?_, hg⟩
    unfold OwnW
    rw [List.length_append, u32v_append]; exact ho
theorem appendW {ops : Array Oper} {rest : List Oper} {o : Oper} {a : Act} {w : World} {Q : Exit → Act → World → Prop} (hgd : o.guard = none) (s x : Operand) (t : TypeId)
    (ho : o.op = .call { callee := .builtin .append, args := #[s, x], argTypes := #[t, t] })
    (base : Nat) (e : TypeId) (ht : P.underlying t = some (.slice e)) (hinfo : (P.info? e).map (fun i => (i.zero, i.size, i.bytes)) = some (some (.int .u32 0), 1, 4))
    (v : Value) (hs : a.eval s = v) (l : List Int) (hown : OwnW base e w v l) (sv : Value) (hx : a.eval x = sv) (r : List Int) (hr : RdW w sv r) (hlen : (l.length + r.length) * 4 ≤ 140737488355328) (hbase : base ≤ w.heap.size)
    (h : ∀ v' w', OwnW base e w' v' (l ++ r) → w.grownBy w' v.ownBlock → Stop (wpList P ops Q rest (a.put o.dst v') w')) : wpList P ops Q (o :: rest) a w := by
  refine wpList_plain hgd fun K hK => ?_
  obtain ⟨v', w', hrun, h2, h3⟩ := run_appendW (P := P) w base t o.type e ht hinfo v l hown sv r hr hlen hbase
  unfold Oper.wp execOp
  simp only [ho, resolve, invoke, builtin, Sem.run_bind, Sem.run_pure, Result.andThen_ok, List.map_toArray, List.map_cons, List.map_nil, hs, hx, hrun]
  exact hK _ _ (h v' w' h2 h3).out
theorem step_appendW {ops : Array Oper} {o : Oper} {a : Act} {w : World} {K : Act → World → Prop} {Q : Exit → Act → World → Prop} {E : Prop} (hgd : o.guard = none) (s x : Operand) (t : TypeId)
    (ho : o.op = .call { callee := .builtin .append, args := #[s, x], argTypes := #[t, t] })
    (base : Nat) (e : TypeId) (ht : P.underlying t = some (.slice e)) (hinfo : (P.info? e).map (fun i => (i.zero, i.size, i.bytes)) = some (some (.int .u32 0), 1, 4))
    (v : Value) (hs : a.eval s = v) (l : List Int) (hown : OwnW base e w v l) (sv : Value) (hx : a.eval x = sv) (r : List Int) (hr : RdW w sv r) (hlen : (l.length + r.length) * 4 ≤ 140737488355328) (hbase : base ≤ w.heap.size)
    (h : ∀ v' w', OwnW base e w' v' (l ++ r) → w.grownBy w' v.ownBlock → K (a.put o.dst v') w') :
    if Region.wanted o (yielded ops a.tmps) = true then Oper.wp P o a w K Q else E := by
  have hw : Region.wanted o (yielded ops a.tmps) = true := by simp [Region.wanted, hgd]
  rw [if_pos hw]
  obtain ⟨v', w', hrun, h2, h3⟩ := run_appendW (P := P) w base t o.type e ht hinfo v l hown sv r hr hlen hbase
  unfold Oper.wp execOp
  simp only [ho, resolve, invoke, builtin, Sem.run_bind, Sem.run_pure, Result.andThen_ok, List.map_toArray, List.map_cons, List.map_nil, hs, hx, hrun]
  exact h v' w' h2 h3

end
end Ytegffpjhdodldaa
end Go

/- Layer 6: an operation is copied, and compared with its copy: contracts of the reference. Layer 6: messages and ids: contracts of the reference. -/
import Derived.Test.YtegffpjhdodldaaDoorQ11
import Derived.Test.YtegffpjhdodldaaDoorD01y
namespace Go.Proofs.YtegffpjhdodldaaDoor.wir.val
open Go.RowKit Go.YtegffpjhdodldaaDoor
set_option linter.unusedVariables false
theorem run_appendIs {P : Program} (w : World) (base : Nat) (t ty e : TypeId) (ht : P.underlying t = some (.slice e)) (hinfo : (P.info? e).map (fun i => (i.zero, i.size, i.bytes)) = some (some (.agg (u8s (zerosB 32))), 32, 32))
    (v : Value) (n : Nat) (F : List Int) (hown : OwnI base e w v n F) (sv : Value) (m : Nat) (G : List Int) (hr : RdI w sv m G) (hlen : n + m ≤ 1000000) (hbase : base ≤ w.heap.size) :
    ∃ v' w', (Builtin.append_ #[t, t] ty #[v, sv]).run P w = .ok v' w' ∧ OwnI base e w' v' (n + m) (F ++ G) ∧ w.grownBy w' v.ownBlock := by
  obtain ⟨i, hi, hz, hs, hb⟩ := info_parts hinfo
  have hlG := hr.len
  rcases hr with ⟨sa, sc, rfl, hsn, rfl, rfl⟩ | ⟨b, o, c, rfl, h1, h2, h3, h4, h5⟩
  · cases sa with
    | some sa =>
      obtain ⟨v', w', hrun, ho, hg, _⟩ := run_append_own (P := P) w base t ty e i (.agg (u8s (zerosB 32))) 32 32 ht hi hz hs hb (by simp [Value.cells, u8s_size, zerosB_length]) (by omega) v n (u8v F) hown sa 0 sc (u8v [])
        (by rw [u8v_length]; rfl) (fun k x hx => by cases hx) (u8v_one []) (by unfold maxLen; omega) (by omega) hbase
      refine ⟨v', w', hrun, ?_, hg⟩
      unfold OwnI
      rw [List.append_nil]
      simpa [u8v] using ho
    | none =>
      obtain rfl := hsn rfl
      refine ⟨v, w, run_append_owned_none (P := P) (w := w) base t ty e i 32 ht hi v n (u8v F) hown, ?_, ⟨rfl, rfl, rfl, Nat.le_refl _, fun _ _ _ => rfl⟩⟩
      rw [List.append_nil]; exact hown
  · obtain ⟨v', w', hrun, ho, hg, _⟩ := run_append_own (P := P) w base t ty e i (.agg (u8s (zerosB 32))) 32 32 ht hi hz hs hb (by simp [Value.cells, u8s_size, zerosB_length]) (by omega) v n (u8v F) hown ⟨b, o, none⟩ m c (u8v G)
      (by rw [u8v_length]; omega) (RdB.src h5) (u8v_one G) (by unfold maxLen; omega) (by omega) hbase
    refine ⟨v', w', hrun, ?_, hg⟩
    unfold OwnI
    rw [u8v_append]; exact ho
theorem appendIs {P : Program} {ops : Array Oper} {rest : List Oper} {o : Oper} {a : Act} {w : World} {Q : Exit → Act → World → Prop} (hgd : o.guard = none) (s x : Operand) (t : TypeId)
    (ho : o.op = .call { callee := .builtin .append, args := #[s, x], argTypes := #[t, t] })
    (base : Nat) (e : TypeId) (ht : P.underlying t = some (.slice e)) (hinfo : (P.info? e).map (fun i => (i.zero, i.size, i.bytes)) = some (some (.agg (u8s (zerosB 32))), 32, 32))
    (v : Value) (hs : a.eval s = v) (n : Nat) (F : List Int) (hown : OwnI base e w v n F) (sv : Value) (hx : a.eval x = sv) (m : Nat) (G : List Int) (hr : RdI w sv m G) (hlen : n + m ≤ 1000000) (hbase : base ≤ w.heap.size)
    (h : ∀ v' w', OwnI base e w' v' (n + m) (F ++ G) → w.grownBy w' v.ownBlock → Stop (wpList P ops Q rest (a.put o.dst v') w')) : wpList P ops Q (o :: rest) a w := by
  refine wpList_plain hgd fun K hK => ?_
  obtain ⟨v', w', hrun, h2, h3⟩ := run_appendIs (P := P) w base t o.type e ht hinfo v n F hown sv m G hr hlen hbase
  unfold Oper.wp execOp
  simp only [ho, resolve, invoke, builtin, Sem.run_bind, Sem.run_pure, Result.andThen_ok, List.map_toArray, List.map_cons, List.map_nil, hs, hx, hrun]
  exact hK _ _ (h v' w' h2 h3).out
theorem own_litI (w : World) : OwnI w.heap.size 55 (w.alloc (.cells #[] 55)) (.slice (some ⟨w.heap.size, 0, none⟩) 0 0) 0 [] :=
  ⟨rfl, .inr ⟨w.heap.size, 0, _, rfl, Nat.le_refl _, heap_alloc_new w _, Nat.le_refl _, by decide, rfl, rfl⟩⟩
/-- Is it larger than the statements consider? -/
def greatB (o : Od) : Bool := decide (20 < o.n) || (decide (100 < o.key.size) || decide (100 < o.v.s.size))
set_option maxRecDepth 100000 in
theorem great_any (o : Od) (a : Option Addr) (c : Nat) (w : World) :
    Calls Tryd.prog 6 #[.agg (o.c (.slice a o.n c))] w fun e w' => e = .returned (.bool (greatB o)) ∧ Below w.heap.size w w' := by
  have hb := Lib.hid (below_a w (.cells (o.c (.slice a o.n c)) 32))
  have e : greatB o = (decide (20 < o.n) || (decide (100 < o.key.size) || decide (100 < o.v.s.size))) := rfl
  generalize greatB o = R at *
  by_cases h1 : 20 < o.n
  · have e' := Lib.hid (show R = true by rw [e]; simp [h1])
    have d1 : decide ((20 : Int) < (o.n : Int)) = true := decide_eq_true (by omega)
    clear e
    go_enter Tryd.func6, Tryd.ntmps6
    go_wp2
    go_ret
    exact ⟨ret_bool e'.out.symm, hb.out⟩
  have d1 : decide ((20 : Int) < (o.n : Int)) = false := decide_eq_false (by omega)
  by_cases h2 : 100 < o.key.size
  · have e' := Lib.hid (show R = true by rw [e]; simp [h2])
    have d2 : decide ((100 : Int) < (o.key.size : Int)) = true := decide_eq_true (by omega)
    clear e
    go_enter Tryd.func6, Tryd.ntmps6
    go_wp2
    go_ret
    exact ⟨ret_bool e'.out.symm, hb.out⟩
  have d2 : decide ((100 : Int) < (o.key.size : Int)) = false := decide_eq_false (by omega)
  by_cases h3 : 100 < o.v.s.size
  · have e' := Lib.hid (show R = true by rw [e]; simp [h3])
    have d3 : decide ((100 : Int) < (o.v.s.size : Int)) = true := decide_eq_true (by omega)
    clear e
    go_enter Tryd.func6, Tryd.ntmps6
    go_wp2
    go_ret
    exact ⟨ret_bool e'.out.symm, hb.out⟩
  · have e' := Lib.hid (show R = false by rw [e]; simp [h1, h2, h3])
    have d3 : decide ((100 : Int) < (o.v.s.size : Int)) = false := decide_eq_false (by omega)
    clear e
    go_enter Tryd.func6, Tryd.ntmps6
    go_wp2
    go_ret
    exact ⟨ret_bool e'.out.symm, hb.out⟩
theorem ownI_setRow {base : Nat} {E : TypeId} {w : World} {v : Value} {n : Nat} {F : List Int} (h : OwnI base E w v n F) {g : Nat} (hg : g < base) (cs : Array Value) : OwnI base E (w.setRow g cs) v n F := by
  refine ⟨h.1, ?_⟩
  rcases h.2 with hn | ⟨k, cap, cur, rfl, hbg, hk, rest⟩
  · exact .inl hn
  · exact .inr ⟨k, cap, cur, rfl, hbg, (setRow_other w g k cs (by omega)).trans hk, rest⟩
def zO : Od := ⟨0, 0, [], 0, 0, ⟨#[]⟩, ⟨0, 0, 0, ⟨#[]⟩⟩, 0, 0⟩
end Go.Proofs.YtegffpjhdodldaaDoor.wir.val
namespace Go.Proofs.YtegffpjhdodldaaDoor.wir.val
open Go.RowKit Go.YtegffpjhdodldaaDoor
set_option linter.unusedVariables false
end Go.Proofs.YtegffpjhdodldaaDoor.wir.val

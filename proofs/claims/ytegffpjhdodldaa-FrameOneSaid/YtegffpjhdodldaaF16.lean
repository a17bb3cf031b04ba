/- Layer 7: contracts of package frame: lists that are split. -/
import Derived.Test.YtegffpjhdodldaaF09
import Derived.Test.YtegffpjhdodldaaL02
namespace Go.Proofs.Ytegffpjhdodldaa
open Go.RowKit Go.Ytegffpjhdodldaa
set_option linter.unusedVariables false
theorem rdI_first {w : World} {a : Option Addr} {n c : Nat} {F : List Int} (h : RdI w (.slice a n c) n F) (k : Nat) (hk : k ≤ n) : RdI w (.slice a k c) k (F.take (32 * k)) := by
  rcases h with ⟨a', c', e, h1, rfl, rfl⟩ | ⟨b, o, c', e, h1, h2, h3, h4, h5⟩
  · cases e
    obtain rfl : k = 0 := by omega
    exact .inl ⟨_, _, rfl, h1, rfl, rfl⟩
  · cases e
    have hl : (F.take (32 * k)).length = 32 * k := by rw [List.length_take, h4]; omega
    refine .inr ⟨b, o, c, rfl, by omega, h2, h3, hl, fun i hi => ?_⟩
    rw [hl] at hi
    rw [ith_take _ _ _ hi]
    exact h5 i (by omega)
theorem rdI_last {w : World} {b o n c : Nat} {F : List Int} (h : RdI w (.slice (some ⟨b, o, none⟩) n c) n F) (k : Nat) (hk : k < n) : RdI w (.slice (some ⟨b, o + k * 32, none⟩) (n - k) (c - k)) (n - k) (F.drop (32 * k)) := by
  rcases h with ⟨a', c', e, h1, h0, rfl⟩ | ⟨b', o', c', e, h1, h2, h3, h4, h5⟩
  · omega
  · cases e
    have hl : (F.drop (32 * k)).length = 32 * (n - k) := by rw [List.length_drop, h4]; omega
    refine .inr ⟨b, o + k * 32, c - k, rfl, by omega, by unfold maxLen at *; omega, h3, hl, fun i hi => ?_⟩
    rw [hl] at hi
    rw [ith_drop, show o + k * 32 + i = o + (32 * k + i) by omega]
    exact h5 _ (by omega)
theorem rdI_some {w : World} {a : Option Addr} {n c : Nat} {F : List Int} (h : RdI w (.slice a n c) n F) (hn : 0 < n) : ∃ b o, a = some ⟨b, o, none⟩ ∧ n ≤ c := by
  rcases h with ⟨a', c', e, h1, h0, rfl⟩ | ⟨b', o', c', e, h1, _⟩
  · omega
  · cases e
    exact ⟨b', o', rfl, h1⟩
theorem run_appendIs {P : Program} (w : World) (base : Nat) (t ty e : TypeId) (ht : P.underlying t = some (.slice e)) (hinfo : (P.info? e).map (fun i => (i.zero, i.size, i.bytes)) = some (some (.agg (u8s (zerosB 32))), 32, 32))
    (v : Value) (n : Nat) (F : List Int) (hown : OwnI base e w v n F) (sv : Value) (m : Nat) (G : List Int) (hr : RdI w sv m G) (hlen : n + m ≤ 1000000) (hbase : base ≤ w.heap.size) :
    ∃ v' w', (Builtin.append_ #[t, t] ty #[v, sv]).run P w = .ok v' w' ∧ OwnI base e w' v' (n + m) (F ++ G) ∧ w.grownBy w' v.ownBlock := by
  obtain ⟨i, hi, hz, hs, hb⟩ := info_parts hinfo
  have hlG := hr.len
  rcases hr with ⟨sa, sc, rfl, hsn, rfl, rfl⟩ | ⟨b, o, c, rfl, h1, h2, h3, h4, h5⟩
  · cases sa with
    | some sa =>
      obtain ⟨v', w', hrun, ho, hg, _⟩ := run_append_own (P := P) w base t ty e i (.agg (u8s (zerosB 32))) 32 32 ht hi hz hs hb (by simp [Value.cells, u8s_size, zerosB_length]) (by omega) v n (u8v F) hown sa 0 sc (u8v [])
        (by rw [u8v_length]; rfl) (fun k x hx => by cases hx) (u8v_one []) (by unfold maxLen; omega) (by omega) hbase
      refine ⟨v', w', hrun, ?_, hg⟩
      unfold OwnI
      rw [List.append_nil]
      simpa [u8v] using ho
    | none =>
      obtain rfl := hsn rfl
      refine ⟨v, w, run_append_owned_none (P := P) (w := w) base t ty e i 32 ht hi v n (u8v F) hown, ?_, ⟨rfl, rfl, rfl, Nat.le_refl _, fun _ _ _ => rfl⟩⟩
      rw [List.append_nil]; exact hown
  · obtain ⟨v', w', hrun, ho, hg, _⟩ := run_append_own (P := P) w base t ty e i (.agg (u8s (zerosB 32))) 32 32 ht hi hz hs hb (by simp [Value.cells, u8s_size, zerosB_length]) (by omega) v n (u8v F) hown ⟨b, o, none⟩ m c (u8v G)
      (by rw [u8v_length]; omega) (RdB.src h5) (u8v_one G) (by unfold maxLen; omega) (by omega) hbase
    refine ⟨v', w', hrun, ?_, hg⟩
    unfold OwnI
    rw [u8v_append]; exact ho
theorem appendIs {P : Program} {ops : Array Oper} {rest : List Oper} {o : Oper} {a : Act} {w : World} {Q : Exit → Act → World → Prop} (hgd : o.guard = none) (s x : Operand) (t : TypeId)
    (ho : o.op = .call { callee := .builtin .append, args := #[s, x], argTypes := #[t, t] })
    (base : Nat) (e : TypeId) (ht : P.underlying t = some (.slice e)) (hinfo : (P.info? e).map (fun i => (i.zero, i.size, i.bytes)) = some (some (.agg (u8s (zerosB 32))), 32, 32))
    (v : Value) (hs : a.eval s = v) (n : Nat) (F : List Int) (hown : OwnI base e w v n F) (sv : Value) (hx : a.eval x = sv) (m : Nat) (G : List Int) (hr : RdI w sv m G) (hlen : n + m ≤ 1000000) (hbase : base ≤ w.heap.size)
    (h : ∀ v' w', OwnI base e w' v' (n + m) (F ++ G) → w.grownBy w' v.ownBlock → Stop (wpList P ops Q rest (a.put o.dst v') w')) : wpList P ops Q (o :: rest) a w := by
  refine wpList_plain hgd fun K hK => ?_
  obtain ⟨v', w', hrun, h2, h3⟩ := run_appendIs (P := P) w base t o.type e ht hinfo v n F hown sv m G hr hlen hbase
  unfold Oper.wp execOp
  simp only [ho, resolve, invoke, builtin, Sem.run_bind, Sem.run_pure, Result.andThen_ok, List.map_toArray, List.map_cons, List.map_nil, hs, hx, hrun]
  exact hK _ _ (h v' w' h2 h3).out
theorem ownI_setRow {base : Nat} {E : TypeId} {w : World} {v : Value} {n : Nat} {F : List Int} (h : OwnI base E w v n F) {g : Nat} (hg : g < base) (cs : Array Value) : OwnI base E (w.setRow g cs) v n F := by
  refine ⟨h.1, ?_⟩
  rcases h.2 with hn | ⟨k, cap, cur, rfl, hbg, hk, rest⟩
  · exact .inl hn
  · exact .inr ⟨k, cap, cur, rfl, hbg, (setRow_other w g k cs (by omega)).trans hk, rest⟩
set_option maxHeartbeats 4000000 in
set_option maxRecDepth 100000 in
theorem frameOf_any (k : Int) (n : Nat) (hn : n ≤ 1000) (F : List Int) (v : Value) (w : World) (hr : RdI w v n F) :
    Calls Try.prog 32 #[.int .u8 k, v] w fun e w' => ∃ qa qc, e = .returned (.agg ((⟨k, 0, n, F, []⟩ : Fr).c (.slice qa n qc) (.slice none 0 0))) ∧ OwnI w.heap.size 58 w' (.slice qa n qc) n F ∧ Below w.heap.size w w' := by
  obtain ⟨W, hW⟩ : ∃ W, W = w.alloc (.cells ((kF 0).c (.slice none 0 0) (.slice none 0 0)) 26) := ⟨_, rfl⟩
  have hs := Lib.hid (show W.heap[w.heap.size]? = some (.cells ((kF 0).c (.slice none 0 0) (.slice none 0 0)) 26 (0, 0)) by rw [hW]; exact heap_alloc_new w _)
  have hB := Lib.hid (show Below w.heap.size w W by rw [hW]; exact (Below.refl w.heap.size w).alloc (Nat.le_refl _) _)
  have hsz := Lib.hid (show W.heap.size = w.heap.size + 1 by rw [hW]; simp)
  have hrW := Lib.hid (hr.mono hB.out)
  obtain ⟨a, c, rfl⟩ := hr.slice
  clear hr
  go_enter Try.func32, Try.ntmps32
  go_upto_region 1 with fail
  change Code.wp _ _ _ _ (w.alloc (.cells ((kF 0).c (.slice none 0 0) (.slice none 0 0)) 26))
  rw [← hW]
  clear hW
  go_wp2_with (refine appendIs rfl _ _ 23 rfl W.heap.size 58 Try.underlying23 (by kernel_rfl) _ rfl 0 [] (OwnI.nil W W.heap.size 58) _ rfl n F hrW.out (by omega) (Nat.le_refl _) ?_)
  intro v2 w2 h1 h2
  have hB2 := (OwnI.nil W W.heap.size 58).below h2 (Nat.le_refl _)
  obtain ⟨qa, qc, rfl⟩ := h1.rd.slice
  replace hs := Lib.hid (rowB hs.out hB2 (Array.getElem?_eq_some_iff.1 hs.out).1)
  replace hB := Lib.hid (hB.out.trans (hB2.mono hB.out.size))
  have hH := Lib.hid h1
  clear h1 h2 hB2 hrW
  refine Stop.go ?_
  go_wp2_with (refine wpList_store_row rfl 26 _ _ rfl w.heap.size ((⟨k, 0, n, F, []⟩ : Fr).c (.slice qa n qc) (.slice none 0 0)) rfl rfl 26 _ hs.out info_frame rfl (fr_one _ _ _ _ _ _ _) ?_)
  exact bodyPost_ret (results_cell_row rfl _ _ w.heap.size 26 _ _ _ rfl (setRow_heap _ _ _ _ _ _ hs.out) Try.underlying26 rfl info_frame) rfl ⟨qa, qc, rfl, (ownI_setRow hH.out (by have := hsz.out; omega) _).mono (by have := hsz.out; omega), below_setRow' hB.out (Nat.le_refl _) _⟩
end Go.Proofs.Ytegffpjhdodldaa

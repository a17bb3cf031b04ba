/- Texts that the row stands on, part 8. -/
import Derived.Test.YtlbgffhipondiaaGreatDoorRClosedGq07
namespace Go.Proofs.YtlbgffhipondiaaGreatDoor.wir.val
open Go.RowKit Go.YtlbgffhipondiaaGreatDoor
set_option linter.unusedVariables false
def kV (l : List Nat) : List Value := l.map fun n : Nat => Value.int .i64 (n : Int)
theorem kV_one (l : List Nat) : ∀ u ∈ kV l, u.oneCell' = true := by
  intro u hu
  obtain ⟨n, _, rfl⟩ := List.mem_map.1 hu
  rfl
/-- A slice of ints of the call's own. -/
def OwnK (base : Nat) (E : TypeId) (w : World) (v : Value) (l : List Nat) : Prop := w.ownsRow base E 1 v l.length (kV l)
theorem OwnK.nil (w : World) (base : Nat) (E : TypeId) : OwnK base E w (.slice none 0 0) [] := World.ownsRow_nil w base E 1
theorem OwnK.kept {base : Nat} {E : TypeId} {w w' : World} {v : Value} {l : List Nat} (h : OwnK base E w v l) (hb : Below w.heap.size w w') : OwnK base E w' v l := by
  refine ⟨h.1, ?_⟩
  rcases h.2 with hn | ⟨k, cap, cur, rfl, hbk, hk, rest⟩
  · exact .inl hn
  · exact .inr ⟨k, cap, cur, rfl, hbk, (hb.block k (Array.getElem?_eq_some_iff.1 hk).1).trans hk, rest⟩
theorem OwnK.below {base : Nat} {E : TypeId} {w w' : World} {v : Value} {l : List Nat} (h : OwnK base E w v l) (hg : w.grownBy w' v.ownBlock) (hb : base ≤ w.heap.size) : Below base w w' :=
  Below.grown (Below.refl base w) hg hb (fun k hk => (World.ownsRow.lt h k hk).1)
theorem OwnK.slice {base : Nat} {E : TypeId} {w : World} {v : Value} {l : List Nat} (h : OwnK base E w v l) : ∃ a c, v = .slice a l.length c := by
  rcases h.2 with ⟨rfl, h0⟩ | ⟨k, cap, cur, rfl, _⟩
  · rw [h0]; exact ⟨_, _, rfl⟩
  · exact ⟨_, _, rfl⟩
theorem ownK_set {base : Nat} {E : TypeId} {w : World} {v : Value} {l : List Nat} (h : OwnK base E w v l) {g : Nat} (hg : g < base) (i : Nat) (x : Value) : OwnK base E (w.setCell ⟨g, i, none⟩ x) v l := by
  refine ⟨h.1, ?_⟩
  rcases h.2 with hn | ⟨k, cap, cur, rfl, hbk, hk, rest⟩
  · exact .inl hn
  · exact .inr ⟨k, cap, cur, rfl, hbk, (setCell_rows g i x k (by omega)).trans hk, rest⟩
section
variable {P : Program}
theorem appendK1 {ops : Array Oper} {rest : List Oper} {o : Oper} {a : Act} {w : World} {Q : Exit → Act → World → Prop} (hgd : o.guard = none) (s x : Operand) (t : TypeId)
    (ho : o.op = .call { callee := .builtin .append, args := #[s, x], argTypes := #[t, t] })
    (base : Nat) (e : TypeId) (ht : P.underlying t = some (.slice e)) (hinfo : (P.info? e).map (fun i => (i.zero, i.size, i.bytes)) = some (some (.int .i64 0), 1, 8))
    (v : Value) (hs : a.eval s = v) (l : List Nat) (hown : OwnK base e w v l) (g c : Nat) (hx : a.eval x = .slice (some ⟨g, 0, none⟩) 1 c) (p : Nat) (E : TypeId) (hrow : w.heap[g]? = some (.cells #[.int .i64 (p : Int)] E (0, 0))) (hlen : l.length ≤ 1000000) (hbase : base ≤ w.heap.size)
    (h : ∀ v' w', OwnK base e w' v' (l ++ [p]) → w.grownBy w' v.ownBlock → Stop (wpList P ops Q rest (a.put o.dst v') w')) : wpList P ops Q (o :: rest) a w := by
  refine wpList_plain hgd fun K hK => ?_
  obtain ⟨i, hi, hz, hsz, hb⟩ := info_parts hinfo
  obtain ⟨v', w', hrun, h2, h3, _⟩ := run_append_own (P := P) w base t o.type e i (.int .i64 0) 1 8 ht hi hz hsz hb rfl (by omega) v l.length (kV l) hown ⟨g, 0, none⟩ 1 c (kV [p])
    rfl (fun j u hu => by
      have hj : j = 0 := by
        have := (List.getElem?_eq_some_iff.1 hu).1
        simp [kV] at this; exact this
      subst hj
      rw [addr_add, Nat.zero_add, cell_of_row _ _ _ _ _ _ hrow]
      exact hu) (kV_one [p]) (by unfold maxLen; omega) (by omega) hbase
  unfold Oper.wp execOp
  simp only [ho, resolve, invoke, builtin, Sem.run_bind, Sem.run_pure, Result.andThen_ok, List.map_toArray, List.map_cons, List.map_nil, hs, hx, hrun]
  refine hK _ _ (h v' w' ?_ h3).out
  unfold OwnK
  rw [List.length_append, kV, List.map_append]
  exact h2
end
/-- All blocks but gl stay. -/
def Els (gl : Nat) (w w' : World) : Prop := (∀ j, j ≠ gl → j < w.heap.size → w'.heap[j]? = w.heap[j]?) ∧ w.heap.size ≤ w'.heap.size
theorem Els.refl (gl : Nat) (w : World) : Els gl w w := ⟨fun _ _ _ => rfl, Nat.le_refl _⟩
theorem Els.trans {gl : Nat} {a b c : World} (h1 : Els gl a b) (h2 : Els gl b c) : Els gl a c :=
  ⟨fun j h3 h4 => (h2.1 j h3 (Nat.lt_of_lt_of_le h4 h1.2)).trans (h1.1 j h3 h4), Nat.le_trans h1.2 h2.2⟩
theorem els_below {gl : Nat} {a b : World} (h : Below a.heap.size a b) : Els gl a b := ⟨fun j _ h4 => h.block j h4, h.size⟩
theorem els_set (gl i : Nat) (w : World) (x : Value) : Els gl w (w.setCell ⟨gl, i, none⟩ x) := ⟨fun j h _ => setCell_rows gl i x j h, by simp [World.setCell]⟩
/-- The slice reads as' l, whatever becomes of the block gl. -/
def HeldK (gl : Nat) (w : World) (v : Value) (l : List Nat) : Prop := ∀ wx : World, Els gl w wx → RdK wx v l
theorem HeldK.mono {gl : Nat} {w w' : World} {v : Value} {l : List Nat} (h : HeldK gl w v l) (hb : Els gl w w') : HeldK gl w' v l := fun wx hx => h wx (hb.trans hx)
theorem heldK_own {base gl : Nat} {E : TypeId} {w : World} {v : Value} {l : List Nat} (h : OwnK base E w v l) (hgl : gl < base) : HeldK gl w v l := fun wx hx => by
  rcases h.2 with ⟨rfl, h0⟩ | ⟨k, cap, cur, rfl, hbk, hk, hnc, hcm, hcs, hct⟩
  · exact .inl ⟨none, 0, rfl, fun _ => rfl, List.eq_nil_of_length_eq_zero h0⟩
  · have hk2 := (hx.1 k (by omega) (Array.getElem?_eq_some_iff.1 hk).1).trans hk
    refine .inr ⟨k, 0, cap, rfl, hnc, hcm, (Array.getElem?_eq_some_iff.1 hk2).1, fun i hi => ?_⟩
    rw [Nat.zero_add, cell_of_row _ _ _ _ _ _ hk2, ← Array.getElem?_toList]
    have h1 : (cur.toList.take (l.length * 1))[i]? = (kV l)[i]? := by rw [hct]
    rw [List.getElem?_take_of_lt (by omega)] at h1
    rw [h1, kV, List.getElem?_map, List.getElem?_eq_getElem hi]
    rfl
/-- The places of the first m predecessors. -/
def LnkP (F : List Int) (n : Nat) (o : Od) (l : List Nat) (m : Nat) : Prop := l.length = m ∧ ∀ j, j < m → l[j]?.getD 0 < n ∧ idF F (l[j]?.getD 0) = idF o.F j
theorem lnkP_step {F : List Int} {n : Nat} {o : Od} {l : List Nat} {m p : Nat} (h : LnkP F n o l m) (h1 : p < n) (h2 : idF F p = idF o.F m) : LnkP F n o (l ++ [p]) (m + 1) := by
  refine ⟨by simp [h.1], fun j hj => ?_⟩
  rcases Nat.lt_or_ge j m with h3 | h3
  · rw [List.getElem?_append_left (by rw [h.1]; exact h3)]; exact h.2 j h3
  · obtain rfl : j = m := by omega
    have e : (l ++ [p])[j]?.getD 0 = p := by rw [List.getElem?_append_right (by rw [h.1]; exact Nat.le_refl _), h.1, Nat.sub_self]; rfl
    rw [e]; exact ⟨h1, h2⟩
abbrev nilV : Value := .slice none 0 0
/-- The row of lists, the first k of which are there. -/
structure LinkRow (F : List Int) (n : Nat) (L : List Od) (gl k : Nat) (vs : List Value) (B : List (List Nat)) (w : World) : Prop where
  lv : vs.length = k
  lb : B.length = k
  row : w.heap[gl]? = some (.cells (vs ++ List.replicate (n - k) nilV).toArray 72 (0, 0))
  held : ∀ i, i < k → ∃ v, vs[i]? = some v ∧ HeldK gl w v (nthK B i)
  lnk : ∀ i, i < k → LnkP F n (nthO L i) (nthK B i) (nthO L i).n
theorem linkRow_zero (F : List Int) (n : Nat) (L : List Od) (w : World) (gl : Nat) (h : w.heap[gl]? = some (.cells (madeCells #[nilV] n) 72 (0, 0))) : LinkRow F n L gl 0 [] [] w := by
  refine ⟨rfl, rfl, ?_, fun i hi => absurd hi (Nat.not_lt_zero _), fun i hi => absurd hi (Nat.not_lt_zero _)⟩
  rw [h]
  congr 2
  apply Array.ext'
  rw [toList_madeCells_one]
  simp
theorem linkRow_put {F : List Int} {n : Nat} {L : List Od} {gl k : Nat} {vs : List Value} {B : List (List Nat)} {W w : World} {v : Value} {l : List Nat} (h : LinkRow F n L gl k vs B W) (he : Els gl W w)
    (hr : w.heap[gl]? = some (.cells (vs ++ v :: List.replicate (n - (k + 1)) nilV).toArray 72 (0, 0))) (hh : HeldK gl w v l) (hl : LnkP F n (nthO L k) l (nthO L k).n) : LinkRow F n L gl (k + 1) (vs ++ [v]) (B ++ [l]) w := by
  have nb : ∀ i, i < k → nthK (B ++ [l]) i = nthK B i := fun i hi => by unfold nthK; rw [List.getElem?_append_left (by rw [h.lb]; exact hi)]
  have nk : nthK (B ++ [l]) k = l := by unfold nthK; rw [List.getElem?_append_right (by rw [h.lb]; exact Nat.le_refl _), h.lb, Nat.sub_self]; rfl
  refine ⟨by simp [h.lv], by simp [h.lb], by rw [hr]; simp, fun i hi => ?_, fun i hi => ?_⟩
  · rcases Nat.lt_or_ge i k with h3 | h3
    · obtain ⟨v', h4, h5⟩ := h.held i h3
      exact ⟨v', by rw [List.getElem?_append_left (by rw [h.lv]; exact h3)]; exact h4, by rw [nb i h3]; exact h5.mono he⟩
    · obtain rfl : i = k := by omega
      exact ⟨v, by rw [List.getElem?_append_right (by rw [h.lv]; exact Nat.le_refl _), h.lv, Nat.sub_self]; rfl, by rw [nk]; exact hh⟩
  · rcases Nat.lt_or_ge i k with h3 | h3
    · rw [nb i h3]; exact h.lnk i h3
    · obtain rfl : i = k := by omega
      rw [nk]; exact hl
theorem linkRow_done {F : List Int} {n : Nat} {L : List Od} {gl : Nat} {vs : List Value} {B : List (List Nat)} {w : World} (h : LinkRow F n L gl n vs B w) (hn : n ≤ 100000) : RdKK w (.slice (some ⟨gl, 0, none⟩) n n) B := by
  refine .inr ⟨gl, 0, n, by rw [h.lb], by rw [h.lb]; exact Nat.le_refl _, by unfold maxLen; omega, (Array.getElem?_eq_some_iff.1 h.row).1, fun i hi => ?_⟩
  obtain ⟨v, h1, h2⟩ := h.held i (by rw [← h.lb]; exact hi)
  refine ⟨v, ?_, h2 _ (Els.refl _ _)⟩
  rw [Nat.zero_add, cell_of_row _ _ _ _ _ _ h.row, Nat.sub_self]
  simpa using h1
theorem row_at {w : World} {gl n k : Nat} {vs : List Value} {v : Value} (hr : w.heap[gl]? = some (.cells (vs ++ v :: List.replicate (n - (k + 1)) nilV).toArray 72 (0, 0))) (hk : vs.length = k) :
    w.cell? ⟨gl, k, none⟩ = some v ∧ w.frozen? ⟨gl, k, none⟩ = false ∧ ∀ v', (w.setCell ⟨gl, k, none⟩ v').heap[gl]? = some (.cells (vs ++ v' :: List.replicate (n - (k + 1)) nilV).toArray 72 (0, 0)) := by
  refine ⟨?_, frozen_of_row _ _ k _ _ hr, fun v' => ?_⟩
  · rw [cell_of_row _ _ _ _ _ _ hr]
    simp [← hk]
  · rw [setCell_row hr k v']
    congr 2
    apply Array.ext'
    simp [← hk]
theorem run_makeKK (w : World) (n : Nat) (hn : n ≤ 100000) : (Instr.makeSlice 151 (.int .i64 (n : Int)) (.int .i64 (n : Int))).run Tryz.prog w = .ok (.slice (some ⟨w.heap.size, 0, none⟩) n n) (w.alloc (.cells (madeCells #[nilV] n) 72)) := by
  obtain ⟨i, hi, hz, hs, hb⟩ := info_parts (show (Tryz.prog.info? 72).map (fun i => (i.zero, i.size, i.bytes)) = some (some nilV, 1, 24) by kernel_rfl)
  have h := run_make (P := Tryz.prog) w 151 72 i nilV Tryz.underlying151 hi hz .i64 .i64 (n : Int) (n : Int) (by omega) (by omega) (by rw [hb]; omega) (by omega)
  rw [h, hs]
  simp only [Int.toNat_natCast, Nat.mul_one, Value.cells]
end Go.Proofs.YtlbgffhipondiaaGreatDoor.wir.val
namespace Go.Proofs.YtlbgffhipondiaaGreatDoor.wir.val
open Go.RowKit Go.YtlbgffhipondiaaGreatDoor
set_option linter.unusedVariables false
theorem els_then {gl : Nat} {a b c : World} (h : Els gl a b) (hb : Below a.heap.size b c) : Els gl a c := ⟨fun j h1 h2 => (hb.block j h2).trans (h.1 j h1 h2), Nat.le_trans h.2 hb.size⟩
abbrev gC (iv ov : Value) : Array Value := #[iv, ov]
theorem info_g : (Tryz.prog.info? 41).map (·.size) = some 2 := by kernel_rfl
set_option maxHeartbeats 8000000 in
set_option maxRecDepth 100000 in
theorem links_any (F : List Int) (n : Nat) (L : List Od) (iv ov : Value) (w : World) (hI : RdI w iv n F) (hF : Bytes F) (hO : RdO w ov L) (hn : L.length = n) (hm : n ≤ 100000) (hri : riseF F n = true) (hcl : closB F n L = true)
    (hfit : ∀ i, i < n → (nthO L i).n ≤ 100000 ∧ Bytes (nthO L i).F) :
    Calls Tryz.prog 119 #[.agg (gC iv ov)] w fun e w' => ∃ v B, e = .returned v ∧ RdKK w' v B ∧ B.length = n ∧ (∀ i, i < n → LnkP F n (nthO L i) (nthK B i) (nthO L i).n) ∧ Below w.heap.size w w' := by
  obtain ⟨ia, ic, rfl⟩ := hI.slice
  obtain ⟨oa, oc, rfl⟩ := hO.slice
  rw [hn] at hO ⊢
  obtain ⟨W, hW⟩ : ∃ W, W = (w.alloc (.cells (gC (.slice ia n ic) (.slice oa n oc)) 41)).alloc (.cells (madeCells #[nilV] n) 72) := ⟨_, rfl⟩
  have hS := Lib.hid (show Below w.heap.size w W by rw [hW]; exact ((Below.refl w.heap.size w).alloc (Nat.le_refl _) _).alloc (by simp) _)
  have r0 := Lib.hid (show W.heap[w.heap.size]? = some (.cells (gC (.slice ia n ic) (.slice oa n oc)) 41 (0, 0)) by rw [hW]; exact rowB (heap_alloc_new w _) (below_a _ _) (by simp))
  have r1 := Lib.hid (show W.heap[w.heap.size + 1]? = some (.cells (madeCells #[nilV] n) 72 (0, 0)) by rw [hW]; exact hn2 w _ _)
  have lk0 := Lib.hid (linkRow_zero F n L W (w.heap.size + 1) r1.out)
  have hI' := Lib.hid hI; have hF' := Lib.hid hF; have hO' := Lib.hid hO; have hri' := Lib.hid hri; have hfit' := Lib.hid hfit; have hn' := Lib.hid hn
  have hcl' := Lib.hid (clos_iff.1 hcl)
  have hmk := fun wz : World => run_makeKK wz n hm
  have cw0 : (w.alloc (.cells (gC (.slice ia n ic) (.slice oa n oc)) 41)).cell? ⟨w.heap.size, 1, none⟩ = some (.slice oa n oc) := by rw [cell_of_row _ _ _ _ _ _ (heap_alloc_new w _)]; rfl
  clear hI hF hO hri hcl hfit hn
  go_enter Tryz.func119, Tryz.ntmps119
  go_upto_region 2 with fail
  rw [← hW]
  clear hW cw0
  have c1 : W.cell? ⟨w.heap.size, 1, none⟩ = some (.slice oa n oc) := by rw [cell_of_row _ _ _ _ _ _ r0.out]; rfl
  go_wp2
  clear c1
  go_loopw [17] (fun i wr => ∃ (vs : List Value) (B : List (List Nat)) (k : Nat), k ≤ n ∧ i = .int .i64 (k : Int) ∧ LinkRow F n L (w.heap.size + 1) k vs B wr ∧ wr.heap[w.heap.size]? = some (.cells (gC (.slice ia n ic) (.slice oa n oc)) 41 (0, 0)) ∧ Below w.heap.size w wr) (fun i _ => n - (intOf i).toNat)
  case atStart => exact ⟨[], [], 0, Nat.zero_le _, rfl, lk0.out, r0.out, hS.out⟩
  case round =>
    obtain ⟨vs, B, k, hk, rfl, hL, hr, hb⟩ := hrel
    have hL' := Lib.hid hL; have hr' := Lib.hid hr; have hb' := Lib.hid hb
    clear hL hr hb
    by_cases hlt : k < n
    · obtain ⟨b, o, pa, pc, rfl, hbw, hnc, q1, q2⟩ := rdO_at hO'.out hn'.out (Below.refl _ _) k hlt
      have q1' := Lib.hid (range_below q1 hbw hb'.out)
      have hP := Lib.hid q2
      have hPn := Lib.hid (hfit'.out k hlt)
      have hall := Lib.hid (hcl'.out k (by have := hn'.out; omega))
      have hkI : (k : Int) < (n : Int) := by omega
      have i1 : Hid ((Tryz.prog.info? 35).map (·.size) = some ((nthO L k).c (.slice pa (nthO L k).n pc)).toList.length) := Lib.hid info_op
      have hlk := Lib.hid (fun (wz : World) (v : Value) (l : List Nat) (he : Els (w.heap.size + 1) wr wz) hr hh hl => linkRow_put (v := v) (l := l) hL'.out he hr hh hl)
      have hrow := Lib.hid (show wr.heap[w.heap.size + 1]? = some (.cells (vs ++ nilV :: List.replicate (n - (k + 1)) nilV).toArray 72 (0, 0)) by
        rw [hL'.out.row, show n - k = (n - (k + 1)) + 1 by omega, List.replicate_succ])
      have hvs := Lib.hid hL'.out.lv
      have hlP := Lib.hid hP.out.len
      clear q1 q2
      generalize nthO L k = od at *
      obtain ⟨m, hm2⟩ : ∃ m, od.n = m := ⟨_, rfl⟩
      have hmh := Lib.hid hm2
      rw [hm2] at q1' hP hPn hall hlP i1 hlk
      clear hm2
      go_upto_region 5 with (first
        | (refine wpList_load_mid_g rfl 35 _ rfl b (o + k * 11) rfl (od.c (.slice pa m pc)) _ q1'.out Tryz.underlying35 rfl i1.out ?_)
        | (refine storeNew _ rfl 35 _ _ rfl (od.c (.slice pa m pc)) 35 rfl rfl info_op rfl (op_one od pa m pc) ?_; intro Wk hrx hbx; have r5 := Lib.hid hrx; have hbw5 := Lib.hid hbx; clear hrx hbx))
      have hbk := Lib.hid (hb'.out.trans (hbw5.out.mono hb'.out.size))
      have hk0 := Lib.hid (rowB hr'.out hbw5.out (Array.getElem?_eq_some_iff.1 hr'.out).1)
      have hrk := Lib.hid (rowB hrow.out hbw5.out (Array.getElem?_eq_some_iff.1 hrow.out).1)
      have hek := Lib.hid (els_below (gl := w.heap.size + 1) hbw5.out)
      have hglk := Lib.hid (Array.getElem?_eq_some_iff.1 hrk.out).1
      have c5 : Wk.cell? ⟨wr.heap.size, 1, none⟩ = some (.slice pa m pc) := by rw [cell_of_row _ _ _ _ _ _ r5.out]; rfl
      go_wp2
      clear c5 r5 hbw5
      go_loopw [25] (fun i wi => ∃ (v : Value) (l : List Nat) (j : Nat), j ≤ m ∧ i = .int .i64 (j : Int) ∧ LnkP F n od l j ∧ wi.heap[w.heap.size + 1]? = some (.cells (vs ++ v :: List.replicate (n - (k + 1)) nilV).toArray 72 (0, 0)) ∧ OwnK Wk.heap.size 3 wi v l ∧ Els (w.heap.size + 1) Wk wi ∧ Below w.heap.size w wi ∧ wi.heap[w.heap.size]? = some (.cells (gC (.slice ia n ic) (.slice (some ⟨b, o, none⟩) n oc)) 41 (0, 0))) (fun i _ => m - (intOf i).toNat)
      case atStart => exact ⟨nilV, [], 0, Nat.zero_le _, rfl, ⟨rfl, fun j hj => absurd hj (Nat.not_lt_zero _)⟩, hrk.out, OwnK.nil _ _ _, Els.refl _ _, hbk.out, hk0.out⟩
      case round =>
        obtain ⟨v, l, j, hj, rfl, hlk1, hrg, how, hels, hbi, hbox⟩ := hrel
        have hrg' := Lib.hid hrg; have how' := Lib.hid how; have hels' := Lib.hid hels; have hbi' := Lib.hid hbi; have hbox' := Lib.hid hbox; have hlk' := Lib.hid hlk1
        clear hrg hels hbi hbox
        by_cases hjm : j < m
        · obtain ⟨va, vc, hv⟩ := how.slice
          rw [hlk1.1] at hv
          subst hv
          clear how hlk1
          obtain ⟨b2, o2, rfl, hbw2, hnc2, k1, _⟩ := rdI_at hP.out hbi'.out j hjm
          have k1' := Lib.hid k1
          have l1 := Lib.hid (idF_length od.F m j hlP.out hjm)
          have i1d : Hid ((Tryz.prog.info? 24).map (·.size) = some (u8s (idF od.F j)).toList.length) := Lib.hid (by rw [Array.length_toList, u8s_size, l1.out]; kernel_rfl)
          have i2d : Hid ((Tryz.prog.info? 24).map (·.size) = some (u8s (idF od.F j)).size) := Lib.hid (by rw [u8s_size, l1.out]; kernel_rfl)
          have isz : Hid (∀ X : Array Value, X.size = 32 → X.size = (u8s (idF od.F j)).size) := Lib.hid (fun X hX => by rw [hX, u8s_size, l1.out])
          have hA := Lib.hid (fun wz (h : RdI wz (.slice ia n ic) n F) => (place_any F n (.slice ia n ic) (idF od.F j) wz h hF'.out hm hri'.out l1.out (idF_bytes od.F j hPn.out.2)).mono (R' := fun e w' => ∃ p : Nat, (p < n ∧ idF F p = idF od.F j) ∧ e = .returned (.tuple #[.int .i64 p, .bool (memF F n (idF od.F j))]) ∧ Below wz.heap.size wz w') (fun e w' ⟨p, h1, h2, h3⟩ => ⟨p, place_at hri'.out h1 (all_iff.1 hall.out j hjm), h2, h3⟩))
          have hstep := Lib.hid (fun (p : Nat) (h : p < n ∧ idF F p = idF od.F j) => lnkP_step hlk'.out h.1 h.2)
          have hjI : (j : Int) < (m : Int) := by omega
          have hm2 := hPn.out.1
          clear k1
          generalize memF F n (idF od.F j) = MB at *
          generalize idF od.F j = A at *
          go_upto_region 9 with (first
            | (refine wpList_load_mid_g rfl 24 _ rfl b2 (o2 + j * 32) rfl (u8s A) _ k1'.out Tryz.underlying24 rfl i1d.out ?_)
            | (refine storeNew _ rfl 24 _ _ rfl (u8s A) 24 rfl rfl i2d.out (isz.out _ rfl) (u8s_one _) ?_; intro wx hrx hbx; have rx := Lib.hid hrx; have hbx' := Lib.hid hbx; have hIx := Lib.hid (hI'.out.mono (hbi'.out.trans (Below.mono hbx hbi'.out.size))); have cI : wx.cell? ⟨w.heap.size, 0, none⟩ = some (.slice ia n ic) := (by rw [cell_of_row _ _ _ _ _ _ (rowB hbox'.out hbx (Array.getElem?_eq_some_iff.1 hbox'.out).1)]; rfl); clear hrx hbx)
            | (refine wpList_load_row_g rfl 24 _ rfl _ rfl 24 (u8s A) (0, 0) _ rx.out Tryz.underlying24 rfl i2d.out ?_)
            | (go_at_call 67; (with_reducible refine (hA.out _ hIx.out).mono ?_); rintro e9 w4 ⟨p, hp, rfl, q2⟩; have hp' := Lib.hid hp; have hb4 := Lib.hid (hbx'.out.trans (Below.mono q2 hbx'.out.size)); clear q2 hp cI))
          have ow4 := Lib.hid (how'.out.kept hb4.out)
          have rg4 := Lib.hid (rowB hrg'.out hb4.out (Array.getElem?_eq_some_iff.1 hrg'.out).1)
          obtain ⟨ck, fk, _⟩ := row_at rg4.out hvs.out
          have bk4 := Lib.hid (show Wk.heap.size ≤ (w4.alloc (.cells #[.int .i64 (p : Int)] 3)).heap.size from Nat.le_trans hels'.out.2 (Nat.le_trans hb4.out.size (by simp)))
          have hll := Lib.hid (show l.length ≤ 1000000 by have := hlk'.out.1; omega)
          go_wp2_with (refine appendK1 rfl _ _ 72 rfl Wk.heap.size 3 Tryz.underlying72 (by kernel_rfl) _ rfl l (ow4.out.kept (below_a w4 _)) w4.heap.size 1 rfl p _ (heap_alloc_new w4 _) hll.out bk4.out ?_)
          intro v' w6 y1 y2
          obtain ⟨va', vc', hv'⟩ := y1.slice
          have hl2 : (l ++ [p]).length = j + 1 := by rw [List.length_append, hlk'.out.1]; rfl
          rw [hl2] at hv'
          subst hv'
          have hne : ∀ g0, g0 < Wk.heap.size → some g0 ≠ (Value.slice va j vc).ownBlock := fun g0 hg e => by
            have := (World.ownsRow.lt ow4.out g0 e.symm).1
            omega
          have rg5 := Lib.hid (rowB rg4.out (below_a w4 (.cells #[.int .i64 (p : Int)] 3)) (Array.getElem?_eq_some_iff.1 rg4.out).1)
          have rg6 := Lib.hid (grownRow y2 rg5.out (hne _ hglk.out))
          have bx4 := rowB hbox'.out hb4.out (Array.getElem?_eq_some_iff.1 hbox'.out).1
          have bx5 := rowB bx4 (below_a w4 (.cells #[.int .i64 (p : Int)] 3)) (Array.getElem?_eq_some_iff.1 bx4).1
          have bx6 := Lib.hid (grownRow y2 bx5 (hne _ (by have := hglk.out; omega)))
          have hg6 := (ow4.out.kept (below_a w4 (.cells #[.int .i64 (p : Int)] 3))).below y2 bk4.out
          have hbi6 := Lib.hid (((hbi'.out.trans (Below.mono hb4.out hbi'.out.size)).trans (Below.mono (below_a w4 (.cells #[.int .i64 (p : Int)] 3)) (Nat.le_trans hbi'.out.size hb4.out.size))).trans (Below.mono hg6 hbk.out.size))
          have hel6 := Lib.hid (els_then ((hels'.out.trans (els_below hb4.out)).trans (els_below (below_a w4 (.cells #[.int .i64 (p : Int)] 3)))) hg6)
          obtain ⟨ck6, fk6, hset⟩ := row_at rg6.out hvs.out
          have hset' := Lib.hid hset
          have y1' := Lib.hid y1
          have hst := Lib.hid (hstep.out p hp'.out)
          clear ck fk y1 y2 hne hset bx4 bx5 hg6
          refine Stop.go ?_
          go_wp2
          go_roundw
          case rel => exact ⟨_, l ++ [p], j + 1, by omega, by go_num, hst.out, hset'.out _, ownK_set y1'.out hglk.out k _, hel6.out.trans (els_set _ k _ _), hbi6.out.setCell (p := ⟨w.heap.size + 1, k, none⟩) (Nat.le_succ _) _, (setCell_rows _ _ _ _ (by omega)).trans bx6.out⟩
          case measure => simp [intOf]; omega
        · obtain rfl : j = m := by omega
          have hnew := Lib.hid (hlk.out _ v l (hek.out.trans hels'.out) hrg'.out (heldK_own how'.out hglk.out) hlk'.out)
          clear how
          go_wp2
          go_roundw
          case rel => exact ⟨_, _, k + 1, by omega, by go_num, hnew.out, hbox'.out, hbi'.out⟩
          case measure => simp [intOf]; omega
    · obtain rfl : k = n := by omega
      have hd := Lib.hid (linkRow_done hL'.out hm)
      go_wp2
      go_ret
      exact ⟨_, B, rfl, hd.out, hL'.out.lb, hL'.out.lnk, hb'.out⟩
end Go.Proofs.YtlbgffhipondiaaGreatDoor.wir.val
namespace Go.Proofs.YtlbgffhipondiaaGreatDoor.wir.val
open Go.RowKit Go.YtlbgffhipondiaaGreatDoor
set_option linter.unusedVariables false
theorem nthK_mem {B : List (List Nat)} {i : Nat} {F : List Int} {n : Nat} {o : Od} {m x : Nat} (h : LnkP F n o (nthK B i) m) (hx : x ∈ nthK B i) : ∃ j, j < m ∧ x < n ∧ idF F x = idF o.F j := by
  obtain ⟨j, hj, e⟩ := List.getElem_of_mem hx
  have h1 := h.2 j (by rw [← h.1]; exact hj)
  rw [List.getElem?_eq_getElem hj, e] at h1
  exact ⟨j, by rw [← h.1]; exact hj, h1.1, h1.2⟩
theorem lnk_in {B : List (List Nat)} {F : List Int} {n : Nat} {L : List Od} (hl : ∀ i, i < n → LnkP F n (nthO L i) (nthK B i) (nthO L i).n) (hp : ∀ i, i < n → (nthO L i).n ≤ 100000) : ∀ i, i < n → (nthK B i).length ≤ 100000 ∧ ∀ x, x ∈ nthK B i → x < n := fun i hi =>
  ⟨by rw [(hl i hi).1]; exact hp i hi, fun x hx => by
    obtain ⟨j, _, h, _⟩ := nthK_mem (hl i hi) hx
    exact h⟩
theorem tkB_all {B : List (List Nat)} {F : List Int} {n : Nat} {L : List Od} (hn : L.length = n) (hB : B.length = n) (hri : riseF F n = true) (hl : ∀ i, i < n → LnkP F n (nthO L i) (nthK B i) (nthO L i).n) : (∀ i, i < n → TkB B i) ↔ AllTk F n L := by
  constructor
  · intro h i hi
    have h1 := h i (by omega)
    clear h
    induction h1 with
    | mk i hi2 h ih =>
      refine tk_of hi fun j hj => ?_
      have h2 := (hl i (by omega)).2 j hj
      have hmem : (nthK B i)[j]?.getD 0 ∈ nthK B i := by
        have : j < (nthK B i).length := by rw [(hl i (by omega)).1]; exact hj
        rw [List.getElem?_eq_getElem this]; exact List.getElem_mem this
      exact ⟨_, h2.1, ih _ hmem (by omega), h2.2⟩
  · intro h i hi
    refine tk_sub (F := F) (n := n) (L := L) (TkB B) (fun i hi h => ?_) (h i (by omega))
    refine ⟨i, by omega, fun x hx => ?_⟩
    obtain ⟨j, hj, hxn, hxe⟩ := nthK_mem (hl i (by omega)) hx
    obtain ⟨k, hk, hT, hke⟩ := h j hj
    rw [rise_inj hri hxn hk (hxe.trans hke.symm)]; exact hT
theorem link_32 {F : List Int} {n : Nat} {L : List Od} {e : Int} (h : LinkG F n L e) (h1 : riseF F n = false) : e = 32 := by
  rcases h with ⟨_, h⟩ | ⟨h, _⟩ | ⟨h, _⟩ | ⟨h, _⟩
  · exact h
  all_goals rw [h1] at h; cases h
theorem link_40 {F : List Int} {n : Nat} {L : List Od} {e : Int} (h : LinkG F n L e) (h1 : riseF F n = true) (h2 : closB F n L = false) : e = 40 := by
  rcases h with ⟨h, _⟩ | ⟨_, _, h⟩ | ⟨_, h, _⟩ | ⟨_, h, _⟩
  · rw [h1] at h; cases h
  · exact h
  all_goals rw [h2] at h; cases h
theorem link_36 {F : List Int} {n : Nat} {L : List Od} {e : Int} (h : LinkG F n L e) (h1 : riseF F n = true) (h2 : closB F n L = true) (h3 : ¬ AllTk F n L) : e = 36 := by
  rcases h with ⟨h, _⟩ | ⟨_, h, _⟩ | ⟨_, _, _, h⟩ | ⟨_, _, h, _⟩
  · rw [h1] at h; cases h
  · rw [h2] at h; cases h
  · exact h
  · exact absurd h h3
theorem link_0 {F : List Int} {n : Nat} {L : List Od} {e : Int} (h : LinkG F n L e) (h1 : riseF F n = true) (h2 : closB F n L = true) (h3 : AllTk F n L) : e = 0 := by
  rcases h with ⟨h, _⟩ | ⟨_, h, _⟩ | ⟨_, _, h, _⟩ | ⟨_, _, _, h⟩
  · rw [h1] at h; cases h
  · rw [h2] at h; cases h
  · exact absurd h3 h
  · exact h
set_option maxHeartbeats 8000000 in
set_option maxRecDepth 100000 in
theorem checkLinks_any (F : List Int) (n : Nat) (L : List Od) (iv ov : Value) (e0 : Int) (w : World) (hI : RdI w iv n F) (hF : Bytes F) (hO : RdO w ov L) (hn : L.length = n) (hm : n ≤ 100000)
    (hfit : ∀ i, i < n → (nthO L i).n ≤ 100000 ∧ Bytes (nthO L i).F) (he0 : LinkG F n L e0) :
    Calls Tryz.prog 69 #[.agg (gC iv ov)] w fun e w' => e = .returned (.int .i64 e0) ∧ Below w.heap.size w w' := by
  have hlen := Lib.hid hI.len
  obtain ⟨ia, ic, rfl⟩ := hI.slice
  obtain ⟨oa, oc, rfl⟩ := hO.slice
  rw [hn] at hO ⊢
  obtain ⟨W, hW⟩ : ∃ W, W = w.alloc (.cells (gC (.slice ia n ic) (.slice oa n oc)) 41) := ⟨_, rfl⟩
  have hS := Lib.hid (show Below w.heap.size w W by rw [hW]; exact below_a w _)
  have r0 := Lib.hid (show W.heap[w.heap.size]? = some (.cells (gC (.slice ia n ic) (.slice oa n oc)) 41 (0, 0)) by rw [hW]; exact heap_alloc_new w _)
  have hrw := Lib.hid (fun (wz : World) (h : Below W.heap.size W wz) => rowB r0.out h (Array.getElem?_eq_some_iff.1 r0.out).1)
  have hcw := Lib.hid (fun (wz : World) (h : Below W.heap.size W wz) => (show wz.cell? ⟨w.heap.size, 0, none⟩ = some (.slice ia n ic) by rw [cell_of_row _ _ _ _ _ _ (hrw.out wz h)]; rfl))
  have hI' := Lib.hid hI; have hF' := Lib.hid hF; have hO' := Lib.hid hO; have hfit' := Lib.hid hfit; have hn' := Lib.hid hn; have he' := Lib.hid he0
  have hwn : IntKind.i64.wrap ((n : Int) - 1) = (n : Int) - 1 := IntWalk.i64_in _ (by omega)
  have cW0 : W.cell? ⟨w.heap.size, 0, none⟩ = some (.slice ia n ic) := hcw.out W (Below.refl _ _)
  clear hI hF hO hfit hn he0
  go_enter Tryz.func69, Tryz.ntmps69
  go_upto_region 1 with fail
  rw [← hW]
  clear hW
  go_wp2
  clear cW0
  go_loopw [10] (fun i wr => ∃ k : Nat, (k = 0 ∨ k + 1 ≤ n) ∧ i = .int .i64 (k : Int) ∧ Below W.heap.size W wr ∧ ∀ j, j < k → cmpF (idF F j) (idF F (j + 1)) < 0) (fun i _ => n - (intOf i).toNat)
  case atStart => exact ⟨0, .inl rfl, rfl, Below.refl _ _, fun j hj => absurd hj (Nat.not_lt_zero _)⟩
  case round =>
    obtain ⟨k, hk, rfl, hb, he⟩ := hrel
    have hup := Lib.hid he; have hb' := Lib.hid hb
    clear he hb
    by_cases hlt : k + 1 < n
    · obtain ⟨b, o, rfl, hbw, hnc, q1, _⟩ := rdI_at hI'.out (hS.out.trans (hb'.out.mono hS.out.size)) k (by omega)
      obtain ⟨b2, o2, hab, _, _, q2, _⟩ := rdI_at hI'.out (hS.out.trans (hb'.out.mono hS.out.size)) (k + 1) hlt
      cases hab
      have hbr := Lib.hid (Nat.lt_of_lt_of_le (Nat.lt_of_lt_of_le hbw hS.out.size) hb'.out.size)
      have q1' := Lib.hid (fun (w' : World) (h : Below wr.heap.size wr w') => (show w'.rangeAt b (o + k * 32) (idV (idF F k)) from fun j v hv => (h.cell (p := ⟨b, o + k * 32 + j, none⟩) hbr.out).trans (q1 j v hv)))
      have q2' := Lib.hid (fun (w' : World) (h : Below wr.heap.size wr w') => (show w'.rangeAt b (o + (k + 1) * 32) (idV (idF F (k + 1))) from fun j v hv => (h.cell (p := ⟨b, o + (k + 1) * 32 + j, none⟩) hbr.out).trans (q2 j v hv)))
      have l1 := Lib.hid (idF_length F n k hlen.out (by omega))
      have l2 := Lib.hid (idF_length F n (k + 1) hlen.out hlt)
      have hc := Lib.hid (fun wi => cmp_any (idF F k) (idF F (k + 1)) wi l1.out l2.out (idF_bytes F k hF'.out) (idF_bytes F (k + 1) hF'.out))
      have hno := Lib.hid (fun h => rise_no (F := F) (n := n) k hlt h)
      have hyes := Lib.hid (fun (h : cmpF (idF F k) (idF F (k + 1)) < 0) => (show ∀ j, j < k + 1 → cmpF (idF F j) (idF F (j + 1)) < 0 from fun j hj => by
        rcases Nat.lt_or_ge j k with h1 | h1
        · exact hup.out j h1
        · obtain rfl : j = k := by omega
          exact h))
      clear q1 q2 hk
      generalize idF F (k + 1) = B at *
      generalize idF F k = A at *
      generalize cmpF A B = T at *
      have x1 : IntKind.i64.wrap ((k : Int) + 1) = (k : Int) + 1 := IntWalk.i64_in _ (by omega)
      have x2 : (0 : Int) ≤ (k : Int) + 1 := by omega
      have x3 : ((k : Int) + 1).toNat = k + 1 := by omega
      have x4 : (k : Int) + 1 < (n : Int) := by omega
      have x5 : k < n := by omega
      have x6 : (k : Int) < (n : Int) := by omega
      have x7 : (k : Int) < (n : Int) - 1 := by omega
      have i1 : Hid ((Tryz.prog.info? 24).map (·.size) = some (idV A).length) := Lib.hid (by rw [idV_length, l1.out]; kernel_rfl)
      have i2 : Hid ((Tryz.prog.info? 24).map (·.size) = some (idV B).length) := Lib.hid (by rw [idV_length, l2.out]; kernel_rfl)
      have hcI := Lib.hid (fun (wz : World) (h : Below wr.heap.size wr wz) => hcw.out wz (hb'.out.trans (h.mono hb'.out.size)))
      by_cases hT : T < 0
      · have hh := Lib.hid (hyes.out hT)
        have hTd : decide (0 ≤ T) = false := by simp; omega
        have hTd2 : decide (T < 0) = true := by simp; omega
        clear hyes hno
        go_upto_region 4 with fail
        refine wp_region_quiet (C := fun w' => Below wr.heap.size wr w') (by kernel_rfl) (by kernel_rfl) ((Below.refl _ _).drew) ?_
        simp only []
        (go_big_quiet_want; go_big_quiet_op; first | go_big_quiet_on | (refine ⟨_, fun _ _ => rfl, ?_⟩; go_big_quiet_on))
        refine wpq (.slice (some ⟨b, o, none⟩) n ic) rfl (quiet_cell 26 _ rfl w.heap.size 0 rfl (.slice (some ⟨b, o, none⟩) n ic) hcI.out Tryz.isAgg26) rfl (fun K hK => ?_); go_simp; refine hK _ ?_; clear hK K
        iterate 2 (go_big_quiet_want; go_big_quiet_op; first | go_big_quiet_on | (refine ⟨_, fun _ _ => rfl, ?_⟩; go_big_quiet_on))
        refine wpq (.agg (u8s A)) rfl (qa_load_mid 24 _ rfl b (o + k * 32) rfl A _ Tryz.underlying24 rfl i1.out q1'.out) rfl (fun K hK => ?_); go_simp; refine hK _ ?_; clear hK K
        (go_big_quiet_want; go_big_quiet_op; first | go_big_quiet_on | (refine ⟨_, fun _ _ => rfl, ?_⟩; go_big_quiet_on))
        refine wpq (.slice (some ⟨b, o, none⟩) n ic) rfl (quiet_cell 26 _ rfl w.heap.size 0 rfl (.slice (some ⟨b, o, none⟩) n ic) hcI.out Tryz.isAgg26) rfl (fun K hK => ?_); go_simp; refine hK _ ?_; clear hK K
        iterate 3 (go_big_quiet_want; go_big_quiet_op; first | go_big_quiet_on | (refine ⟨_, fun _ _ => rfl, ?_⟩; go_big_quiet_on))
        refine wpq (.agg (u8s B)) rfl (qa_load_mid 24 _ rfl b (o + (k + 1) * 32) rfl B _ Tryz.underlying24 rfl i2.out q2'.out) rfl (fun K hK => ?_); go_simp; refine hK _ ?_; clear hK K
        refine wpq (.int .i64 T) rfl (quiet_call2 rfl Tryz.func98 (by kernel_rfl) rfl (.agg (u8s A)) (.agg (u8s B)) (.int .i64 T) rfl rfl rfl (fun w9 h => (hc.out w9).mono fun e w' ⟨he, hd⟩ => ⟨he, h.trans (hd.mono h.size)⟩)) rfl (fun K hK => ?_); go_simp; refine hK _ ?_; clear hK K
        (go_big_quiet_want; go_big_quiet_op; first | go_big_quiet_on | (refine ⟨_, fun _ _ => rfl, ?_⟩; go_big_quiet_on))
        refine wpQuiet_nil ?_
        intro w2 h2
        have hB2 := Lib.hid (hb'.out.trans (h2.mono hb'.out.size))
        clear h2
        go_wp2
        go_roundw
        case rel => exact ⟨k + 1, .inr (by omega), by go_num, hB2.out, hh.out⟩
        case measure => simp [intOf]; omega
      · have hh := Lib.hid (hno.out hT)
        have hTd : decide (0 ≤ T) = true := by simp; omega
        have hTd2 : decide (T < 0) = false := by simp; omega
        clear hyes hno
        go_upto_region 4 with fail
        refine wp_region_quiet (C := fun w' => Below wr.heap.size wr w') (by kernel_rfl) (by kernel_rfl) ((Below.refl _ _).drew) ?_
        simp only []
        (go_big_quiet_want; go_big_quiet_op; first | go_big_quiet_on | (refine ⟨_, fun _ _ => rfl, ?_⟩; go_big_quiet_on))
        refine wpq (.slice (some ⟨b, o, none⟩) n ic) rfl (quiet_cell 26 _ rfl w.heap.size 0 rfl (.slice (some ⟨b, o, none⟩) n ic) hcI.out Tryz.isAgg26) rfl (fun K hK => ?_); go_simp; refine hK _ ?_; clear hK K
        iterate 2 (go_big_quiet_want; go_big_quiet_op; first | go_big_quiet_on | (refine ⟨_, fun _ _ => rfl, ?_⟩; go_big_quiet_on))
        refine wpq (.agg (u8s A)) rfl (qa_load_mid 24 _ rfl b (o + k * 32) rfl A _ Tryz.underlying24 rfl i1.out q1'.out) rfl (fun K hK => ?_); go_simp; refine hK _ ?_; clear hK K
        (go_big_quiet_want; go_big_quiet_op; first | go_big_quiet_on | (refine ⟨_, fun _ _ => rfl, ?_⟩; go_big_quiet_on))
        refine wpq (.slice (some ⟨b, o, none⟩) n ic) rfl (quiet_cell 26 _ rfl w.heap.size 0 rfl (.slice (some ⟨b, o, none⟩) n ic) hcI.out Tryz.isAgg26) rfl (fun K hK => ?_); go_simp; refine hK _ ?_; clear hK K
        iterate 3 (go_big_quiet_want; go_big_quiet_op; first | go_big_quiet_on | (refine ⟨_, fun _ _ => rfl, ?_⟩; go_big_quiet_on))
        refine wpq (.agg (u8s B)) rfl (qa_load_mid 24 _ rfl b (o + (k + 1) * 32) rfl B _ Tryz.underlying24 rfl i2.out q2'.out) rfl (fun K hK => ?_); go_simp; refine hK _ ?_; clear hK K
        refine wpq (.int .i64 T) rfl (quiet_call2 rfl Tryz.func98 (by kernel_rfl) rfl (.agg (u8s A)) (.agg (u8s B)) (.int .i64 T) rfl rfl rfl (fun w9 h => (hc.out w9).mono fun e w' ⟨he, hd⟩ => ⟨he, h.trans (hd.mono h.size)⟩)) rfl (fun K hK => ?_); go_simp; refine hK _ ?_; clear hK K
        (go_big_quiet_want; go_big_quiet_op; first | go_big_quiet_on | (refine ⟨_, fun _ _ => rfl, ?_⟩; go_big_quiet_on))
        refine wpQuiet_nil ?_
        intro w2 h2
        have hB2 := Lib.hid (hb'.out.trans (h2.mono hb'.out.size))
        clear h2
        go_wp2
        have h32 := Lib.hid (link_32 he'.out hh.out)
        go_ret
        exact ⟨by rw [h32.out]; try rfl, hS.out.trans (hB2.out.mono hS.out.size)⟩
    · have hri : riseF F n = true := rise_yes fun j hj => hup.out j (by omega)
      have hri' := Lib.hid hri
      have x7 : ¬ (k : Int) < (n : Int) - 1 := by omega
      have cW1 : wr.cell? ⟨w.heap.size, 1, none⟩ = some (.slice oa n oc) := by rw [cell_of_row _ _ _ _ _ _ (hrw.out wr hb'.out)]; rfl
      clear hri hup hk hwn
      go_wp2
      clear cW1
      go_loopw [30] (fun i wr => ∃ m : Nat, m ≤ n ∧ i = .int .i64 (m : Int) ∧ Below W.heap.size W wr ∧ ∀ j, j < m → allF F n (nthO L j).F (nthO L j).n = true) (fun i _ => n - (intOf i).toNat)
      case atStart => exact ⟨0, Nat.zero_le _, rfl, hb'.out, fun j hj => absurd hj (Nat.not_lt_zero _)⟩
      case round =>
        obtain ⟨m, hmn, rfl, hbi, hall⟩ := hrel
        have hall' := Lib.hid hall; have hbi' := Lib.hid hbi
        clear hall hbi
        by_cases hlt2 : m < n
        · obtain ⟨b, o, pa, pc, rfl, hbw, hnc, q1, q2⟩ := rdO_at hO'.out hn'.out (hS.out.trans (hbi'.out.mono hS.out.size)) m hlt2
          have q1' := Lib.hid q1
          have q2' := Lib.hid q2
          have hno := Lib.hid (fun (h : allF F n (nthO L m).F (nthO L m).n = false) => clos_false m (by have := hn'.out; omega) h)
          have hyes := Lib.hid (fun (h : allF F n (nthO L m).F (nthO L m).n = true) => (show ∀ j, j < m + 1 → allF F n (nthO L j).F (nthO L j).n = true from fun j hj => by
            rcases Nat.lt_or_ge j m with h1 | h1
            · exact hall'.out j h1
            · obtain rfl : j = m := by omega
              exact h))
          have hA := Lib.hid (fun (wz : World) (h : RdI wz (.slice ia n ic) n F) (h2 : RdI wz (.slice pa (nthO L m).n pc) (nthO L m).n (nthO L m).F) => hasAll_any F n (.slice ia n ic) (nthO L m).F (nthO L m).n (.slice pa (nthO L m).n pc) wz h hF'.out hm hri'.out h2 (hfit'.out m hlt2).2 (hfit'.out m hlt2).1)
          have hmI : (m : Int) < (n : Int) := by omega
          clear q1 q2
          generalize allF F n (nthO L m).F (nthO L m).n = MB at *
          generalize nthO L m = od at *
          obtain ⟨pn, hpn⟩ : ∃ x, od.n = x := ⟨_, rfl⟩
          rw [hpn] at q1' q2' hA
          clear hpn
          have i1 : Hid ((Tryz.prog.info? 35).map (·.size) = some (od.c (.slice pa pn pc)).toList.length) := Lib.hid info_op
          cases MB with
          | true =>
            go_wp2_with (first
              | (refine wpList_load_mid_g rfl 35 _ rfl b (o + m * 11) rfl (od.c (.slice pa pn pc)) _ q1'.out Tryz.underlying35 rfl i1.out ?_)
              | (refine storeNew _ rfl 35 _ _ rfl (od.c (.slice pa pn pc)) 35 rfl rfl info_op rfl (op_one od pa pn pc) ?_; intro wx hrx hbx; have hbx' := Lib.hid (hbi'.out.trans (Below.mono hbx hbi'.out.size)); have cI : wx.cell? ⟨w.heap.size, 0, none⟩ = some (.slice ia n ic) := hcw.out wx hbx'.out; have cP : wx.cell? ⟨wr.heap.size, 1, none⟩ = some (.slice pa pn pc) := (by rw [cell_of_row _ _ _ _ _ _ hrx]; rfl); have hIx := Lib.hid (hI'.out.mono (hS.out.trans (hbx'.out.mono hS.out.size))); have hPx := Lib.hid (q2'.out.mono hbx); clear hrx hbx)
              | (go_at_call 70; (with_reducible refine (hA.out _ hIx.out hPx.out).mono ?_); rintro e9 w4 ⟨rfl, z2⟩; have hB2 := Lib.hid (hbx'.out.trans (z2.mono hbx'.out.size)); clear z2 cI cP))
            go_roundw
            case rel => exact ⟨m + 1, by omega, by go_num, hB2.out, hyes.out trivial⟩
            case measure => simp [intOf]; omega
          | false =>
            go_wp2_with (first
              | (refine wpList_load_mid_g rfl 35 _ rfl b (o + m * 11) rfl (od.c (.slice pa pn pc)) _ q1'.out Tryz.underlying35 rfl i1.out ?_)
              | (refine storeNew _ rfl 35 _ _ rfl (od.c (.slice pa pn pc)) 35 rfl rfl info_op rfl (op_one od pa pn pc) ?_; intro wx hrx hbx; have hbx' := Lib.hid (hbi'.out.trans (Below.mono hbx hbi'.out.size)); have cI : wx.cell? ⟨w.heap.size, 0, none⟩ = some (.slice ia n ic) := hcw.out wx hbx'.out; have cP : wx.cell? ⟨wr.heap.size, 1, none⟩ = some (.slice pa pn pc) := (by rw [cell_of_row _ _ _ _ _ _ hrx]; rfl); have hIx := Lib.hid (hI'.out.mono (hS.out.trans (hbx'.out.mono hS.out.size))); have hPx := Lib.hid (q2'.out.mono hbx); clear hrx hbx)
              | (go_at_call 70; (with_reducible refine (hA.out _ hIx.out hPx.out).mono ?_); rintro e9 w4 ⟨rfl, z2⟩; have hB2 := Lib.hid (hbx'.out.trans (z2.mono hbx'.out.size)); clear z2 cI cP))
            have h40 := Lib.hid (link_40 he'.out hri'.out (hno.out trivial))
            go_ret
            exact ⟨by rw [h40.out]; try rfl, hS.out.trans (hB2.out.mono hS.out.size)⟩
        · obtain rfl : m = n := by omega
          have hcl : closB F m L = true := clos_iff.2 fun i hi => hall'.out i (by have := hn'.out; omega)
          have hlk := Lib.hid (links_any F m L (.slice ia m ic) (.slice oa m oc) wr (hI'.out.mono (hS.out.trans (hbi'.out.mono hS.out.size))) hF'.out (hO'.out.mono (hS.out.trans (hbi'.out.mono hS.out.size))) hn'.out hm hri'.out hcl hfit'.out)
          have hcl' := Lib.hid hcl
          have rg := Lib.hid (hrw.out wr hbi'.out)
          clear hcl
          go_upto_region 13 with fail
          go_upto_if 43 with (first
            | (refine wpList_load_row_g rfl 41 _ rfl w.heap.size rfl 41 (gC (.slice ia m ic) (.slice oa m oc)) (0, 0) _ rg.out Tryz.underlying41 rfl info_g ?_)
            | (go_at_call 119; (with_reducible refine (hlk.out).mono ?_); rintro e9 w4 ⟨v, B, rfl, z1, z2, z3, z4⟩; have hz3 := Lib.hid z3; have hz2 := Lib.hid z2; have hB4 := Lib.hid (hbi'.out.trans (z4.mono hbi'.out.size)); have hcy := Lib.hid (hasCycle_any B v m w4 z1 z2 hm (lnk_in z3 fun i hi => (hfit'.out i hi).1)); clear z1 z2 z3 z4)
            | (go_at_call 118; (with_reducible refine (hcy.out).mono ?_); rintro e9 w5 ⟨r, hr, rfl, z4⟩; have hr' := Lib.hid hr; have hB5 := Lib.hid (hB4.out.trans (z4.mono hB4.out.size)); clear hr z4))
          have hiff := tkB_all hn'.out hz2.out hri'.out hz3.out
          cases r with
          | true =>
            have h36 := Lib.hid (link_36 he'.out hri'.out hcl'.out (fun h => hr'.out.1 rfl (hiff.2 h)))
            clear hiff
            go_wp2
            go_ret
            exact ⟨by rw [h36.out]; try rfl, hS.out.trans (hB5.out.mono hS.out.size)⟩
          | false =>
            have hall2 : ∀ i, i < m → TkB B i := Classical.not_not.1 fun h => by have := hr'.out.2 h; cases this
            have h00 := Lib.hid (link_0 he'.out hri'.out hcl'.out (hiff.1 hall2))
            clear hiff hall2
            go_wp2
            go_ret
            exact ⟨by rw [h00.out]; try rfl, hS.out.trans (hB5.out.mono hS.out.size)⟩
end Go.Proofs.YtlbgffhipondiaaGreatDoor.wir.val
namespace Go.Proofs.YtlbgffhipondiaaGreatDoor.wir.val
open Go.RowKit Go.YtlbgffhipondiaaGreatDoor
set_option linter.unusedVariables false
theorem qa_neqI {C : World → Prop} {a : Act} {o : Oper} (x y : Operand) (A B : List Int) (hA : A.length = 32) (hB : B.length = 32) (R : Bool) (hR : (!decide (A = B)) = R) (ho : o.op = .binOp .neq 24 x y 24)
    (hx : a.eval x = .agg (u8s A)) (hy : a.eval y = .agg (u8s B)) : ∀ w, C w → o.quietAt Tryz.prog a C w (.bool R) := by
  intro w _; subst hR; refine qa_ok ?_
  have h0 : Tryz.prog.eqGuardType Tryz.prog.depth 24 = false := by kernel_rfl
  have hg := run_eqGuard_agg (P := Tryz.prog) w .neq 24 x y (u8s A) (u8s B) h0
  have he := run_neqArr (P := Tryz.prog) w 24 5 32 Tryz.underlying24 Tryz.underlying5 (by kernel_rfl) A B hA hB
  unfold execOp
  generalize a.eval = ev at *
  simp only [ho]
  simp only [hx, hy] at *
  simp [hg, he]
set_option maxHeartbeats 8000000 in
set_option maxRecDepth 100000 in
theorem named_any (F : List Int) (n : Nat) (L : List Od) (iv ov : Value) (w : World) (hI : RdI w iv n F) (hO : RdO w ov L) (hm : L.length ≤ 100000) (hfit : ∀ i, i < L.length → (nthO L i).Fit) (hG0 : GlobW w) (hn0 : n ≤ 140737488355328) :
    Calls Tryz.prog 79 #[.agg (gC iv ov)] w fun e w' => e = .returned (.bool (nameB F n L)) ∧ Below w.heap.size w w' := by
  have hlen := Lib.hid hI.len
  obtain ⟨ia, ic, rfl⟩ := hI.slice
  obtain ⟨oa, oc, rfl⟩ := hO.slice
  obtain ⟨m, hmL⟩ : ∃ m, L.length = m := ⟨_, rfl⟩
  have hm' := Lib.hid hmL
  rw [hmL] at hO hm ⊢
  obtain ⟨W, hW⟩ : ∃ W, W = w.alloc (.cells (gC (.slice ia n ic) (.slice oa m oc)) 41) := ⟨_, rfl⟩
  have hS := Lib.hid (show Below w.heap.size w W by rw [hW]; exact below_a w _)
  have r0 := Lib.hid (show W.heap[w.heap.size]? = some (.cells (gC (.slice ia n ic) (.slice oa m oc)) 41 (0, 0)) by rw [hW]; exact heap_alloc_new w _)
  have hrw := Lib.hid (fun (wz : World) (h : Below W.heap.size W wz) => rowB r0.out h (Array.getElem?_eq_some_iff.1 r0.out).1)
  have hcw := Lib.hid (fun (wz : World) (h : Below W.heap.size W wz) => (show wz.cell? ⟨w.heap.size, 0, none⟩ = some (.slice ia n ic) by rw [cell_of_row _ _ _ _ _ _ (hrw.out wz h)]; rfl))
  have hI' := Lib.hid hI; have hO' := Lib.hid hO; have hfit' := Lib.hid hfit; have hG' := Lib.hid hG0
  have cW0 : W.cell? ⟨w.heap.size, 0, none⟩ = some (.slice ia n ic) := hcw.out W (Below.refl _ _)
  have cW1 : W.cell? ⟨w.heap.size, 1, none⟩ = some (.slice oa m oc) := by rw [cell_of_row _ _ _ _ _ _ r0.out]; rfl
  have hsz := Lib.hid (fun h => name_size (F := F) (n := n) (L := L) h)
  have hnf := Lib.hid (fun i hi h => name_false (F := F) (n := n) (L := L) i hi h)
  have hni := Lib.hid (fun h => (name_iff (F := F) (n := n) (L := L)).2 h)
  rw [hmL] at hsz hnf hni hfit'
  clear hI hO hfit hG0 hmL
  generalize nameB F n L = NB at *
  by_cases hnm : n = m
  · subst hnm
    have hni2 := Lib.hid (fun h => hni.out ⟨rfl, h⟩)
    clear hni hsz
    go_enter Tryz.func79, Tryz.ntmps79
    go_upto_region 1 with fail
    rw [← hW]
    clear hW
    go_wp2
    clear cW0 cW1
    go_loopw [17] (fun i wr => ∃ k : Nat, k ≤ n ∧ i = .int .i64 (k : Int) ∧ Below W.heap.size W wr ∧ ∀ j, j < k → goodB (nthO L j) (idF F j) = true) (fun i _ => n - (intOf i).toNat)
    case atStart => exact ⟨0, Nat.zero_le _, rfl, Below.refl _ _, fun j hj => absurd hj (Nat.not_lt_zero _)⟩
    case round =>
      obtain ⟨k, hk, rfl, hb, he⟩ := hrel
      have he' := Lib.hid he; have hb' := Lib.hid hb
      clear he hb
      by_cases hlt : k < n
      · have hbS := Lib.hid (hS.out.trans (hb'.out.mono hS.out.size))
        obtain ⟨b, o, pa, pc, rfl, hbw, hnc, q1, q2⟩ := rdO_at hO'.out hm'.out hbS.out k hlt
        obtain ⟨b2, o2, rfl, hbw2, hnc2, q3, _⟩ := rdI_at hI'.out hbS.out k hlt
        have q1' := Lib.hid q1
        have q2' := Lib.hid q2
        have q3' := Lib.hid q3
        have l1 := Lib.hid (idF_length F n k hlen.out hlt)
        have hft := Lib.hid (hfit'.out k hlt)
        have hGr := Lib.hid (hG'.out.mono hbS.out)
        have hno := Lib.hid (fun (h : goodB (nthO L k) (idF F k) = false) => hnf.out k hlt h)
        have hyes := Lib.hid (fun (h : goodB (nthO L k) (idF F k) = true) => (show ∀ j, j < k + 1 → goodB (nthO L j) (idF F j) = true from fun j hj => by
          rcases Nat.lt_or_ge j k with h1 | h1
          · exact he'.out j h1
          · obtain rfl : j = k := by omega
            exact h))
        have hkI : (k : Int) < (n : Int) := by omega
        clear q1 q2 q3 hnf hfit'
        generalize idF F k = A at *
        generalize nthO L k = od at *
        have hv1 := Lib.hid (fun (h : verO od = 0) (wz : World) (hz : RdI wz (.slice pa od.n pc) od.n od.F) (hg : GlobW wz) => verified_ok od hft.out (.slice pa od.n pc) wz hz hg h)
        have hv2 := Lib.hid (fun (h : verO od ≠ 0) (wz : World) (hz : RdI wz (.slice pa od.n pc) od.n od.F) (hg : GlobW wz) => verified_bad od hft.out (.slice pa od.n pc) wz hz hg h)
        have i1 : Hid ((Tryz.prog.info? 35).map (·.size) = some (od.c (.slice pa od.n pc)).toList.length) := Lib.hid info_op
        obtain ⟨D, ve, hD, hve, hgood⟩ : ∃ (D : List Int) (ve : Int), D.length = 32 ∧ (∀ wz, RdI wz (.slice pa od.n pc) od.n od.F → GlobW wz → Calls Tryz.prog 66 #[.agg (od.c (.slice pa od.n pc))] wz fun e w' => e = .returned (.tuple #[.agg (u8s D), .int .i64 ve]) ∧ Below wz.heap.size wz w') ∧ goodB od A = (decide (ve = 0) && decide (D = A)) := by
          by_cases h : verO od = 0
          · refine ⟨shaF (encO od), 0, shaF_length _, fun wz hz hg => hv1.out h wz hz hg, ?_⟩
            unfold goodB; rw [decide_eq_true h]; rfl
          · refine ⟨zerosB 32, verO od, zerosB_length _, fun wz hz hg => hv2.out h wz hz hg, ?_⟩
            unfold goodB; rw [decide_eq_false h]; rfl
        have hve := Lib.hid hve; have hD := Lib.hid hD
        rw [hgood] at hno hyes
        clear hgood hv1 hv2 hft
        have iD : Hid ((Tryz.prog.info? 24).map (·.size) = some (u8s D).size) := Lib.hid (by rw [u8s_size, hD.out]; kernel_rfl)
        have iA : Hid ((Tryz.prog.info? 24).map (·.size) = some (idV A).length) := Lib.hid (by rw [idV_length, l1.out]; kernel_rfl)
        have dsz : Hid (∀ X : Array Value, X.size = 32 → X.size = (u8s D).size) := Lib.hid (fun X hX => by rw [hX, u8s_size, hD.out])
        go_upto_region 7 with (first
          | (refine wpList_load_mid_g rfl 35 _ rfl b (o + k * 11) rfl (od.c (.slice pa od.n pc)) _ q1'.out Tryz.underlying35 rfl i1.out ?_)
          | (refine storeNew _ rfl 35 _ _ rfl (od.c (.slice pa od.n pc)) 35 rfl rfl info_op rfl (op_one od pa od.n pc) ?_; intro wx hrx hbx; have rx := Lib.hid hrx; have hbx' := Lib.hid hbx; have hPx := Lib.hid (q2'.out.mono hbx); have hGx := Lib.hid (hGr.out.mono hbx); clear hrx hbx)
          | (refine wpList_load_row_g rfl 35 _ rfl _ rfl 35 (od.c (.slice pa od.n pc)) (0, 0) _ rx.out Tryz.underlying35 rfl info_op ?_)
          | (go_at_call 66; (with_reducible refine (hve.out _ hPx.out hGx.out).mono ?_); rintro e9 w4 ⟨rfl, z2⟩; have hB4 := Lib.hid (hbx'.out.trans (Below.mono z2 hbx'.out.size)); clear z2)
          | (refine storeNew _ rfl 24 _ _ rfl (u8s D) 24 rfl rfl iD.out (dsz.out _ rfl) (u8s_one _) ?_; intro w5 hrx hbx; have r5 := Lib.hid hrx; have hB5 := Lib.hid (hB4.out.trans (Below.mono hbx hB4.out.size)); clear hrx hbx))
        have hW5 := Lib.hid (hb'.out.trans (hB5.out.mono hb'.out.size))
        have hr5 := Lib.hid (fun (wz : World) (h : Below w5.heap.size w5 wz) => rowB r5.out h (Array.getElem?_eq_some_iff.1 r5.out).1)
        have hc5 := Lib.hid (fun (wz : World) (h : Below w5.heap.size w5 wz) => hcw.out wz (hW5.out.trans (h.mono hW5.out.size)))
        have hA5 := Lib.hid (fun (wz : World) (h : Below w5.heap.size w5 wz) => (show wz.rangeAt b2 (o2 + k * 32) (idV A) from range_below q3'.out (Nat.lt_of_lt_of_le hbw2 hbS.out.size) (hB5.out.trans (h.mono hB5.out.size))))
        obtain ⟨g5, hg5⟩ : ∃ g, g = w4.heap.size := ⟨_, rfl⟩
        rw [← hg5] at hr5 r5 ⊢
        clear hg5
        by_cases hve0 : ve = 0
        · subst hve0
          obtain ⟨R, hR0⟩ : ∃ R, decide (D = A) = R := ⟨_, rfl⟩
          have hR := Lib.hid (show (!decide (D = A)) = !R by rw [hR0])
          rw [hR0] at hno hyes
          clear hR0
          cases R with
          | true =>
            refine wp_region_quiet (C := fun w' => Below w5.heap.size w5 w') (by kernel_rfl) (by kernel_rfl) ((Below.refl _ _).drew) ?_
            simp only []
            iterate 3 (go_big_quiet_want; go_big_quiet_op; first | go_big_quiet_on | (refine ⟨_, fun _ _ => rfl, ?_⟩; go_big_quiet_on))
            refine wpq (.agg (u8s D)) rfl (quiet_row 24 _ rfl g5 rfl 24 (u8s D) (0, 0) _ hr5.out Tryz.underlying24 rfl iD.out) rfl (fun K hK => ?_); go_simp; refine hK _ ?_; clear hK K
            (go_big_quiet_want; go_big_quiet_op; first | go_big_quiet_on | (refine ⟨_, fun _ _ => rfl, ?_⟩; go_big_quiet_on))
            refine wpq (.slice (some ⟨b2, o2, none⟩) n ic) rfl (quiet_cell 26 _ rfl w.heap.size 0 rfl (.slice (some ⟨b2, o2, none⟩) n ic) hc5.out Tryz.isAgg26) rfl (fun K hK => ?_); go_simp; refine hK _ ?_; clear hK K
            iterate 2 (go_big_quiet_want; go_big_quiet_op; first | go_big_quiet_on | (refine ⟨_, fun _ _ => rfl, ?_⟩; go_big_quiet_on))
            refine wpq (.agg (u8s A)) rfl (qa_load_mid 24 _ rfl b2 (o2 + k * 32) rfl A _ Tryz.underlying24 rfl iA.out hA5.out) rfl (fun K hK => ?_); go_simp; refine hK _ ?_; clear hK K
            refine wpq (.bool false) rfl (qa_neqI _ _ D A hD.out l1.out false hR.out rfl rfl rfl) rfl (fun K hK => ?_); go_simp; refine hK _ ?_; clear hK K
            (go_big_quiet_want; go_big_quiet_op; first | go_big_quiet_on | (refine ⟨_, fun _ _ => rfl, ?_⟩; go_big_quiet_on))
            refine wpQuiet_nil ?_
            intro w2 h2
            have hB2 := Lib.hid (hW5.out.trans (h2.mono hW5.out.size))
            clear h2
            go_wp2
            go_roundw
            case rel => exact ⟨k + 1, by omega, by go_num, hB2.out, hyes.out rfl⟩
            case measure => simp [intOf]; omega
          | false =>
            refine wp_region_quiet (C := fun w' => Below w5.heap.size w5 w') (by kernel_rfl) (by kernel_rfl) ((Below.refl _ _).drew) ?_
            simp only []
            iterate 3 (go_big_quiet_want; go_big_quiet_op; first | go_big_quiet_on | (refine ⟨_, fun _ _ => rfl, ?_⟩; go_big_quiet_on))
            refine wpq (.agg (u8s D)) rfl (quiet_row 24 _ rfl g5 rfl 24 (u8s D) (0, 0) _ hr5.out Tryz.underlying24 rfl iD.out) rfl (fun K hK => ?_); go_simp; refine hK _ ?_; clear hK K
            (go_big_quiet_want; go_big_quiet_op; first | go_big_quiet_on | (refine ⟨_, fun _ _ => rfl, ?_⟩; go_big_quiet_on))
            refine wpq (.slice (some ⟨b2, o2, none⟩) n ic) rfl (quiet_cell 26 _ rfl w.heap.size 0 rfl (.slice (some ⟨b2, o2, none⟩) n ic) hc5.out Tryz.isAgg26) rfl (fun K hK => ?_); go_simp; refine hK _ ?_; clear hK K
            iterate 2 (go_big_quiet_want; go_big_quiet_op; first | go_big_quiet_on | (refine ⟨_, fun _ _ => rfl, ?_⟩; go_big_quiet_on))
            refine wpq (.agg (u8s A)) rfl (qa_load_mid 24 _ rfl b2 (o2 + k * 32) rfl A _ Tryz.underlying24 rfl iA.out hA5.out) rfl (fun K hK => ?_); go_simp; refine hK _ ?_; clear hK K
            refine wpq (.bool true) rfl (qa_neqI _ _ D A hD.out l1.out true hR.out rfl rfl rfl) rfl (fun K hK => ?_); go_simp; refine hK _ ?_; clear hK K
            (go_big_quiet_want; go_big_quiet_op; first | go_big_quiet_on | (refine ⟨_, fun _ _ => rfl, ?_⟩; go_big_quiet_on))
            refine wpQuiet_nil ?_
            intro w2 h2
            have hB2 := Lib.hid (hW5.out.trans (h2.mono hW5.out.size))
            clear h2
            go_wp2
            have hh := Lib.hid (hno.out rfl)
            go_ret
            exact ⟨by rw [hh.out]; try rfl, hS.out.trans (hB2.out.mono hS.out.size)⟩
        · have hh := Lib.hid (hno.out (by rw [decide_eq_false hve0]; rfl))
          have hve1 : (ve != 0) = true := by simpa using hve0
          clear hno hyes
          refine wp_region_quiet (C := fun w' => Below w5.heap.size w5 w') (by kernel_rfl) (by kernel_rfl) ((Below.refl _ _).drew) ?_
          simp only []
          iterate 3 (go_big_quiet_want; go_big_quiet_op; first | go_big_quiet_on | (refine ⟨_, fun _ _ => rfl, ?_⟩; go_big_quiet_on))
          iterate 7 go_big_quiet_skip
          (go_big_quiet_want; go_big_quiet_op; first | go_big_quiet_on | (refine ⟨_, fun _ _ => rfl, ?_⟩; go_big_quiet_on))
          refine wpQuiet_nil ?_
          intro w2 h2
          have hB2 := Lib.hid (hW5.out.trans (h2.mono hW5.out.size))
          clear h2
          go_wp2
          go_ret
          exact ⟨by rw [hh.out]; try rfl, hS.out.trans (hB2.out.mono hS.out.size)⟩
      · obtain rfl : k = n := by omega
        have hh := Lib.hid (hni2.out he'.out)
        go_wp2
        go_ret
        exact ⟨by rw [hh.out]; try rfl, hS.out.trans (hb'.out.mono hS.out.size)⟩
  · have hnI : ((n : Int) != (m : Int)) = true := by simp; omega
    have hh := Lib.hid (hsz.out hnm)
    clear hni hsz hnf
    go_enter Tryz.func79, Tryz.ntmps79
    go_upto_region 1 with fail
    rw [← hW]
    clear hW
    go_wp2
    go_ret
    exact ⟨by rw [hh.out]; try rfl, hS.out⟩
end Go.Proofs.YtlbgffhipondiaaGreatDoor.wir.val
namespace Go.Proofs.YtlbgffhipondiaaGreatDoor.wir.val
open Go.RowKit Go.YtlbgffhipondiaaGreatDoor
set_option linter.unusedVariables false
set_option maxHeartbeats 4000000 in
set_option maxRecDepth 100000 in
theorem copiedD_any (o : Od) (hn : o.n ≤ 20) (hk : o.key.size ≤ 1000000) (hv : o.v.s.size ≤ 1000000) (pv : Value) (w : World) (hp : RdI w pv o.n o.F) :
    Calls Tryz.prog 72 #[.agg (o.c pv)] w fun e w' => ∃ qv, e = .returned (.agg (o.c qv)) ∧ OwnI w.heap.size 24 w' qv o.n o.F ∧ Below w.heap.size w w' := by
  obtain ⟨W, hW⟩ : ∃ W, W = (w.alloc (.cells (o.c pv) 35)).alloc (.cells (zO.c (.slice none 0 0)) 35) := ⟨_, rfl⟩
  have hr0 : W.heap[w.heap.size]? = some (.cells (o.c pv) 35 (0, 0)) := by rw [hW]; exact rowB (heap_alloc_new w _) (below_a _ _) (by simp)
  have hr1 : W.heap[w.heap.size + 1]? = some (.cells (zO.c (.slice none 0 0)) 35 (0, 0)) := by rw [hW]; exact hn2 w _ _
  have hb0 : Below w.heap.size w W := by rw [hW]; exact ((Below.refl w.heap.size w).alloc (Nat.le_refl _) _).alloc (by simp) _
  obtain ⟨pa, pc, rfl⟩ := hp.slice
  have hb1 := Lib.hid hb0
  have hrow := Lib.hid hr0
  have hres := Lib.hid hr1
  have hlt := Lib.hid (Array.getElem?_eq_some_iff.1 hr0).1
  have hlt1 := Lib.hid (Array.getElem?_eq_some_iff.1 hr1).1
  have hp1 := Lib.hid (hp.mono hb0)
  have hc1 : W.cell? ⟨w.heap.size, 1, none⟩ = some (.slice pa o.n pc) := by rw [cell_of_row _ _ _ _ _ _ hr0]; rfl
  have hcl1 := Lib.hid (fun wz => clone_any o.key hk wz)
  have hcl2 := Lib.hid (fun wz => clone_any o.v.s hv wz)
  clear hr0 hr1 hb0 hp
  go_enter Tryz.func72, Tryz.ntmps72
  go_upto_region 1 with fail
  change Code.wp _ _ _ _ ((w.alloc (.cells (o.c (.slice pa o.n pc)) 35)).alloc (.cells (zO.c (.slice none 0 0)) 35))
  rw [← hW]
  clear hW
  go_wp2_with (refine appendIs rfl _ _ 26 rfl W.heap.size 24 Tryz.underlying26 (by kernel_rfl) _ rfl 0 [] (ownI_any W _) _ rfl o.n o.F hp1.out (by omega) (Nat.le_refl _) ?_)
  intro v2 w2 h1 h2
  have hB2 := Lib.hid ((ownI_any W W.heap.size).below h2 (Nat.le_refl _))
  have hq0 := Lib.hid (show OwnI W.heap.size 24 w2 v2 o.n o.F by simpa using h1)
  obtain ⟨qa, qc, rfl⟩ := hq0.out.rd.slice
  have hr2 := Lib.hid (rowB hrow.out hB2.out hlt.out)
  have hs2 := Lib.hid (rowB hres.out hB2.out hlt1.out)
  have f1 := frozen_of_row w2 w.heap.size 1 _ _ hr2.out
  have k1 : w2.cell? ⟨w.heap.size, 1, none⟩ = some (.slice pa o.n pc) := by rw [cell_of_row _ _ _ _ _ _ hr2.out]; rfl
  have hset := Lib.hid (show w2.setCell ⟨w.heap.size, 1, none⟩ (.slice qa o.n qc) = w2.setRow w.heap.size (o.c (.slice qa o.n qc)) from setCell_eq hr2.out 1 (.slice qa o.n qc))
  clear h1 h2
  refine Stop.go ?_
  go_upto_region 2 with fail
  rw [hset.out]
  have hr3 := Lib.hid (setRow_heap w2 w.heap.size _ (o.c (.slice qa o.n qc)) _ _ hr2.out)
  have hs3 := Lib.hid ((setRow_other w2 w.heap.size (w.heap.size + 1) (o.c (.slice qa o.n qc)) (by omega)).trans hs2.out)
  have hB3 := Lib.hid (show Below w.heap.size w (w2.setRow w.heap.size (o.c (.slice qa o.n qc))) from below_setRow' (hb1.out.trans (hB2.out.mono hb1.out.size)) (Nat.le_refl _) _)
  have hq := Lib.hid (ownI_setRow hq0.out hlt.out (o.c (.slice qa o.n qc)))
  clear hset hq0 f1 k1 hr2 hs2 hB2 hc1 hp1 hrow hres
  generalize w2.setRow w.heap.size (o.c (.slice qa o.n qc)) = w3 at *
  have c4 : w3.cell? ⟨w.heap.size, 4, none⟩ = some (.string o.key) := by rw [cell_of_row _ _ _ _ _ _ hr3.out]; rfl
  go_upto_region 3 with (go_at_call 120; (with_reducible refine (hcl1.out _).mono ?_); rintro e w4 ⟨rfl, q2⟩; replace hr3 := Lib.hid (rowB hr3.out q2 (Array.getElem?_eq_some_iff.1 hr3.out).1); replace hs3 := Lib.hid (rowB hs3.out q2 (Array.getElem?_eq_some_iff.1 hs3.out).1); replace hq := Lib.hid (hq.out.kept q2); replace hB3 := Lib.hid (hB3.out.trans (Below.mono q2 hB3.out.size)); have hsame := Lib.hid (show w4.setCell ⟨w.heap.size, 4, none⟩ (.string o.key) = w4 from (setCell_eq hr3.out 4 (.string o.key)).trans (setRow_self w4 w.heap.size (o.c (.slice qa o.n qc)) _ _ hr3.out)); have f1 := frozen_of_row w4 w.heap.size 4 _ _ hr3.out; have k1 := (cell_of_row w4 w.heap.size 4 _ _ _ hr3.out); clear q2)
  rw [hsame.out]
  clear c4 hsame f1 k1
  have c8 : w4.cell? ⟨w.heap.size, 8, none⟩ = some (.string o.v.s) := by rw [cell_of_row _ _ _ _ _ _ hr3.out]; rfl
  go_upto_region 4 with (go_at_call 120; (with_reducible refine (hcl2.out _).mono ?_); rintro e w4 ⟨rfl, q2⟩; replace hr3 := Lib.hid (rowB hr3.out q2 (Array.getElem?_eq_some_iff.1 hr3.out).1); replace hs3 := Lib.hid (rowB hs3.out q2 (Array.getElem?_eq_some_iff.1 hs3.out).1); replace hq := Lib.hid (hq.out.kept q2); replace hB3 := Lib.hid (hB3.out.trans (Below.mono q2 hB3.out.size)); have hsame := Lib.hid (show w4.setCell ⟨w.heap.size, 8, none⟩ (.string o.v.s) = w4 from (setCell_eq hr3.out 8 (.string o.v.s)).trans (setRow_self w4 w.heap.size (o.c (.slice qa o.n qc)) _ _ hr3.out)); have f1 := frozen_of_row w4 w.heap.size 8 _ _ hr3.out; have k1 := (cell_of_row w4 w.heap.size 8 _ _ _ hr3.out); clear q2)
  rw [hsame.out]
  clear c8 hsame f1 k1
  go_wp2_with (first
    | (refine wpList_load_row_g rfl 35 _ rfl w.heap.size rfl 35 (o.c (.slice qa o.n qc)) (0, 0) _ hr3.out Tryz.underlying35 rfl info_op ?_)
    | (refine wpList_store_row rfl 35 _ _ rfl (w.heap.size + 1) (o.c (.slice qa o.n qc)) rfl rfl 35 _ hs3.out info_op rfl (op_one _ _ _ _) ?_))
  exact bodyPost_ret (results_cell_row rfl _ _ (w.heap.size + 1) 35 _ _ _ rfl (setRow_heap _ _ _ _ _ _ hs3.out) Tryz.underlying35 rfl info_op) rfl ⟨_, rfl, (ownI_setRow hq.out hlt1.out _).mono hb1.out.size, below_setRow' hB3.out (by omega) _⟩
set_option maxHeartbeats 4000000 in
set_option maxRecDepth 100000 in
theorem dagCheck_any (F : List Int) (n : Nat) (L : List Od) (iv ov : Value) (e0 : Int) (w : World) (hI : RdI w iv n F) (hF : Bytes F) (hO : RdO w ov L) (hn0 : n ≤ 100000) (hm : L.length ≤ 100000)
    (hfit : ∀ i, i < L.length → (nthO L i).Fit) (hG0 : GlobW w) (he0 : ChkG F n L e0) :
    Calls Tryz.prog 24 #[.agg (gC iv ov)] w fun e w' => e = .returned (.int .i64 e0) ∧ Below w.heap.size w w' := by
  obtain ⟨W, hW⟩ : ∃ W, W = w.alloc (.cells (gC iv ov) 41) := ⟨_, rfl⟩
  have hS := Lib.hid (show Below w.heap.size w W by rw [hW]; exact below_a w _)
  have r0 := Lib.hid (show W.heap[w.heap.size]? = some (.cells (gC iv ov) 41 (0, 0)) by rw [hW]; exact heap_alloc_new w _)
  have hnm := Lib.hid (named_any F n L iv ov W (hI.mono hS.out) (hO.mono hS.out) hm hfit (hG0.mono hS.out) (by omega))
  have hck := Lib.hid (fun (h : LinkG F n L e0) (h2 : L.length = n) (wz : World) (hb : Below W.heap.size W wz) => checkLinks_any F n L iv ov e0 wz ((hI.mono hS.out).mono hb) hF ((hO.mono hS.out).mono hb) h2 hn0 (fun i hi => ⟨(hfit i (by omega)).n, (hfit i (by omega)).F⟩) h)
  have hnn := Lib.hid (fun (h : nameB F n L = true) => (name_iff.1 h).1)
  obtain ⟨ia, ic, rfl⟩ := hI.slice
  obtain ⟨oa, oc, rfl⟩ := hO.slice
  have cO : W.cell? ⟨w.heap.size, 1, none⟩ = some (.slice oa L.length oc) := by rw [cell_of_row _ _ _ _ _ _ r0.out]; rfl
  clear hI hO hF hfit hG0
  unfold ChkG at he0
  generalize nameB F n L = NB at *
  rcases he0 with ⟨h1, rfl⟩ | ⟨h1, h2, rfl⟩ | ⟨h1, h2, h3⟩
  · have i1 : (60 : Int) < (L.length : Int) := by omega
    clear hck hnn hnm
    generalize L.length = m at *
    go_enter Tryz.func24, Tryz.ntmps24
    go_upto_region 1 with fail
    rw [← hW]
    clear hW
    go_wp2
    go_ret
    exact ⟨rfl, hS.out⟩
  · have i1 : ¬ (60 : Int) < (L.length : Int) := by omega
    subst h2
    clear hck hnn
    generalize L.length = m at *
    go_enter Tryz.func24, Tryz.ntmps24
    go_upto_region 1 with fail
    rw [← hW]
    clear hW
    go_wp2_with (first
      | (refine wpList_load_row_g rfl 41 _ rfl w.heap.size rfl 41 (gC (.slice ia n ic) (.slice oa m oc)) (0, 0) _ r0.out Tryz.underlying41 rfl info_g ?_)
      | (go_at_call 79; (with_reducible refine (hnm.out).mono ?_); rintro e9 w4 ⟨rfl, z2⟩; have hB4 := Lib.hid z2; clear z2))
    go_ret
    exact ⟨rfl, hS.out.trans (hB4.out.mono hS.out.size)⟩
  · have i1 : ¬ (60 : Int) < (L.length : Int) := by omega
    have hck2 := Lib.hid (hck.out h3 (hnn.out h2).symm)
    subst h2
    clear hck hnn h3
    generalize L.length = m at *
    go_enter Tryz.func24, Tryz.ntmps24
    go_upto_region 1 with fail
    rw [← hW]
    clear hW
    go_wp2_with (first
      | (refine wpList_load_row_g rfl 41 _ rfl w.heap.size rfl 41 (gC (.slice ia n ic) (.slice oa m oc)) (0, 0) _ r0.out Tryz.underlying41 rfl info_g ?_)
      | (go_at_call 79; (with_reducible refine (hnm.out).mono ?_); rintro e9 w4 ⟨rfl, z2⟩; have hB4 := Lib.hid z2; replace r0 := Lib.hid (rowB r0.out z2 (Array.getElem?_eq_some_iff.1 r0.out).1); clear z2)
      | (go_at_call 69; (with_reducible refine (hck2.out _ hB4.out).mono ?_); rintro e9 w5 ⟨rfl, z2⟩; have hB5 := Lib.hid (hB4.out.trans (z2.mono hB4.out.size)); clear z2))
    go_ret
    exact ⟨rfl, hS.out.trans (hB5.out.mono hS.out.size)⟩
set_option maxHeartbeats 4000000 in
set_option maxRecDepth 100000 in
theorem dagHas_any (F : List Int) (n : Nat) (L : List Od) (iv ov : Value) (x : List Int) (e0 : Int) (w : World) (hI : RdI w iv n F) (hF : Bytes F) (hO : RdO w ov L) (hn0 : n ≤ 100000) (hm : L.length ≤ 100000)
    (hfit : ∀ i, i < L.length → (nthO L i).Fit) (hG0 : GlobW w) (he0 : ChkG F n L e0) (hx : x.length = 32) (hxb : Bytes x) :
    Calls Tryz.prog 41 #[.agg (gC iv ov), .agg (u8s x)] w fun e w' => e = .returned (.tuple #[.bool (decide (e0 = 0) && memF F n x), .int .i64 e0]) ∧ Below w.heap.size w w' := by
  obtain ⟨W, hW⟩ : ∃ W, W = (w.alloc (.cells (gC iv ov) 41)).alloc (.cells (u8s x) 24) := ⟨_, rfl⟩
  have hS := Lib.hid (show Below w.heap.size w W by rw [hW]; exact ((Below.refl w.heap.size w).alloc (Nat.le_refl _) _).alloc (by simp) _)
  have r0 := Lib.hid (show W.heap[w.heap.size]? = some (.cells (gC iv ov) 41 (0, 0)) by rw [hW]; exact rowB (heap_alloc_new w _) (below_a _ _) (by simp))
  have r1 := Lib.hid (show W.heap[w.heap.size + 1]? = some (.cells (u8s x) 24 (0, 0)) by rw [hW]; exact hn2 w _ _)
  have hck := Lib.hid (dagCheck_any F n L iv ov e0 W (hI.mono hS.out) hF (hO.mono hS.out) hn0 hm hfit (hG0.mono hS.out) he0)
  have hpl := Lib.hid (fun (h : riseF F n = true) (wz : World) (hb : Below W.heap.size W wz) => place_any F n iv x wz ((hI.mono hS.out).mono hb) hF hn0 h hx hxb)
  have ix := Lib.hid (show (Tryz.prog.info? 24).map (·.size) = some (u8s x).size by rw [u8s_size, hx]; kernel_rfl)
  have hz := Lib.hid (fun h : e0 = 0 => (chkG_zero (show ChkG F n L 0 by rw [← h]; exact he0)).2.2.1)
  obtain ⟨ia, ic, rfl⟩ := hI.slice
  obtain ⟨oa, oc, rfl⟩ := hO.slice
  clear hI hO hF hfit hG0 hx hxb he0
  generalize L.length = m at *
  by_cases h0 : e0 = 0
  · subst h0
    have hpl2 := Lib.hid (hpl.out (hz.out rfl))
    clear hpl hz
    generalize memF F n x = MB at *
    go_enter Tryz.func41, Tryz.ntmps41
    go_upto_region 1 with fail
    rw [← hW]
    clear hW
    go_wp2_with (first
      | (refine wpList_load_row_g rfl 41 _ rfl w.heap.size rfl 41 (gC (.slice ia n ic) (.slice oa m oc)) (0, 0) _ r0.out Tryz.underlying41 rfl info_g ?_)
      | (refine wpList_load_row_g rfl 24 _ rfl (w.heap.size + 1) rfl 24 (u8s x) (0, 0) _ r1.out Tryz.underlying24 rfl ix.out ?_)
      | (go_at_call 24; (with_reducible refine (hck.out).mono ?_); rintro e9 w4 ⟨rfl, z2⟩; have hB4 := Lib.hid z2; replace r0 := Lib.hid (rowB r0.out z2 (Array.getElem?_eq_some_iff.1 r0.out).1); replace r1 := Lib.hid (rowB r1.out z2 (Array.getElem?_eq_some_iff.1 r1.out).1); have cI : w4.cell? ⟨w.heap.size, 0, none⟩ = some (.slice ia n ic) := (by rw [cell_of_row _ _ _ _ _ _ r0.out]; rfl); clear z2)
      | (go_at_call 67; (with_reducible refine (hpl2.out _ hB4.out).mono ?_); rintro e9 w5 ⟨p, _, rfl, z2⟩; have hB5 := Lib.hid (hB4.out.trans (z2.mono hB4.out.size)); clear z2 cI))
    go_ret2
    exact ⟨by simp, hS.out.trans (hB5.out.mono hS.out.size)⟩
  · have hx0 : (e0 != 0) = true := by simpa using h0
    rw [decide_eq_false h0, Bool.false_and]
    clear hpl hz h0
    go_enter Tryz.func41, Tryz.ntmps41
    go_upto_region 1 with fail
    rw [← hW]
    clear hW
    go_wp2_with (first
      | (refine wpList_load_row_g rfl 41 _ rfl w.heap.size rfl 41 (gC (.slice ia n ic) (.slice oa m oc)) (0, 0) _ r0.out Tryz.underlying41 rfl info_g ?_)
      | (go_at_call 24; (with_reducible refine (hck.out).mono ?_); rintro e9 w4 ⟨rfl, z2⟩; have hB4 := Lib.hid z2; clear z2))
    go_ret2
    exact ⟨rfl, hS.out.trans (hB4.out.mono hS.out.size)⟩
/-- What Get answers. -/
def getD (F : List Int) (n : Nat) (L : List Od) (x : List Int) (e0 : Int) (e : Ending) (w w' : World) : Prop :=
  (e0 ≠ 0 ∧ e = .returned (.tuple #[.agg (zO.c (.slice none 0 0)), .int .i64 e0])) ∨ (e0 = 0 ∧ memF F n x = false ∧ e = .returned (.tuple #[.agg (zO.c (.slice none 0 0)), .int .i64 6])) ∨
  (e0 = 0 ∧ ∃ p qa qc, p < n ∧ idF F p = x ∧ e = .returned (.tuple #[.agg ((nthO L p).c (.slice qa (nthO L p).n qc)), .int .i64 0]) ∧ RdI w' (.slice qa (nthO L p).n qc) (nthO L p).n (nthO L p).F)
end Go.Proofs.YtlbgffhipondiaaGreatDoor.wir.val
namespace Go.Proofs.YtlbgffhipondiaaGreatDoor.wir.val
open Go.ChangeShapes Go.WideShapes Go.ChangeAt Go.WideMaps Go.WideElems Go.RowKit Go.Joins Go.YtlbgffhipondiaaGreatDoor
set_option linter.unusedVariables false
theorem nthO_pre (L M : List Od) (i : Nat) (h : i < L.length) : nthO (L ++ M) i = nthO L i := by
  unfold nthO
  rw [List.getElem?_append_left h]
theorem nthO_last (L : List Od) (s : Od) : nthO (L ++ [s]) L.length = s := by
  unfold nthO
  simp
section
variable {H : Type} {enc : TypeId × Value → H} {W : World}
set_option maxRecDepth 10000 in
theorem trod_opG {fuel : Nat} {cs : List Value} {x : DataW H × List MemPlace} (h0 : DataW.trod enc Tryz.prog W 0 (fun _ => true) true fuel 35 cs = some x) :
    ∃ (o : Od) (pv : Value), cs = (o.c pv).toList ∧ o.Raw ∧ RdI W pv o.n o.F := by
  have hsz : cs.length = 11 := by
    obtain ⟨_, _, _, _, _, _, hl, _⟩ := trod_struct5 Tryz.underlying35 h0
    exact hl.trans (by kernel_rfl)
  obtain ⟨c0, c1, c2, c3, c4, c5, c6, c7, c8, c9, c10, hcs⟩ := array11 (cs := cs.toArray) (by simpa using hsz)
  obtain rfl : cs = [c0, c1, c2, c3, c4, c5, c6, c7, c8, c9, c10] := by simpa using congrArg Array.toList hcs
  have h := h0
  obtain ⟨y0, y1, y2, y3, y4, n, _, e0, e1, e2, e3, e4⟩ := trod_struct5 Tryz.underlying35 h
  have k32 : Tryz.prog.cellsOf 25 = 1 := by kernel_rfl
  have kI : Tryz.prog.cellsOf 26 = 1 := by kernel_rfl
  have k64 : Tryz.prog.cellsOf 27 = 1 := by kernel_rfl
  have kA : Tryz.prog.cellsOf 31 = 6 := by kernel_rfl
  have kS : Tryz.prog.cellsOf 33 = 2 := by kernel_rfl
  have k8 : Tryz.prog.cellsOf 5 = 1 := by kernel_rfl
  have kT : Tryz.prog.cellsOf 9 = 1 := by kernel_rfl
  have kV : Tryz.prog.cellsOf 29 = 4 := by kernel_rfl
  have kN : Tryz.prog.cellsOf 2 = 1 := by kernel_rfl
  dsimp only at e0 e1 e2 e3 e4
  rw [k32] at e0
  rw [kI] at e1
  rw [k64] at e2
  rw [kA] at e3
  rw [kS] at e4
  simp only [Value.cells, List.drop_zero, List.take_succ_cons, List.take_zero, List.drop_succ_cons] at e0 e1 e2 e3 e4
  obtain ⟨au, a0, _, w0⟩ := DataW.trod_int Tryz.underlying25 e0
  obtain ⟨pv, pn, F, a1, hF, hFb⟩ := trod_ids Tryz.underlying26 Tryz.underlying24 Tryz.underlying5 (by kernel_rfl) (by kernel_rfl) e1
  obtain ⟨st, a2, _, w2⟩ := DataW.trod_int Tryz.underlying27 e2
  obtain ⟨z0, z1, z2, n2, _, _, g0, g1, g2⟩ := Deep.trod_struct3 Tryz.underlying31 e3
  obtain ⟨u0, u1, n3, _, _, s0, s1⟩ := trod_struct2 Tryz.underlying33 e4
  dsimp only at g0 g1 g2 s0 s1
  rw [k8] at g0
  rw [kT] at g1
  rw [kV] at g2
  rw [k32] at s0 s1
  simp only [List.drop_zero, List.take_succ_cons, List.take_zero, List.drop_succ_cons] at g0 g1 g2 s0 s1
  obtain ⟨k, b0, _, x0⟩ := DataW.trod_int Tryz.underlying5 g0
  obtain ⟨key, b1, _, x1⟩ := DataW.trod_string Tryz.underlying9 g1
  obtain ⟨q0, q1, q2, q3, n4, _, _, v0, v1, v2, v3⟩ := trod_struct4 Tryz.underlying29 g2
  dsimp only at v0 v1 v2 v3
  rw [k8] at v0
  rw [kN] at v1
  rw [k64] at v2
  rw [kT] at v3
  simp only [List.drop_zero, List.take_succ_cons, List.take_zero, List.drop_succ_cons] at v0 v1 v2 v3
  obtain ⟨vk, d0, _, y0⟩ := DataW.trod_int Tryz.underlying5 v0
  obtain ⟨vn, d1, _, y1⟩ := DataW.trod_int Tryz.underlying2 v1
  obtain ⟨vb, d2, _, y2⟩ := DataW.trod_int Tryz.underlying27 v2
  obtain ⟨vs, d3, _, y3⟩ := DataW.trod_string Tryz.underlying9 v3
  obtain ⟨e, f0, _, t0⟩ := DataW.trod_int Tryz.underlying25 s0
  obtain ⟨s, f1, _, t1⟩ := DataW.trod_int Tryz.underlying25 s1
  obtain ⟨au, rfl, hau⟩ := natOf32 au w0
  obtain ⟨st, rfl, hst⟩ := natOf64 st w2
  obtain ⟨vb, rfl, hvb⟩ := natOf64 vb y2
  obtain ⟨e, rfl, he⟩ := natOf32 e t0
  obtain ⟨s, rfl, hs⟩ := natOf32 s t1
  have hk : 0 ≤ k ∧ k ≤ 255 := by simpa [Lit.wf, IntKind.min, IntKind.max, IntKind.signed, IntKind.bits] using x0
  have hvk : 0 ≤ vk ∧ vk ≤ 255 := by simpa [Lit.wf, IntKind.min, IntKind.max, IntKind.signed, IntKind.bits] using y0
  refine ⟨⟨au, pn, F, st, k, key, ⟨vk, vn, vb, vs⟩, e, s⟩, pv, ?_, ⟨hau, hFb, hst, ⟨hk.1, show k < 256 by omega⟩, ⟨hvk.1, show vk < 256 by omega⟩, boundsOf64 vn y1, hvb, he, hs⟩, hF⟩
  rw [(List.cons.inj a0).1, (List.cons.inj a1).1, (List.cons.inj a2).1, (List.cons.inj b0).1, (List.cons.inj b1).1, (List.cons.inj d0).1, (List.cons.inj d1).1, (List.cons.inj d2).1, (List.cons.inj d3).1, (List.cons.inj f0).1, (List.cons.inj f1).1]
theorem trod_opsG {fuel : Nat} {cs : List Value} {x : DataW H × List MemPlace}
    (h : DataW.trod enc Tryz.prog W 0 (fun _ => true) true fuel 22 cs = some x) : ∃ v L, cs = [v] ∧ RdO W v L ∧ ∀ i, i < L.length → (nthO L i).Raw := by
  have hc : Tryz.prog.cellsOf 35 = 11 := by kernel_rfl
  rcases DataW.trod_slice Tryz.underlying22 h with ⟨rfl, _⟩ | ⟨a, len, cap, elems, rest, m, _, rfl, _, hb, hl, hm, hlen, hel, _, _⟩
  · exact ⟨_, [], rfl, .inl ⟨none, 0, rfl, fun _ => rfl, rfl⟩, fun i hi => by cases hi⟩
  · have each : ∀ i, i < len → ∃ (o : Od) (pv : Value), o.Raw ∧ RdI W pv o.n o.F ∧ ∀ j y, (o.c pv).toList[j]? = some y → W.cell? (a.add (i * 11 + j)) = some y := by
      intro i hi
      have h1 := hel i hi
      have hy : elems[i]? = some elems[i] := List.getElem?_eq_getElem (by omega)
      rw [hc, hy, Option.bind_eq_some_iff] at h1
      obtain ⟨cs', hcs, hy'⟩ := h1
      obtain ⟨o, pv, rfl, e2, e3⟩ := trod_opG hy'
      have hcell := World.cells?_some hcs
      refine ⟨o, pv, e2, e3, fun j y hj => ?_⟩
      have hlt : j < 11 := by
        have := (List.getElem?_eq_some_iff.1 hj).1
        simpa [Od.c] using this
      have h2 := hcell.2.2 j hlt
      rw [addr_add_spot] at h2
      rw [h2]; exact hj
    have build : ∀ k, k ≤ len → ∃ L : List Od, L.length = k ∧ (∀ i, i < k → (nthO L i).Raw) ∧ ∀ i, i < k → ∃ pv, RdI W pv (nthO L i).n (nthO L i).F ∧ ∀ j y, ((nthO L i).c pv).toList[j]? = some y → W.cell? (a.add (i * 11 + j)) = some y := by
      intro k
      induction k with
      | zero => intro _; exact ⟨[], rfl, fun i hi => by omega, fun i hi => by omega⟩
      | succ k ih =>
        intro hk
        obtain ⟨L, f1, f2, f3⟩ := ih (by omega)
        obtain ⟨o, pv, k1, k2, k3⟩ := each k (by omega)
        have hlast : nthO (L ++ [o]) k = o := by rw [← f1]; exact nthO_last L o
        refine ⟨L ++ [o], by simp [f1], fun i hi => ?_, fun i hi => ?_⟩
        · rcases Nat.lt_or_ge i k with h | h
          · rw [nthO_pre _ _ _ (by omega)]; exact f2 i h
          · obtain rfl : i = k := by omega
            rw [hlast]; exact k1
        · rcases Nat.lt_or_ge i k with h | h
          · rw [nthO_pre _ _ _ (by omega)]; exact f3 i h
          · obtain rfl : i = k := by omega
            rw [hlast]; exact ⟨pv, k2, k3⟩
    obtain ⟨L, f1, f2, f3⟩ := build len (Nat.le_refl _)
    by_cases h0 : len = 0
    · subst h0
      obtain rfl : L = [] := List.eq_nil_of_length_eq_zero f1
      exact ⟨_, [], rfl, .inl ⟨some a, cap, rfl, (fun h => by cases h), rfl⟩, fun i hi => by cases hi⟩
    · obtain ⟨b, o, spot⟩ := a
      obtain ⟨pv0, _, h00⟩ := f3 0 (by omega)
      have hs0 := h00 0 _ rfl
      have hspot : spot = none := by simpa [Addr.add] using World.cell?_spot hs0
      subst hspot
      refine ⟨_, L, rfl, .inr ⟨b, o, cap, by rw [f1], by rw [f1]; exact hl, hm, World.block_lt_of_cell? _ _ hs0, fun i hi => ?_⟩, fun i hi => f2 i (by omega)⟩
      obtain ⟨pv, g1, g2⟩ := f3 i (by omega)
      refine ⟨pv, fun j y hj => ?_, g1⟩
      have := g2 j y hj
      rw [addr_add] at this
      rw [Nat.add_assoc]
      exact this
set_option maxRecDepth 10000 in
theorem open_graph {v : Value} {d : DataW H} {p : List MemPlace} {r : Reach} {b0 : Nat} (hv : Value.okWide Tryz.prog W r b0 41 v) (h : DataW.Trod enc Tryz.prog W 0 (fun _ => true) true 41 v d p) :
    ∃ (iv ov : Value) (n : Nat) (F : List Int) (L : List Od), v = .agg (gC iv ov) ∧ RdI W iv n F ∧ Bytes F ∧ RdO W ov L ∧ ∀ i, i < L.length → (nthO L i).Raw := by
  obtain ⟨cs, rfl, hsz⟩ := okWide_struct Tryz.underlying41 hv
  obtain ⟨fuel, hf⟩ := h
  obtain ⟨y0, y1, n, _, hl, e0, e1⟩ := trod_struct2 Tryz.underlying41 hf
  have kI : Tryz.prog.cellsOf 26 = 1 := by kernel_rfl
  have kO : Tryz.prog.cellsOf 22 = 1 := by kernel_rfl
  have hl' : cs.toList.length = 2 := hl.trans (by kernel_rfl)
  obtain ⟨l⟩ := cs
  match l, hl' with
  | [c0, c1], _ =>
    dsimp only at e0 e1
    rw [kI] at e0
    rw [kO] at e1
    simp only [Value.cells, List.drop_zero, List.take_succ_cons, List.take_zero, List.drop_succ_cons] at e0 e1
    obtain ⟨iv, m, F, a0, hF, hFb⟩ := trod_ids Tryz.underlying26 Tryz.underlying24 Tryz.underlying5 (by kernel_rfl) (by kernel_rfl) e0
    obtain ⟨ov, L, a1, hO, hraw⟩ := trod_opsG e1
    refine ⟨iv, ov, m, F, L, ?_, hF, hFb, hO, hraw⟩
    rw [(List.cons.inj a0).1, (List.cons.inj a1).1]
end
end Go.Proofs.YtlbgffhipondiaaGreatDoor.wir.val

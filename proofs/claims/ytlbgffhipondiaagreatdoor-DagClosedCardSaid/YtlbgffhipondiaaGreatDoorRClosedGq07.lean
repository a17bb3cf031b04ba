/- Texts that the row stands on, part 7. -/
import Derived.Test.YtlbgffhipondiaaGreatDoorRClosedGq06
namespace Go.Proofs.YtlbgffhipondiaaGreatDoor.wir.val
open Go.RowKit Go.YtlbgffhipondiaaGreatDoor
set_option linter.unusedVariables false
theorem wpList_load_mid_g {P : Program} {ops : Array Oper} {rest : List Oper} {o : Oper} {a : Act} {w : World} {Q : Exit → Act → World → Prop} (hw : Region.wanted o (yielded ops a.tmps) = true) (ty : TypeId) (x : Operand) (ho : o.op = .load ty x)
    (b k : Nat) (hx : a.eval x = .pointer (some ⟨b, k, none⟩)) (cs : Array Value) (d : TypeDesc) (hc : w.rangeAt b k cs.toList)
    (hu : P.underlying ty = some d) (hd : d.isRow = true) (hi : (P.info? ty).map (·.size) = some cs.toList.length)
    (h : wpList P ops Q rest (a.put o.dst (.agg cs)) w) : wpList P ops Q (o :: rest) a w :=
  wpList_step fun K hK => by rw [if_pos hw]; exact wp_load_mid ty x ho b k hx cs.toList d hc hu hd hi (hK _ _ (by simpa using h))
theorem range_below {w w' : World} {b o : Nat} {cs : List Value} (hr : w.rangeAt b o cs) (hb : b < w.heap.size) (h : Below w.heap.size w w') : w'.rangeAt b o cs :=
  fun j v hv => (h.cell (p := (⟨b, o + j, none⟩ : Addr)) hb).trans (hr j v hv)
/-- Is x among the n ids? -/
def memF (F : List Int) (n : Nat) (x : List Int) : Bool := (List.range n).any fun k => decide (idF F k = x)
theorem mem_iff {F : List Int} {n : Nat} {x : List Int} : memF F n x = true ↔ ∃ k, k < n ∧ idF F k = x := by
  unfold memF
  rw [List.any_eq_true]
  constructor
  · rintro ⟨k, h1, h2⟩; exact ⟨k, List.mem_range.1 h1, of_decide_eq_true h2⟩
  · rintro ⟨k, h1, h2⟩; exact ⟨k, List.mem_range.2 h1, decide_eq_true h2⟩
theorem mem_false {F : List Int} {n : Nat} {x : List Int} (h : ∀ k, k < n → idF F k ≠ x) : memF F n x = false := by
  cases hm : memF F n x with
  | false => rfl
  | true => obtain ⟨k, h1, h2⟩ := mem_iff.1 hm; exact absurd h2 (h k h1)
/-- Are the m ids of G among the n ids of F? -/
def allF (F : List Int) (n : Nat) (G : List Int) (m : Nat) : Bool := (List.range m).all fun j => memF F n (idF G j)
theorem all_iff {F : List Int} {n : Nat} {G : List Int} {m : Nat} : allF F n G m = true ↔ ∀ j, j < m → memF F n (idF G j) = true := by
  unfold allF
  rw [List.all_eq_true]
  exact ⟨fun h j hj => h j (List.mem_range.2 hj), fun h j hj => h j (List.mem_range.1 hj)⟩
theorem all_false {F : List Int} {n : Nat} {G : List Int} {m : Nat} (j : Nat) (hj : j < m) (h : memF F n (idF G j) = false) : allF F n G m = false := by
  cases hm : allF F n G m with
  | false => rfl
  | true => rw [all_iff.1 hm j hj] at h; cases h
theorem cmp_lt {a b c : List Int} (h1 : cmpF a b < 0) (h2 : cmpF b c < 0) : cmpF a c < 0 := by
  have h3 := cmp_trans a b c (Int.le_of_lt h1) (Int.le_of_lt h2)
  rcases Int.lt_or_eq_of_le h3 with h4 | h4
  · exact h4
  · have e := cmp_zero _ _ h4
    rw [← e] at h2
    have h5 := cmp_anti a b
    omega
theorem rise_all {F : List Int} {n : Nat} (h : riseF F n = true) : ∀ d i, i + d + 1 < n → cmpF (idF F i) (idF F (i + d + 1)) < 0 := by
  have step : ∀ i, i + 1 < n → cmpF (idF F i) (idF F (i + 1)) < 0 := fun i hi => by
    by_cases h2 : cmpF (idF F i) (idF F (i + 1)) < 0
    · exact h2
    · rw [rise_no i hi h2] at h; cases h
  intro d
  induction d with
  | zero => exact fun i hi => step i hi
  | succ d ih =>
    intro i hi
    have h1 := ih i (by omega)
    have h2 := step (i + d + 1) (by omega)
    exact cmp_lt h1 h2
theorem rise_lt {F : List Int} {n : Nat} (h : riseF F n = true) {i j : Nat} (hij : i < j) (hj : j < n) : cmpF (idF F i) (idF F j) < 0 := by
  have := rise_all h (j - i - 1) i (by omega)
  rwa [show i + (j - i - 1) + 1 = j by omega] at this
/-- Ids that increase are told apart. -/
theorem rise_inj {F : List Int} {n : Nat} (h : riseF F n = true) {i j : Nat} (hi : i < n) (hj : j < n) (e : idF F i = idF F j) : i = j := by
  rcases Nat.lt_trichotomy i j with k | k | k
  · have := rise_lt h k hj; rw [e, cmp_self] at this; omega
  · exact k
  · have := rise_lt h k hi; rw [e, cmp_self] at this; omega
/-- Before p the ids are less than x, from p on they aren't. -/
structure PlaceAt (F : List Int) (n : Nat) (x : List Int) (p : Nat) : Prop where
  le : p ≤ n
  lo : ∀ k, k < p → cmpF (idF F k) x < 0
  hi : ∀ k, p ≤ k → k < n → ¬ cmpF (idF F k) x < 0
theorem place_up {F : List Int} {n : Nat} {x : List Int} (hr : riseF F n = true) {h : Nat} (hn : h < n) (hc : cmpF (idF F h) x < 0) : ∀ k, k < h + 1 → cmpF (idF F k) x < 0 := fun k hk => by
  rcases Nat.lt_or_ge k h with h1 | h1
  · exact cmp_lt (rise_lt hr h1 hn) hc
  · obtain rfl : k = h := by omega
    exact hc
theorem place_dn {F : List Int} {n : Nat} {x : List Int} (hr : riseF F n = true) {h : Nat} (hc : ¬ cmpF (idF F h) x < 0) : ∀ k, h ≤ k → k < n → ¬ cmpF (idF F k) x < 0 := fun k hk hkn hlt => by
  rcases Nat.lt_or_ge h k with h1 | h1
  · exact hc (cmp_lt (rise_lt hr h1 hkn) hlt)
  · obtain rfl : k = h := by omega
    exact hc hlt
theorem place_mem {F : List Int} {n : Nat} {x : List Int} {p : Nat} (hr : riseF F n = true) (h : PlaceAt F n x p) : memF F n x = (decide (p < n) && decide (cmpF (idF F p) x = 0)) := by
  cases hm : memF F n x with
  | false =>
    by_cases hp : p < n
    · by_cases he : cmpF (idF F p) x = 0
      · have : memF F n x = true := mem_iff.2 ⟨p, hp, cmp_zero _ _ he⟩
        rw [this] at hm; cases hm
      · rw [decide_eq_false he, Bool.and_false]
    · rw [decide_eq_false hp, Bool.false_and]
  | true =>
    obtain ⟨k, h1, h2⟩ := mem_iff.1 hm
    have hkp : ¬ k < p := fun hlt => by have := h.lo k hlt; rw [h2, cmp_self] at this; omega
    have hpk : ¬ p < k := fun hlt => by
      have h3 := rise_lt hr hlt h1
      rw [h2] at h3
      exact h.hi p (Nat.le_refl _) (by omega) h3
    obtain rfl : k = p := by omega
    rw [decide_eq_true h1, h2, decide_eq_true (cmp_self x)]; rfl
theorem place_at {F : List Int} {n : Nat} {x : List Int} {p : Nat} (hr : riseF F n = true) (h : PlaceAt F n x p) (hm : memF F n x = true) : p < n ∧ idF F p = x := by
  rw [place_mem hr h, Bool.and_eq_true, decide_eq_true_eq, decide_eq_true_eq] at hm
  exact ⟨hm.1, cmp_zero _ _ hm.2⟩
end Go.Proofs.YtlbgffhipondiaaGreatDoor.wir.val
namespace Go.Proofs.YtlbgffhipondiaaGreatDoor.wir.val
open Go.RowKit Go.YtlbgffhipondiaaGreatDoor
set_option linter.unusedVariables false
def nthO (L : List Od) (i : Nat) : Od := L[i]?.getD zO
/-- A slice of operations that reads as' L (an empty one may have any address). -/
def RdO (w : World) (v : Value) (L : List Od) : Prop :=
  (∃ a c, v = .slice a 0 c ∧ (a = none → c = 0) ∧ L = []) ∨ ∃ b o c, v = .slice (some ⟨b, o, none⟩) L.length c ∧ L.length ≤ c ∧ c ≤ maxLen ∧ b < w.heap.size ∧ ∀ i, i < L.length → ∃ pv, w.rangeAt b (o + i * 11) ((nthO L i).c pv).toList ∧ RdI w pv (nthO L i).n (nthO L i).F
theorem RdO.mono {w w' : World} {v : Value} {L : List Od} (h : RdO w v L) (hb : Below w.heap.size w w') : RdO w' v L := by
  rcases h with h | ⟨b, o, c, hv, h1, h2, h3, h4⟩
  · exact .inl h
  · refine .inr ⟨b, o, c, hv, h1, h2, Nat.lt_of_lt_of_le h3 hb.size, fun i hi => ?_⟩
    obtain ⟨pv, h5, h6⟩ := h4 i hi
    exact ⟨pv, fun j x hx => (hb.cell (p := (⟨b, o + i * 11 + j, none⟩ : Addr)) h3).trans (h5 j x hx), h6.mono hb⟩
theorem RdO.slice {w : World} {v : Value} {L : List Od} (h : RdO w v L) : ∃ a c, v = .slice a L.length c := by
  rcases h with ⟨a, c, rfl, _, rfl⟩ | ⟨b, o, c, hv, _⟩
  · exact ⟨a, c, rfl⟩
  · exact ⟨_, c, hv⟩
theorem rdO_at {w wr : World} {a : Option Addr} {n c : Nat} {L : List Od} (h : RdO w (.slice a n c) L) (hn : L.length = n) (hb : Below w.heap.size w wr) (i : Nat) (hi : i < n) :
    ∃ b o pa pc, a = some ⟨b, o, none⟩ ∧ b < w.heap.size ∧ n ≤ c ∧ wr.rangeAt b (o + i * 11) ((nthO L i).c (.slice pa (nthO L i).n pc)).toList ∧ RdI wr (.slice pa (nthO L i).n pc) (nthO L i).n (nthO L i).F := by
  rcases h with ⟨a', c', he, _, rfl⟩ | ⟨b, o, c', h1, h2, h3, h4, h5⟩
  · simp at hn; omega
  · obtain ⟨e1, e2, e3⟩ := Value.slice.inj h1
    obtain ⟨pv, k1, k2⟩ := h5 i (by omega)
    obtain ⟨pa, pc, rfl⟩ := k2.slice
    exact ⟨b, o, pa, pc, e1, h4, by omega, fun j v hv => (hb.cell (p := (⟨b, o + i * 11 + j, none⟩ : Addr)) h4).trans (k1 j v hv), k2.mono hb⟩
/-- Is the operation signed, and x its id? -/
def goodB (o : Od) (x : List Int) : Bool := decide (verO o = 0) && decide (shaF (encO o) = x)
/-- Has each operation its id, and is it signed? -/
def nameB (F : List Int) (n : Nat) (L : List Od) : Bool := decide (n = L.length) && (List.range L.length).all fun i => goodB (nthO L i) (idF F i)
theorem name_iff {F : List Int} {n : Nat} {L : List Od} : nameB F n L = true ↔ n = L.length ∧ ∀ i, i < L.length → goodB (nthO L i) (idF F i) = true := by
  unfold nameB
  rw [Bool.and_eq_true, decide_eq_true_eq, List.all_eq_true]
  exact ⟨fun h => ⟨h.1, fun j hj => h.2 j (List.mem_range.2 hj)⟩, fun h => ⟨h.1, fun j hj => h.2 j (List.mem_range.1 hj)⟩⟩
theorem name_size {F : List Int} {n : Nat} {L : List Od} (h : n ≠ L.length) : nameB F n L = false := by
  unfold nameB; rw [decide_eq_false h]; rfl
theorem name_false {F : List Int} {n : Nat} {L : List Od} (i : Nat) (hi : i < L.length) (h : goodB (nthO L i) (idF F i) = false) : nameB F n L = false := by
  cases hm : nameB F n L with
  | false => rfl
  | true => rw [(name_iff.1 hm).2 i hi] at h; cases h
theorem good_iff {o : Od} {x : List Int} : goodB o x = true ↔ verO o = 0 ∧ shaF (encO o) = x := by
  unfold goodB; rw [Bool.and_eq_true, decide_eq_true_eq, decide_eq_true_eq]
/-- Are all predecessors there? -/
def closB (F : List Int) (n : Nat) (L : List Od) : Bool := (List.range L.length).all fun i => allF F n (nthO L i).F (nthO L i).n
theorem clos_iff {F : List Int} {n : Nat} {L : List Od} : closB F n L = true ↔ ∀ i, i < L.length → allF F n (nthO L i).F (nthO L i).n = true := by
  unfold closB
  rw [List.all_eq_true]
  exact ⟨fun h j hj => h j (List.mem_range.2 hj), fun h j hj => h j (List.mem_range.1 hj)⟩
theorem clos_false {F : List Int} {n : Nat} {L : List Od} (i : Nat) (hi : i < L.length) (h : allF F n (nthO L i).F (nthO L i).n = false) : closB F n L = false := by
  cases hm : closB F n L with
  | false => rfl
  | true => rw [clos_iff.1 hm i hi] at h; cases h
/-- The operation i can be taken: all that are directly before it can be taken first. -/
inductive Tk (F : List Int) (n : Nat) (L : List Od) : Nat → Prop
  | mk (i : Nat) (hi : i < L.length) (p : Nat → Nat) (h : ∀ j, j < (nthO L i).n → Tk F n L (p j)) (hp : ∀ j, j < (nthO L i).n → p j < n ∧ idF F (p j) = idF (nthO L i).F j) : Tk F n L i
theorem Tk.lt {F : List Int} {n : Nat} {L : List Od} {i : Nat} (h : Tk F n L i) : i < L.length := by cases h; assumption
/-- All can be taken: nothing is before itself. -/
def AllTk (F : List Int) (n : Nat) (L : List Od) : Prop := ∀ i, i < L.length → Tk F n L i
/-- What is found about the ids alone. -/
def LinkG (F : List Int) (n : Nat) (L : List Od) (e : Int) : Prop :=
  (riseF F n = false ∧ e = 32) ∨ (riseF F n = true ∧ closB F n L = false ∧ e = 40) ∨ (riseF F n = true ∧ closB F n L = true ∧ ¬ AllTk F n L ∧ e = 36) ∨ (riseF F n = true ∧ closB F n L = true ∧ AllTk F n L ∧ e = 0)
/-- What Check finds. -/
def ChkG (F : List Int) (n : Nat) (L : List Od) (e : Int) : Prop :=
  (60 < L.length ∧ e = 4) ∨ (L.length ≤ 60 ∧ nameB F n L = false ∧ e = 8) ∨ (L.length ≤ 60 ∧ nameB F n L = true ∧ LinkG F n L e)
theorem link_ex (F : List Int) (n : Nat) (L : List Od) : ∃ e, LinkG F n L e := by
  by_cases h1 : riseF F n = true
  · by_cases h2 : closB F n L = true
    · by_cases h3 : AllTk F n L
      · exact ⟨0, .inr (.inr (.inr ⟨h1, h2, h3, rfl⟩))⟩
      · exact ⟨36, .inr (.inr (.inl ⟨h1, h2, h3, rfl⟩))⟩
    · exact ⟨40, .inr (.inl ⟨h1, by simpa using h2, rfl⟩)⟩
  · exact ⟨32, .inl ⟨by simpa using h1, rfl⟩⟩
theorem chkG_ex (F : List Int) (n : Nat) (L : List Od) : ∃ e, ChkG F n L e := by
  by_cases h1 : 60 < L.length
  · exact ⟨4, .inl ⟨h1, rfl⟩⟩
  · by_cases h2 : nameB F n L = true
    · obtain ⟨e, he⟩ := link_ex F n L
      exact ⟨e, .inr (.inr ⟨by omega, h2, he⟩)⟩
    · exact ⟨8, .inr (.inl ⟨by omega, by simpa using h2, rfl⟩)⟩
theorem chkG_zero {F : List Int} {n : Nat} {L : List Od} (h : ChkG F n L 0) : L.length ≤ 60 ∧ nameB F n L = true ∧ riseF F n = true ∧ closB F n L = true ∧ AllTk F n L := by
  rcases h with ⟨_, h⟩ | ⟨_, _, h⟩ | ⟨h1, h2, h⟩
  · omega
  · omega
  · rcases h with ⟨_, h⟩ | ⟨_, _, h⟩ | ⟨_, _, _, h⟩ | ⟨k1, k2, k3, _⟩
    · omega
    · omega
    · omega
    · exact ⟨h1, h2, k1, k2, k3⟩
/-- A set that is closed against being taken has all that can be taken. -/
theorem tk_sub {F : List Int} {n : Nat} {L : List Od} (T : Nat → Prop) (hT : ∀ i, i < L.length → (∀ j, j < (nthO L i).n → ∃ k, k < n ∧ T k ∧ idF F k = idF (nthO L i).F j) → T i) {i : Nat} (h : Tk F n L i) : T i := by
  induction h with
  | mk i hi p h hp ih => exact hT i hi fun j hj => ⟨p j, (hp j hj).1, ih j hj, (hp j hj).2⟩
theorem tk_of {F : List Int} {n : Nat} {L : List Od} {i : Nat} (hi : i < L.length) (h : ∀ j, j < (nthO L i).n → ∃ k, k < n ∧ Tk F n L k ∧ idF F k = idF (nthO L i).F j) : Tk F n L i := by
  have hc : ∃ p : Nat → Nat, ∀ j, j < (nthO L i).n → p j < n ∧ Tk F n L (p j) ∧ idF F (p j) = idF (nthO L i).F j := by
    refine ⟨fun j => if hj : j < (nthO L i).n then Classical.choose (h j hj) else 0, fun j hj => ?_⟩
    simp only [dif_pos hj]
    exact Classical.choose_spec (h j hj)
  obtain ⟨p, hp⟩ := hc
  exact ⟨i, hi, p, fun j hj => (hp j hj).2.1, fun j hj => ⟨(hp j hj).1, (hp j hj).2.2⟩⟩
end Go.Proofs.YtlbgffhipondiaaGreatDoor.wir.val
namespace Go.Proofs.YtlbgffhipondiaaGreatDoor.wir.val
open Go.RowKit Go.YtlbgffhipondiaaGreatDoor
set_option linter.unusedVariables false
theorem u64_natG (n : Nat) (h : n < 18446744073709551616) : IntKind.u64.wrap (n : Int) = (n : Int) := by
  exact IntWalk.u64_in _ (by omega)
theorem quiet_call2v {P : Program} {C : World → Prop} {o : Oper} {a : Act} {f : FuncId} {fn : Func} {c : Code} {x y z : Operand} {T : Array TypeId} (ho : o.op = .call { callee := .value z, args := #[x, y], argTypes := T })
    (hf : P.funcs[f]? = some fn) (hname : (fn.name == "runtime.NumGoroutine") = false) (hb : fn.body = some c) (u1 u2 v : Value) (h1 : a.eval x = u1) (h2 : a.eval y = u2) (h3 : a.eval z = .func (.func f) #[] #[])
    (hc : ∀ w, C w → Calls P f #[u1, u2] w fun e w' => e = .returned v ∧ C w') : ∀ w, C w → o.quietAt P a C w v := by
  intro w hw
  have hn : fn.name ≠ "runtime.NumGoroutine" := by simpa using hname
  unfold Oper.quietAt execOp
  generalize a.eval = ev at *
  have hr : (callFunc f #[u1, u2]).run P w = .ok (.enter f #[u1, u2]) w := by simp [callFunc, hf, hn, hb]
  simp only [ho]
  simp [go_sem, h1, h2, h3]
  rw [hr]
  exact ⟨rfl, hc w hw⟩
set_option maxHeartbeats 4000000 in
set_option maxRecDepth 100000 in
/-- slices.BinarySearchFunc at ids that increase, with digest.Cmp. -/
theorem bsf_any (F : List Int) (n : Nat) (v : Value) (x : List Int) (w : World) (hr : RdI w v n F) (hF : Bytes F) (hn : n ≤ 100000) (hri : riseF F n = true) (hx : x.length = 32) (hxb : Bytes x) :
    Calls Tryz.prog 115 #[v, .agg (u8s x), .func (.func 98) #[] #[]] w fun e w' => ∃ p : Nat, PlaceAt F n x p ∧ e = .returned (.tuple #[.int .i64 p, .bool (memF F n x)]) ∧ Below w.heap.size w w' := by
  have hlen := Lib.hid hr.len
  obtain ⟨a, c, rfl⟩ := hr.slice
  have hr' := Lib.hid hr; have hF' := Lib.hid hF; have hri' := Lib.hid hri; have hxb' := Lib.hid hxb; have hx' := Lib.hid hx
  obtain ⟨W, hW⟩ : ∃ W, W = w.alloc (.cells (u8s x) 24) := ⟨_, rfl⟩
  have hS := Lib.hid (show Below w.heap.size w W by rw [hW]; exact below_a w _)
  have r0 := Lib.hid (show W.heap[w.heap.size]? = some (.cells (u8s x) 24 (0, 0)) by rw [hW]; exact heap_alloc_new w _)
  have hlt := Lib.hid (Array.getElem?_eq_some_iff.1 r0.out).1
  have ix := Lib.hid (show (Tryz.prog.info? 24).map (·.size) = some (u8s x).size by rw [u8s_size, hx]; kernel_rfl)
  clear hr hF hri hx hxb
  go_enter Tryz.func115, Tryz.ntmps115
  go_upto_region 1 with fail
  rw [← hW]
  clear hW
  go_wp2
  go_loopw [9, 10] (fun i j wr => ∃ p q : Nat, i = .int .i64 p ∧ j = .int .i64 q ∧ p ≤ q ∧ q ≤ n ∧ Below W.heap.size W wr ∧ (∀ k, k < p → cmpF (idF F k) x < 0) ∧ (∀ k, q ≤ k → k < n → ¬ cmpF (idF F k) x < 0)) (fun i j _ => (intOf j).toNat - (intOf i).toNat)
  case atStart => exact ⟨0, n, rfl, rfl, Nat.zero_le _, Nat.le_refl _, Below.refl _ _, fun k hk => absurd hk (Nat.not_lt_zero _), fun k h1 h2 => absurd h2 (by omega)⟩
  case round =>
    obtain ⟨p, q, rfl, rfl, hpq, hqn, hb, lo, hi⟩ := hrel
    have lo' := Lib.hid lo; have hi' := Lib.hid hi; have hb' := Lib.hid hb
    clear lo hi hb
    by_cases hlt2 : p < q
    · obtain ⟨h, hh⟩ : ∃ h, h = (p + q) / 2 := ⟨_, rfl⟩
      have hhp : p ≤ h := by omega
      have hhq : h < q := by omega
      obtain ⟨b, o, rfl, hbw, hnc, q1, _⟩ := rdI_at hr'.out (hS.out.trans (hb'.out.mono hS.out.size)) h (by omega)
      have hbr := Lib.hid (Nat.lt_of_lt_of_le (Nat.lt_of_lt_of_le hbw hS.out.size) hb'.out.size)
      have q1' := Lib.hid (fun (w' : World) (hw : Below wr.heap.size wr w') => (show w'.rangeAt b (o + h * 32) (idV (idF F h)) from fun j v hv => (hw.cell (p := ⟨b, o + h * 32 + j, none⟩) hbr.out).trans (q1 j v hv)))
      have l1 := Lib.hid (idF_length F n h hlen.out (by omega))
      have hc := Lib.hid (fun wi => cmp_any (idF F h) x wi l1.out hx'.out (idF_bytes F h hF'.out) hxb'.out)
      have i1 : Hid ((Tryz.prog.info? 24).map (·.size) = some (idV (idF F h)).length) := Lib.hid (by rw [idV_length, l1.out]; kernel_rfl)
      have hrw := Lib.hid (fun (w' : World) (hw : Below wr.heap.size wr w') => rowB (rowB r0.out hb'.out hlt.out) hw (Nat.lt_of_lt_of_le hlt.out hb'.out.size))
      have hup := Lib.hid (fun (hc : cmpF (idF F h) x < 0) => place_up hri'.out (show h < n by omega) hc)
      have hdn := Lib.hid (fun (hc : ¬ cmpF (idF F h) x < 0) => place_dn (n := n) hri'.out hc)
      clear q1
      generalize cmpF (idF F h) x = T at *
      generalize idF F h = A at *
      have x0 : (p : Int) < (q : Int) := by omega
      have x1 : IntKind.i64.wrap ((p : Int) + (q : Int)) = (p : Int) + (q : Int) := IntWalk.i64_in _ (by omega)
      have x2 : IntKind.u64.wrap ((p : Int) + (q : Int)) = (p : Int) + (q : Int) := by rw [show (p : Int) + (q : Int) = ((p + q : Nat) : Int) by omega]; exact u64_natG _ (by omega)
      have x3 : ((p : Int) + (q : Int)) / 2 = (h : Int) := by omega
      have x4 : IntKind.i64.wrap (h : Int) = (h : Int) := IntWalk.i64_in _ (by omega)
      have x5 : IntKind.i64.wrap ((h : Int) + 1) = (h : Int) + 1 := IntWalk.i64_in _ (by omega)
      have x6 : h < n := by omega
      have x7 : (h : Int) < (n : Int) := by omega
      clear hh

      by_cases hT : T < 0
      · have hh := Lib.hid (hup.out hT)
        clear hup hdn
        have hTd := decide_eq_true hT
        go_upto_region 5 with fail
        refine wp_region_quiet (C := fun w' => Below wr.heap.size wr w') (by kernel_rfl) (by kernel_rfl) ((Below.refl _ _).drew) ?_
        simp only []
        iterate 4 (go_big_quiet_want; go_big_quiet_op; first | go_big_quiet_on | (refine ⟨_, fun _ _ => rfl, ?_⟩; go_big_quiet_on))
        refine wpq (.agg (u8s A)) rfl (qa_load_mid 24 _ rfl b (o + h * 32) rfl A _ Tryz.underlying24 rfl i1.out q1'.out) rfl (fun K hK => ?_); go_simp; refine hK _ ?_; clear hK K
        refine wpq (.agg (u8s x)) rfl (quiet_row 24 _ rfl w.heap.size rfl 24 (u8s x) (0, 0) _ hrw.out Tryz.underlying24 rfl ix.out) rfl (fun K hK => ?_); go_simp; refine hK _ ?_; clear hK K
        refine wpq (.int .i64 T) rfl (quiet_call2v rfl Tryz.func98 (by kernel_rfl) rfl (.agg (u8s A)) (.agg (u8s x)) (.int .i64 T) rfl rfl rfl (fun w9 h => (hc.out w9).mono fun e w' ⟨he, hd⟩ => ⟨he, h.trans (hd.mono h.size)⟩)) rfl (fun K hK => ?_); go_simp; refine hK _ ?_; clear hK K
        (go_big_quiet_want; go_big_quiet_op; first | go_big_quiet_on | (refine ⟨_, fun _ _ => rfl, ?_⟩; go_big_quiet_on))
        refine wpQuiet_nil ?_
        intro w2 h2
        have hB2 := Lib.hid (hb'.out.trans (h2.mono hb'.out.size))
        clear h2
        go_wp2
        go_roundw
        case rel => exact ⟨h + 1, q, by go_num, rfl, by omega, hqn, hB2.out, hh.out, hi'.out⟩
        case measure => simp [intOf]; omega
      · have hh := Lib.hid (hdn.out hT)
        clear hup hdn
        have hTd := decide_eq_false hT
        go_upto_region 5 with fail
        refine wp_region_quiet (C := fun w' => Below wr.heap.size wr w') (by kernel_rfl) (by kernel_rfl) ((Below.refl _ _).drew) ?_
        simp only []
        iterate 4 (go_big_quiet_want; go_big_quiet_op; first | go_big_quiet_on | (refine ⟨_, fun _ _ => rfl, ?_⟩; go_big_quiet_on))
        refine wpq (.agg (u8s A)) rfl (qa_load_mid 24 _ rfl b (o + h * 32) rfl A _ Tryz.underlying24 rfl i1.out q1'.out) rfl (fun K hK => ?_); go_simp; refine hK _ ?_; clear hK K
        refine wpq (.agg (u8s x)) rfl (quiet_row 24 _ rfl w.heap.size rfl 24 (u8s x) (0, 0) _ hrw.out Tryz.underlying24 rfl ix.out) rfl (fun K hK => ?_); go_simp; refine hK _ ?_; clear hK K
        refine wpq (.int .i64 T) rfl (quiet_call2v rfl Tryz.func98 (by kernel_rfl) rfl (.agg (u8s A)) (.agg (u8s x)) (.int .i64 T) rfl rfl rfl (fun w9 h => (hc.out w9).mono fun e w' ⟨he, hd⟩ => ⟨he, h.trans (hd.mono h.size)⟩)) rfl (fun K hK => ?_); go_simp; refine hK _ ?_; clear hK K
        (go_big_quiet_want; go_big_quiet_op; first | go_big_quiet_on | (refine ⟨_, fun _ _ => rfl, ?_⟩; go_big_quiet_on))
        refine wpQuiet_nil ?_
        intro w2 h2
        have hB2 := Lib.hid (hb'.out.trans (h2.mono hb'.out.size))
        clear h2
        go_wp2
        go_roundw
        case rel => exact ⟨p, h, rfl, rfl, hhp, by omega, hB2.out, lo'.out, hh.out⟩
        case measure => simp [intOf]; omega
    · obtain rfl : p = q := by omega
      have hpl : PlaceAt F n x p := ⟨hqn, lo'.out, hi'.out⟩
      have hpm := place_mem hri'.out hpl
      have hpl' := Lib.hid hpl
      clear hpl
      have hBr := Lib.hid (hS.out.trans (hb'.out.mono hS.out.size))
      by_cases hpn : p < n
      · obtain ⟨b, o, rfl, hbw, hnc, q1, _⟩ := rdI_at hr'.out hBr.out p hpn
        have hbr := Lib.hid (Nat.lt_of_lt_of_le (Nat.lt_of_lt_of_le hbw hS.out.size) hb'.out.size)
        have q1' := Lib.hid (fun (w' : World) (hw : Below wr.heap.size wr w') => (show w'.rangeAt b (o + p * 32) (idV (idF F p)) from fun j v hv => (hw.cell (p := ⟨b, o + p * 32 + j, none⟩) hbr.out).trans (q1 j v hv)))
        have l1 := Lib.hid (idF_length F n p hlen.out hpn)
        have hc := Lib.hid (fun wi => cmp_any (idF F p) x wi l1.out hx'.out (idF_bytes F p hF'.out) hxb'.out)
        have i1 : Hid ((Tryz.prog.info? 24).map (·.size) = some (idV (idF F p)).length) := Lib.hid (by rw [idV_length, l1.out]; kernel_rfl)
        have hrw := Lib.hid (fun (w' : World) (hw : Below wr.heap.size wr w') => rowB (rowB r0.out hb'.out hlt.out) hw (Nat.lt_of_lt_of_le hlt.out hb'.out.size))
        rw [decide_eq_true hpn, Bool.true_and] at hpm
        clear q1
        generalize cmpF (idF F p) x = T at *
        generalize idF F p = A at *
        have hpI : (p : Int) < (n : Int) := by omega
        have hpD := decide_eq_true hpI
        have hTe : (T == 0) = decide (T = 0) := by by_cases h : T = 0 <;> simp [h]
        have hpm2 := Lib.hid (hpm.trans hTe.symm)
        clear hTe hpm
        go_upto_region 8 with fail
        refine wp_region_quiet (C := fun w' => Below wr.heap.size wr w') (by kernel_rfl) (by kernel_rfl) ((Below.refl _ _).drew) ?_
        simp only []
        iterate 9 (go_big_quiet_want; go_big_quiet_op; first | go_big_quiet_on | (refine ⟨_, fun _ _ => rfl, ?_⟩; go_big_quiet_on))
        refine wpq (.agg (u8s A)) rfl (qa_load_mid 24 _ rfl b (o + p * 32) rfl A _ Tryz.underlying24 rfl i1.out q1'.out) rfl (fun K hK => ?_); go_simp; refine hK _ ?_; clear hK K
        refine wpq (.agg (u8s x)) rfl (quiet_row 24 _ rfl w.heap.size rfl 24 (u8s x) (0, 0) _ hrw.out Tryz.underlying24 rfl ix.out) rfl (fun K hK => ?_); go_simp; refine hK _ ?_; clear hK K
        refine wpq (.int .i64 T) rfl (quiet_call2v rfl Tryz.func98 (by kernel_rfl) rfl (.agg (u8s A)) (.agg (u8s x)) (.int .i64 T) rfl rfl rfl (fun w9 h => (hc.out w9).mono fun e w' ⟨he, hd⟩ => ⟨he, h.trans (hd.mono h.size)⟩)) rfl (fun K hK => ?_); go_simp; refine hK _ ?_; clear hK K
        iterate 4 (go_big_quiet_want; go_big_quiet_op; first | go_big_quiet_on | (refine ⟨_, fun _ _ => rfl, ?_⟩; go_big_quiet_on))
        refine wpQuiet_nil ?_
        intro w2 h2
        have hB2 := Lib.hid (hBr.out.trans (h2.mono hBr.out.size))
        clear h2
        go_wp2
        go_ret2
        exact ⟨p, hpl'.out, (by rw [hpm2.out]; try rfl), hB2.out⟩
      · have hpI : ¬ (p : Int) < (n : Int) := by omega
        have hpD := decide_eq_false hpI
        rw [decide_eq_false hpn, Bool.false_and] at hpm
        have hpm2 := Lib.hid hpm
        clear hpm
        go_upto_region 8 with fail
        refine wp_region_quiet (C := fun w' => Below wr.heap.size wr w') (by kernel_rfl) (by kernel_rfl) ((Below.refl _ _).drew) ?_
        simp only []
        iterate 5 (go_big_quiet_want; go_big_quiet_op; first | go_big_quiet_on | (refine ⟨_, fun _ _ => rfl, ?_⟩; go_big_quiet_on))
        iterate 8 go_big_quiet_skip
        iterate 3 (go_big_quiet_want; go_big_quiet_op; first | go_big_quiet_on | (refine ⟨_, fun _ _ => rfl, ?_⟩; go_big_quiet_on))
        refine wpQuiet_nil ?_
        intro w2 h2
        have hB2 := Lib.hid (hBr.out.trans (h2.mono hBr.out.size))
        clear h2
        go_wp2
        go_ret2
        exact ⟨p, hpl'.out, (by rw [hpm2.out]; try rfl), hB2.out⟩
end Go.Proofs.YtlbgffhipondiaaGreatDoor.wir.val
namespace Go.Proofs.YtlbgffhipondiaaGreatDoor.wir.val
open Go.RowKit Go.YtlbgffhipondiaaGreatDoor
set_option linter.unusedVariables false
/-- What At answers. -/
def AtIs (F : List Int) (n : Nat) (x : List Int) (r : Int) : Prop := (r = -1 ∧ memF F n x = false) ∨ ∃ k : Nat, r = (k : Int) ∧ k < n ∧ idF F k = x
theorem atIs_neg {F : List Int} {n : Nat} {x : List Int} {r : Int} (h : AtIs F n x r) (hm : memF F n x = false) : r = -1 := by
  rcases h with ⟨h, _⟩ | ⟨k, _, h1, h2⟩
  · exact h
  · rw [mem_iff.2 ⟨k, h1, h2⟩] at hm; cases hm
theorem atIs_pos {F : List Int} {n : Nat} {x : List Int} {r : Int} (h : AtIs F n x r) (hm : memF F n x = true) : ∃ k : Nat, r = (k : Int) ∧ k < n ∧ idF F k = x := by
  rcases h with ⟨_, h⟩ | h
  · rw [h] at hm; cases hm
  · exact h
set_option maxHeartbeats 4000000 in
set_option maxRecDepth 100000 in
theorem rAt_any (F : List Int) (n : Nat) (v : Value) (x : List Int) (w : World) (hr : RdI w v n F) (hn : n ≤ 100000) (hx : x.length = 32) :
    Calls Tryz.prog 37 #[v, .agg (u8s x)] w fun e w' => ∃ r : Int, AtIs F n x r ∧ e = .returned (.int .i64 r) ∧ Below w.heap.size w w' := by
  have hlen := Lib.hid hr.len
  obtain ⟨a, c, rfl⟩ := hr.slice
  have hr' := Lib.hid hr; have hx' := Lib.hid hx
  obtain ⟨W, hW⟩ : ∃ W, W = w.alloc (.cells (u8s x) 24) := ⟨_, rfl⟩
  have hS := Lib.hid (show Below w.heap.size w W by rw [hW]; exact below_a w _)
  have r0 := Lib.hid (show W.heap[w.heap.size]? = some (.cells (u8s x) 24 (0, 0)) by rw [hW]; exact heap_alloc_new w _)
  have hlt := Lib.hid (Array.getElem?_eq_some_iff.1 r0.out).1
  have ix := Lib.hid (show (Tryz.prog.info? 24).map (·.size) = some (u8s x).size by rw [u8s_size, hx]; kernel_rfl)
  clear hr hx
  go_enter Tryz.func37, Tryz.ntmps37
  go_upto_region 1 with fail
  rw [← hW]
  clear hW
  go_wp2
  go_loopw [5] (fun i wr => ∃ k : Nat, k ≤ n ∧ i = .int .i64 k ∧ Below W.heap.size W wr ∧ ∀ j, j < k → idF F j ≠ x) (fun i _ => n - (intOf i).toNat)
  case atStart => exact ⟨0, Nat.zero_le _, rfl, Below.refl _ _, fun j hj => absurd hj (Nat.not_lt_zero _)⟩
  case round =>
    obtain ⟨k, hk, rfl, hb, he⟩ := hrel
    have he' := Lib.hid he; have hb' := Lib.hid hb
    clear he hb
    by_cases hlt2 : k < n
    · obtain ⟨b, o, rfl, hbw, hnc, q1, _⟩ := rdI_at hr'.out (hS.out.trans (hb'.out.mono hS.out.size)) k hlt2
      have hbr := Lib.hid (Nat.lt_of_lt_of_le (Nat.lt_of_lt_of_le hbw hS.out.size) hb'.out.size)
      have q1' := Lib.hid (fun (w' : World) (hw : Below wr.heap.size wr w') => (show w'.rangeAt b (o + k * 32) (idV (idF F k)) from fun j v hv => (hw.cell (p := ⟨b, o + k * 32 + j, none⟩) hbr.out).trans (q1 j v hv)))
      have l1 := Lib.hid (idF_length F n k hlen.out hlt2)
      have i1 : Hid ((Tryz.prog.info? 24).map (·.size) = some (idV (idF F k)).length) := Lib.hid (by rw [idV_length, l1.out]; kernel_rfl)
      have hrw := Lib.hid (fun (w' : World) (hw : Below wr.heap.size wr w') => rowB (rowB r0.out hb'.out hlt.out) hw (Nat.lt_of_lt_of_le hlt.out hb'.out.size))
      have hyes := Lib.hid (fun (h : idF F k = x) => (show AtIs F n x (k : Int) from .inr ⟨k, rfl, hlt2, h⟩))
      have hno := Lib.hid (fun (h : idF F k ≠ x) => (show ∀ j, j < k + 1 → idF F j ≠ x from fun j hj => by
        rcases Nat.lt_or_ge j k with h1 | h1
        · exact he'.out j h1
        · obtain rfl : j = k := by omega
          exact h))
      have hkI : (k : Int) < (n : Int) := by omega
      clear q1
      generalize idF F k = A at *
      obtain ⟨R, hR0⟩ : ∃ R, decide (A = x) = R := ⟨_, rfl⟩
      have hR := Lib.hid hR0
      cases R with
      | true =>
        have hAx := Lib.hid (of_decide_eq_true hR0)
        clear hR0
        go_upto_region 4 with fail
        refine wp_region_quiet (C := fun w' => Below wr.heap.size wr w') (by kernel_rfl) (by kernel_rfl) ((Below.refl _ _).drew) ?_
        simp only []
        iterate 3 (go_big_quiet_want; go_big_quiet_op; first | go_big_quiet_on | (refine ⟨_, fun _ _ => rfl, ?_⟩; go_big_quiet_on))
        refine wpq (.agg (u8s A)) rfl (qa_load_mid 24 _ rfl b (o + k * 32) rfl A _ Tryz.underlying24 rfl i1.out q1'.out) rfl (fun K hK => ?_); go_simp; refine hK _ ?_; clear hK K
        refine wpq (.agg (u8s x)) rfl (quiet_row 24 _ rfl w.heap.size rfl 24 (u8s x) (0, 0) _ hrw.out Tryz.underlying24 rfl ix.out) rfl (fun K hK => ?_); go_simp; refine hK _ ?_; clear hK K
        refine wpq (.bool true) rfl (qa_eqlI _ _ A x l1.out hx'.out true hR.out rfl rfl rfl) rfl (fun K hK => ?_); go_simp; refine hK _ ?_; clear hK K
        refine wpQuiet_nil ?_
        intro w2 h2
        have hB2 := Lib.hid (hb'.out.trans (h2.mono hb'.out.size))
        clear h2
        go_wp2
        go_ret
        exact ⟨_, hyes.out hAx.out, rfl, hS.out.trans (hB2.out.mono hS.out.size)⟩
      | false =>
        have hAx := Lib.hid (of_decide_eq_false hR0)
        clear hR0
        go_upto_region 4 with fail
        refine wp_region_quiet (C := fun w' => Below wr.heap.size wr w') (by kernel_rfl) (by kernel_rfl) ((Below.refl _ _).drew) ?_
        simp only []
        iterate 3 (go_big_quiet_want; go_big_quiet_op; first | go_big_quiet_on | (refine ⟨_, fun _ _ => rfl, ?_⟩; go_big_quiet_on))
        refine wpq (.agg (u8s A)) rfl (qa_load_mid 24 _ rfl b (o + k * 32) rfl A _ Tryz.underlying24 rfl i1.out q1'.out) rfl (fun K hK => ?_); go_simp; refine hK _ ?_; clear hK K
        refine wpq (.agg (u8s x)) rfl (quiet_row 24 _ rfl w.heap.size rfl 24 (u8s x) (0, 0) _ hrw.out Tryz.underlying24 rfl ix.out) rfl (fun K hK => ?_); go_simp; refine hK _ ?_; clear hK K
        refine wpq (.bool false) rfl (qa_eqlI _ _ A x l1.out hx'.out false hR.out rfl rfl rfl) rfl (fun K hK => ?_); go_simp; refine hK _ ?_; clear hK K
        refine wpQuiet_nil ?_
        intro w2 h2
        have hB2 := Lib.hid (hb'.out.trans (h2.mono hb'.out.size))
        clear h2
        go_wp2
        go_roundw
        case rel => exact ⟨k + 1, by omega, by go_num, hB2.out, hno.out hAx.out⟩
        case measure => simp [intOf]; omega
    · obtain rfl : k = n := by omega
      have hm := Lib.hid (mem_false he'.out)
      go_wp2
      go_ret
      exact ⟨-1, .inl ⟨rfl, hm.out⟩, rfl, hS.out.trans (hb'.out.mono hS.out.size)⟩
set_option maxHeartbeats 4000000 in
set_option maxRecDepth 100000 in
theorem rAll_any (F : List Int) (n : Nat) (v : Value) (G : List Int) (m : Nat) (u : Value) (w : World) (hr : RdI w v n F) (hn : n ≤ 100000) (hq : RdI w u m G) (hm : m ≤ 100000) :
    Calls Tryz.prog 39 #[v, u] w fun e w' => e = .returned (.bool (allF F n G m)) ∧ Below w.heap.size w w' := by
  have hlen := Lib.hid hq.len
  obtain ⟨a, c, rfl⟩ := hr.slice
  obtain ⟨a2, c2, rfl⟩ := hq.slice
  have hr' := Lib.hid hr; have hq' := Lib.hid hq
  have hAt := Lib.hid (fun (x : List Int) (hx : x.length = 32) (wz : World) (h : RdI wz (.slice a n c) n F) => rAt_any F n (.slice a n c) x wz h hn hx)
  have hfalse := Lib.hid (fun j hj h => all_false (F := F) (n := n) (G := G) (m := m) j hj h)
  have htrue := Lib.hid (fun h => (all_iff (F := F) (n := n) (G := G) (m := m)).2 h)
  clear hr hq
  generalize allF F n G m = R at *
  go_enter Tryz.func39, Tryz.ntmps39
  go_wp2
  go_loopw [5] (fun i wr => ∃ k : Nat, k ≤ m ∧ i = .int .i64 k ∧ Below w.heap.size w wr ∧ ∀ j, j < k → memF F n (idF G j) = true) (fun i _ => m - (intOf i).toNat)
  case atStart => exact ⟨0, Nat.zero_le _, rfl, Below.refl _ _, fun j hj => absurd hj (Nat.not_lt_zero _)⟩
  case round =>
    obtain ⟨k, hk, rfl, hb, he⟩ := hrel
    have he' := Lib.hid he; have hb' := Lib.hid hb
    clear he hb
    by_cases hlt2 : k < m
    · obtain ⟨b, o, rfl, hbw, hnc, q1, _⟩ := rdI_at hq'.out hb'.out k hlt2
      have q1' := Lib.hid q1
      have l1 := Lib.hid (idF_length G m k hlen.out hlt2)
      have i1 : Hid ((Tryz.prog.info? 24).map (·.size) = some (u8s (idF G k)).toList.length) := Lib.hid (by rw [Array.length_toList, u8s_size, l1.out]; kernel_rfl)
      have hA := Lib.hid (hAt.out (idF G k) l1.out wr (hr'.out.mono hb'.out))
      have hno := Lib.hid (fun (h : memF F n (idF G k) = false) => hfalse.out k hlt2 h)
      have hyes := Lib.hid (fun (h : memF F n (idF G k) = true) => (show ∀ j, j < k + 1 → memF F n (idF G j) = true from fun j hj => by
        rcases Nat.lt_or_ge j k with h1 | h1
        · exact he'.out j h1
        · obtain rfl : j = k := by omega
          exact h))
      have hkI : (k : Int) < (m : Int) := by omega
      clear q1
      obtain ⟨MB, hMB0⟩ : ∃ MB, memF F n (idF G k) = MB := ⟨_, rfl⟩
      have hA2 := Lib.hid (hA.out.mono (R' := fun e w' => ∃ r : Int, (if MB = true then 0 ≤ r else r = -1) ∧ e = .returned (.int .i64 r) ∧ Below wr.heap.size wr w') (by
        rintro e w' ⟨r, h1, h2, h3⟩
        refine ⟨r, ?_, h2, h3⟩
        cases MB with
        | true => obtain ⟨k', h4, _, _⟩ := atIs_pos h1 hMB0; rw [if_pos rfl]; omega
        | false => rw [if_neg (by decide)]; exact atIs_neg h1 hMB0))
      rw [hMB0] at hno hyes
      clear hMB0 hA hfalse htrue
      generalize idF G k = A at *
      cases MB with
      | true =>
        go_wp2_with (first
          | (refine wpList_load_mid_g rfl 24 _ rfl b (o + k * 32) rfl (u8s A) _ q1'.out Tryz.underlying24 rfl i1.out ?_)
          | (go_at_call 37; (with_reducible refine (hA2.out).mono ?_); rintro e9 w4 ⟨r, hr0, rfl, q2⟩; (try rw [if_pos rfl] at hr0); (try rw [if_neg (by decide)] at hr0); have hB2 := Lib.hid (hb'.out.trans (q2.mono hb'.out.size)); clear q2; have hr1 : ¬ r < 0 := by omega))
        go_roundw
        case rel => exact ⟨k + 1, by omega, by go_num, hB2.out, hyes.out trivial⟩
        case measure => simp [intOf]; omega
      | false =>
        go_wp2_with (first
          | (refine wpList_load_mid_g rfl 24 _ rfl b (o + k * 32) rfl (u8s A) _ q1'.out Tryz.underlying24 rfl i1.out ?_)
          | (go_at_call 37; (with_reducible refine (hA2.out).mono ?_); rintro e9 w4 ⟨r, hr0, rfl, q2⟩; (try rw [if_pos rfl] at hr0); (try rw [if_neg (by decide)] at hr0); have hB2 := Lib.hid (hb'.out.trans (q2.mono hb'.out.size)); clear q2; subst hr0; skip))
        go_ret
        exact ⟨ret_bool (hno.out trivial).symm, hB2.out⟩
    · obtain rfl : k = m := by omega
      have hh := Lib.hid (htrue.out he'.out)
      go_wp2
      go_ret
      exact ⟨ret_bool hh.out.symm, hb'.out⟩
end Go.Proofs.YtlbgffhipondiaaGreatDoor.wir.val
namespace Go.Proofs.YtlbgffhipondiaaGreatDoor.wir.val
open Go.RowKit Go.YtlbgffhipondiaaGreatDoor
set_option linter.unusedVariables false
def tkS (T : List Bool) : Array Value := (T.map Value.bool).toArray
def tkAt (T : List Bool) (i : Nat) : Bool := T[i]?.getD false
def nthK (B : List (List Nat)) (i : Nat) : List Nat := B[i]?.getD []
theorem tkS_cell {w : World} {g : Nat} {T : List Bool} {E : TypeId} {fr : Nat × Nat} (h : w.heap[g]? = some (.cells (tkS T) E fr)) (i : Nat) (hi : i < T.length) : w.cell? ⟨g, i, none⟩ = some (.bool (tkAt T i)) := by
  rw [cell_of_row _ _ _ _ _ _ h]
  simp [tkS, tkAt, hi]
theorem tkS_set (T : List Bool) (i : Nat) (b : Bool) : (tkS T).setIfInBounds i (.bool b) = tkS (T.set i b) := by
  unfold tkS
  apply Array.ext'
  simp [List.map_set]
theorem tkAt_set (T : List Bool) (i j : Nat) (b : Bool) (hi : i < T.length) : tkAt (T.set i b) j = if j = i then b else tkAt T j := by
  unfold tkAt
  rw [List.getElem?_set]
  by_cases h : i = j
  · subst h; simp [hi]
  · rw [if_neg h, if_neg (fun e => h e.symm)]
def cntT : List Bool → Nat
  | [] => 0
  | true :: T => cntT T + 1
  | false :: T => cntT T
theorem cntT_le : ∀ T : List Bool, cntT T ≤ T.length
  | [] => Nat.le_refl _
  | true :: T => by have := cntT_le T; simp only [cntT, List.length_cons]; omega
  | false :: T => by have := cntT_le T; simp only [cntT, List.length_cons]; omega
theorem cntT_set : ∀ (T : List Bool) (i : Nat), i < T.length → tkAt T i = false → cntT (T.set i true) = cntT T + 1
  | [], i, hi, _ => absurd hi (Nat.not_lt_zero _)
  | b :: T, 0, _, h => by
    have : b = false := by simpa [tkAt] using h
    subst this
    rfl
  | b :: T, i + 1, hi, h => by
    have h1 : tkAt T i = false := by simpa [tkAt] using h
    have h2 := cntT_set T i (by simpa using hi) h1
    cases b <;> simp only [List.set_cons_succ, cntT, h2]
theorem cntT_all : ∀ T : List Bool, cntT T = T.length → ∀ i, i < T.length → tkAt T i = true
  | [], _, i, hi => absurd hi (Nat.not_lt_zero _)
  | false :: T, h, i, hi => by have := cntT_le T; simp only [cntT, List.length_cons] at h; omega
  | true :: T, h, 0, _ => rfl
  | true :: T, h, i + 1, hi => by
    have := cntT_all T (by simp only [cntT, List.length_cons] at h; omega) i (by simpa using hi)
    simpa [tkAt] using this
theorem cntT_some : ∀ T : List Bool, cntT T < T.length → ∃ i, i < T.length ∧ tkAt T i = false
  | [], h => absurd h (Nat.not_lt_zero _)
  | false :: T, _ => ⟨0, by simp, rfl⟩
  | true :: T, h => by
    obtain ⟨i, h1, h2⟩ := cntT_some T (by simp only [cntT, List.length_cons] at h; omega)
    exact ⟨i + 1, by simpa using h1, by simpa [tkAt] using h2⟩
theorem cntT_none (n : Nat) : cntT (List.replicate n false) = 0 := by
  induction n with
  | zero => rfl
  | succ n ih => rw [List.replicate_succ]; exact ih
theorem tkAt_none (n i : Nat) : tkAt (List.replicate n false) i = false := by
  unfold tkAt
  rw [List.getElem?_replicate]
  split <;> rfl
/-- A slice of ints that reads as' l (an empty one may have any address). -/
def RdK (w : World) (v : Value) (l : List Nat) : Prop :=
  (∃ a c, v = .slice a 0 c ∧ (a = none → c = 0) ∧ l = []) ∨ ∃ b o c, v = .slice (some ⟨b, o, none⟩) l.length c ∧ l.length ≤ c ∧ c ≤ maxLen ∧ b < w.heap.size ∧ ∀ i, i < l.length → w.cell? ⟨b, o + i, none⟩ = some (.int .i64 ((l[i]?.getD 0 : Nat) : Int))
theorem RdK.mono {w w' : World} {v : Value} {l : List Nat} (h : RdK w v l) (hb : Below w.heap.size w w') : RdK w' v l := by
  rcases h with h | ⟨b, o, c, hv, h1, h2, h3, h4⟩
  · exact .inl h
  · exact .inr ⟨b, o, c, hv, h1, h2, Nat.lt_of_lt_of_le h3 hb.size, fun i hi => (hb.cell (p := (⟨b, o + i, none⟩ : Addr)) h3).trans (h4 i hi)⟩
theorem RdK.slice {w : World} {v : Value} {l : List Nat} (h : RdK w v l) : ∃ a c, v = .slice a l.length c := by
  rcases h with ⟨a, c, rfl, _, rfl⟩ | ⟨b, o, c, hv, _⟩
  · exact ⟨a, c, rfl⟩
  · exact ⟨_, c, hv⟩
/-- A slice of slices of ints that reads as' B. -/
def RdKK (w : World) (v : Value) (B : List (List Nat)) : Prop :=
  (∃ a c, v = .slice a 0 c ∧ (a = none → c = 0) ∧ B = []) ∨ ∃ b o c, v = .slice (some ⟨b, o, none⟩) B.length c ∧ B.length ≤ c ∧ c ≤ maxLen ∧ b < w.heap.size ∧ ∀ i, i < B.length → ∃ s, w.cell? ⟨b, o + i, none⟩ = some s ∧ RdK w s (nthK B i)
theorem RdKK.mono {w w' : World} {v : Value} {B : List (List Nat)} (h : RdKK w v B) (hb : Below w.heap.size w w') : RdKK w' v B := by
  rcases h with h | ⟨b, o, c, hv, h1, h2, h3, h4⟩
  · exact .inl h
  · refine .inr ⟨b, o, c, hv, h1, h2, Nat.lt_of_lt_of_le h3 hb.size, fun i hi => ?_⟩
    obtain ⟨s, h5, h6⟩ := h4 i hi
    exact ⟨s, (hb.cell (p := (⟨b, o + i, none⟩ : Addr)) h3).trans h5, h6.mono hb⟩
theorem RdKK.slice {w : World} {v : Value} {B : List (List Nat)} (h : RdKK w v B) : ∃ a c, v = .slice a B.length c := by
  rcases h with ⟨a, c, rfl, _, rfl⟩ | ⟨b, o, c, hv, _⟩
  · exact ⟨a, c, rfl⟩
  · exact ⟨_, c, hv⟩
theorem rdKK_at {w wr : World} {a : Option Addr} {n c : Nat} {B : List (List Nat)} (h : RdKK w (.slice a n c) B) (hn : B.length = n) (hb : Below w.heap.size w wr) (i : Nat) (hi : i < n) :
    ∃ b o sa sc, a = some ⟨b, o, none⟩ ∧ b < w.heap.size ∧ wr.cell? ⟨b, o + i, none⟩ = some (.slice sa (nthK B i).length sc) ∧ RdK wr (.slice sa (nthK B i).length sc) (nthK B i) := by
  rcases h with ⟨a', c', he, _, rfl⟩ | ⟨b, o, c', h1, h2, h3, h4, h5⟩
  · simp at hn; omega
  · obtain ⟨e1, e2, e3⟩ := Value.slice.inj h1
    subst e1
    obtain ⟨s, k1, k2⟩ := h5 i (by omega)
    obtain ⟨sa, sc, rfl⟩ := k2.slice
    exact ⟨b, o, sa, sc, rfl, h4, (hb.cell (p := (⟨b, o + i, none⟩ : Addr)) h4).trans k1, k2.mono hb⟩
set_option maxHeartbeats 2000000 in
set_option maxRecDepth 100000 in
theorem allTaken_any (l : List Nat) (T : List Bool) (v : Value) (g n : Nat) (w : World) (hr : RdK w v l) (hl : ∀ x, x ∈ l → x < n) (hg : w.heap[g]? = some (.cells (tkS T) 4 (0, 0))) (hT : T.length = n) (hl100 : l.length ≤ 100000) :
    Calls Tryz.prog 199 #[v, .slice (some ⟨g, 0, none⟩) n n] w fun e w' => e = .returned (.bool (l.all (tkAt T))) ∧ w' = w := by
  obtain ⟨a, c, rfl⟩ := hr.slice
  have hr' := Lib.hid hr; have hg' := Lib.hid hg; have hl' := Lib.hid hl; have hT' := Lib.hid hT
  have hyes := Lib.hid (fun (h : ∀ x, x ∈ l → tkAt T x = true) => (show l.all (tkAt T) = true from List.all_eq_true.2 h))
  have hno := Lib.hid (fun (x : Nat) (hx : x ∈ l) (h : tkAt T x = false) => (show l.all (tkAt T) = false by
    cases hA : l.all (tkAt T) with
    | false => rfl
    | true => rw [List.all_eq_true.1 hA x hx] at h; cases h))
  have hmem := Lib.hid (fun (k : Nat) (hk : k < l.length) => (show (l[k]?.getD 0) ∈ l by rw [List.getElem?_eq_getElem hk]; exact List.getElem_mem hk))
  have hall := Lib.hid (fun (h : ∀ j, j < l.length → tkAt T (l[j]?.getD 0) = true) => (show ∀ x, x ∈ l → tkAt T x = true from fun x hx => by
    obtain ⟨j, hj, e⟩ := List.getElem_of_mem hx
    have := h j hj
    rw [List.getElem?_eq_getElem hj] at this
    rw [← e]; exact this))
  clear hr hg hl hT
  generalize l.all (tkAt T) = R at *
  obtain ⟨m, hm⟩ : ∃ m, l.length = m := ⟨_, rfl⟩
  have hm' := Lib.hid hm
  rw [hm] at hmem hall hl100 ⊢
  clear hm
  go_enter Tryz.func199, Tryz.ntmps199
  go_wp2
  go_loopw [9] (fun i wr => ∃ k : Nat, k ≤ m ∧ i = .int .i64 k ∧ wr = w ∧ ∀ j, j < k → tkAt T (l[j]?.getD 0) = true) (fun i _ => m - (intOf i).toNat)
  case atStart => exact ⟨0, Nat.zero_le _, rfl, rfl, fun j hj => absurd hj (Nat.not_lt_zero _)⟩
  case round =>
    obtain ⟨k, hk, rfl, rfl, he⟩ := hrel
    have he' := Lib.hid he
    clear he
    by_cases hlt2 : k < m
    · have hat : ∃ b o, a = some ⟨b, o, none⟩ ∧ wr.cell? ⟨b, o + k, none⟩ = some (.int .i64 ((l[k]?.getD 0 : Nat) : Int)) := by
        rcases hr'.out with ⟨_, _, _, _, rfl⟩ | ⟨b, o, c', hv, h1, h2, h3, h4⟩
        · have := hm'.out; simp at this; omega
        · obtain ⟨e1, _, _⟩ := Value.slice.inj hv
          exact ⟨b, o, e1, h4 k (by have := hm'.out; omega)⟩
      obtain ⟨b, o, rfl, ck⟩ := hat
      have hmk := hmem.out k hlt2
      have hx := hl'.out _ hmk
      have cT := tkS_cell hg'.out (l[k]?.getD 0) (by have := hT'.out; omega)
      have hn2 := Lib.hid (hno.out (l[k]?.getD 0) hmk)
      have hy2 := Lib.hid (fun (h : tkAt T (l[k]?.getD 0) = true) => (show ∀ j, j < k + 1 → tkAt T (l[j]?.getD 0) = true from fun j hj => by
        rcases Nat.lt_or_ge j k with h1 | h1
        · exact he'.out j h1
        · obtain rfl : j = k := by omega
          exact h))
      have hkI : (k : Int) < (m : Int) := by omega
      clear hmk
      generalize l[k]?.getD 0 = x at *
      generalize tkAt T x = b2 at *
      have hxI : (x : Int) < (n : Int) := by omega
      cases b2 with
      | true =>
        go_wp2
        go_roundw
        case rel => exact ⟨k + 1, by omega, by go_num, trivial, hy2.out rfl⟩
        case measure => simp [intOf]; omega
      | false =>
        go_wp2
        go_ret
        exact ⟨ret_bool (hn2.out trivial).symm, rfl⟩
    · obtain rfl : k = m := by omega
      have hh := Lib.hid (hyes.out (hall.out he'.out))
      go_wp2
      go_ret
      exact ⟨ret_bool hh.out.symm, rfl⟩
end Go.Proofs.YtlbgffhipondiaaGreatDoor.wir.val
namespace Go.Proofs.YtlbgffhipondiaaGreatDoor.wir.val
open Go.RowKit Go.YtlbgffhipondiaaGreatDoor
set_option linter.unusedVariables false
theorem ver_chk {o : Od} (h : verO o = 0) : chkO o = 0 := by
  unfold verO at h
  split at h
  · assumption
  · exact h
set_option maxHeartbeats 4000000 in
set_option maxRecDepth 100000 in
theorem verified_ok (o : Od) (fo : o.Fit) (pv : Value) (w : World) (hp : RdI w pv o.n o.F) (hG : GlobW w) (h0 : verO o = 0) :
    Calls Tryz.prog 66 #[.agg (o.c pv)] w fun e w' => e = .returned (.tuple #[.agg (u8s (shaF (encO o))), .int .i64 0]) ∧ Below w.heap.size w w' := by
  obtain ⟨W, hW⟩ : ∃ W, W = (w.alloc (.cells (o.c pv) 35)).alloc (.cells (u8s (zerosB 32)) 24) := ⟨_, rfl⟩
  have hr0 : W.heap[w.heap.size]? = some (.cells (o.c pv) 35 (0, 0)) := by rw [hW]; exact rowB (heap_alloc_new w _) (below_a _ _) (by simp)
  have hr1 : W.heap[w.heap.size + 1]? = some (.cells (u8s (zerosB 32)) 24 (0, 0)) := by rw [hW]; exact hn2 w _ _
  have hb0 : Below w.heap.size w W := by rw [hW]; exact ((Below.refl w.heap.size w).alloc (Nat.le_refl _) _).alloc (by simp) _
  obtain ⟨pa, pc, rfl⟩ := hp.slice
  have hb1 := Lib.hid hb0
  have hrow := Lib.hid hr0
  have hres := Lib.hid hr1
  have hlt := Lib.hid (Array.getElem?_eq_some_iff.1 hr0).1
  have hlt1 := Lib.hid (Array.getElem?_eq_some_iff.1 hr1).1
  have hrows := Lib.hid (fun (wz : World) (h : Below W.heap.size W wz) => rowB hrow.out h hlt.out)
  have hress := Lib.hid (fun (wz : World) (h : Below W.heap.size W wz) => rowB hres.out h hlt1.out)
  have hGW := hG.mono hb0
  have hK := Lib.hid (fun (wz : World) (hb : Below W.heap.size W wz) => opVerify_any o fo (.slice pa o.n pc) wz ((hp.mono hb0).mono hb) (hGW.mono hb))
  rw [h0] at hK
  have hE := Lib.hid (fun (wz : World) (hb : Below W.heap.size W wz) => by
    obtain ⟨Tg, Tf, g1, g2⟩ := hGW.mono hb
    exact opID_ok o fo (.slice pa o.n pc) wz ((hp.mono hb0).mono hb) (ver_chk h0) g1 g2)
  have hDl : (shaF (encO o)).length = 32 := shaF_length _
  generalize shaF (encO o) = D at *
  have di := Lib.hid (show (Tryz.prog.info? 24).map (·.size) = some (u8s D).size by rw [u8s_size, hDl]; kernel_rfl)
  have ds := Lib.hid (show (u8s (zerosB 32)).size = (u8s D).size by rw [u8s_size, u8s_size, hDl, zerosB_length])
  have hB := Lib.hid (Below.refl W.heap.size W)
  clear hr0 hr1 hb0 hp fo h0 hGW hG hDl
  go_enter Tryz.func66, Tryz.ntmps66
  go_upto_region 1 with fail
  rw [show ∀ x : Array Value, x = u8s (zerosB 32) → (w.alloc (.cells (o.c (.slice pa o.n pc)) 35)).alloc (.cells x 24) = W from fun x hx => by rw [hx, hW]]
  rotate_left
  · kernel_rfl
  clear hW
  go_wp2_with (first | (refine wpList_load_row_g rfl 35 _ rfl w.heap.size rfl 35 (o.c (.slice pa o.n pc)) (0, 0) _ (hrows.out _ hB.out) Tryz.underlying35 rfl info_op ?_) | (go_at_call 25; (with_reducible refine (hK.out _ hB.out).mono ?_); rintro e w3 ⟨rfl, h3⟩; replace hB := Lib.hid (hB.out.trans (h3.mono hB.out.size)); clear h3) | (go_at_call 16; (with_reducible refine (hE.out _ hB.out).mono ?_); rintro e w4 ⟨rfl, h3⟩; replace hB := Lib.hid (hB.out.trans (h3.mono hB.out.size)); clear h3) | (refine storeOver _ (w.heap.size + 1) _ rfl 24 _ _ rfl (u8s D) 24 (hress.out _ hB.out) rfl rfl di.out ds.out (u8s_one _) ?_; intro w5 hr5 hb5; have hr5' := Lib.hid hr5; have hb5' := Lib.hid hb5; clear hr5 hb5))
  exact bodyPost_ret (results_row_tmp rfl _ _ (w.heap.size + 1) 24 _ _ _ rfl hr5'.out Tryz.underlying24 rfl di.out) rfl ⟨rfl, hb1.out.trans ((hB.out.mono hb1.out.size).trans (hb5'.out.mono (by omega)))⟩
set_option maxHeartbeats 4000000 in
set_option maxRecDepth 100000 in
theorem verified_bad (o : Od) (fo : o.Fit) (pv : Value) (w : World) (hp : RdI w pv o.n o.F) (hG : GlobW w) (h0 : verO o ≠ 0) :
    Calls Tryz.prog 66 #[.agg (o.c pv)] w fun e w' => e = .returned (.tuple #[.agg (u8s (zerosB 32)), .int .i64 (verO o)]) ∧ Below w.heap.size w w' := by
  obtain ⟨W, hW⟩ : ∃ W, W = (w.alloc (.cells (o.c pv) 35)).alloc (.cells (u8s (zerosB 32)) 24) := ⟨_, rfl⟩
  have hr0 : W.heap[w.heap.size]? = some (.cells (o.c pv) 35 (0, 0)) := by rw [hW]; exact rowB (heap_alloc_new w _) (below_a _ _) (by simp)
  have hr1 : W.heap[w.heap.size + 1]? = some (.cells (u8s (zerosB 32)) 24 (0, 0)) := by rw [hW]; exact hn2 w _ _
  have hb0 : Below w.heap.size w W := by rw [hW]; exact ((Below.refl w.heap.size w).alloc (Nat.le_refl _) _).alloc (by simp) _
  obtain ⟨pa, pc, rfl⟩ := hp.slice
  have hb1 := Lib.hid hb0
  have hrow := Lib.hid hr0
  have hres := Lib.hid hr1
  have hlt := Lib.hid (Array.getElem?_eq_some_iff.1 hr0).1
  have hlt1 := Lib.hid (Array.getElem?_eq_some_iff.1 hr1).1
  have hrows := Lib.hid (fun (wz : World) (h : Below W.heap.size W wz) => rowB hrow.out h hlt.out)
  have hress := Lib.hid (fun (wz : World) (h : Below W.heap.size W wz) => rowB hres.out h hlt1.out)
  have hGW := hG.mono hb0
  have hK := Lib.hid (fun (wz : World) (hb : Below W.heap.size W wz) => opVerify_any o fo (.slice pa o.n pc) wz ((hp.mono hb0).mono hb) (hGW.mono hb))
  have hx : (verO o != 0) = true := by simpa using h0
  generalize verO o = E at *
  have hB := Lib.hid (Below.refl W.heap.size W)
  clear hr0 hr1 hb0 hp fo h0 hGW hG
  go_enter Tryz.func66, Tryz.ntmps66
  go_upto_region 1 with fail
  rw [show ∀ x : Array Value, x = u8s (zerosB 32) → (w.alloc (.cells (o.c (.slice pa o.n pc)) 35)).alloc (.cells x 24) = W from fun x hx => by rw [hx, hW]]
  rotate_left
  · kernel_rfl
  clear hW
  go_wp2_with (first | (refine wpList_load_row_g rfl 35 _ rfl w.heap.size rfl 35 (o.c (.slice pa o.n pc)) (0, 0) _ (hrows.out _ hB.out) Tryz.underlying35 rfl info_op ?_) | (go_at_call 25; (with_reducible refine (hK.out _ hB.out).mono ?_); rintro e w3 ⟨rfl, h3⟩; replace hB := Lib.hid (hB.out.trans (h3.mono hB.out.size)); clear h3) | (refine storeOver _ (w.heap.size + 1) _ rfl 24 _ _ rfl (u8s (zerosB 32)) 24 (hress.out _ hB.out) rfl rfl info_id rfl (u8s_one _) ?_; intro w5 hr5 hb5; have hr5' := Lib.hid hr5; have hb5' := Lib.hid hb5; clear hr5 hb5))
  exact bodyPost_ret (results_row_tmp rfl _ _ (w.heap.size + 1) 24 _ _ _ rfl hr5'.out Tryz.underlying24 rfl info_id) rfl ⟨rfl, hb1.out.trans ((hB.out.mono hb1.out.size).trans (hb5'.out.mono (by omega)))⟩
end Go.Proofs.YtlbgffhipondiaaGreatDoor.wir.val
namespace Go.Proofs.YtlbgffhipondiaaGreatDoor.wir.val
open Go.RowKit Go.YtlbgffhipondiaaGreatDoor
set_option linter.unusedVariables false
/-- The place i can be taken, after those that are to come before it. -/
inductive TkB (B : List (List Nat)) : Nat → Prop
  | mk (i : Nat) (hi : i < B.length) (h : ∀ j, j ∈ nthK B i → TkB B j) : TkB B i
/-- What was taken of the first k places; c of them newly. -/
structure TakeP (B : List (List Nat)) (T T' : List Bool) (c k : Nat) : Prop where
  len : T'.length = T.length
  up : ∀ i, tkAt T i = true → tkAt T' i = true
  sound : (∀ i, tkAt T i = true → TkB B i) → ∀ i, tkAt T' i = true → TkB B i
  cnt : cntT T' = cntT T + c
  zero : c = 0 → T' = T ∧ ∀ i, i < k → tkAt T i = false → (nthK B i).all (tkAt T) = false
theorem takeP_zero (B : List (List Nat)) (T : List Bool) : TakeP B T T 0 0 := ⟨rfl, fun _ h => h, fun h => h, rfl, fun _ => ⟨rfl, fun i hi => absurd hi (Nat.not_lt_zero _)⟩⟩
theorem takeP_yes {B : List (List Nat)} {T T' : List Bool} {c k : Nat} (h : TakeP B T T' c k) (hk : k < B.length) (hT : T.length = B.length) (h0 : tkAt T' k = false) (h1 : (nthK B k).all (tkAt T') = true) : TakeP B T (T'.set k true) (c + 1) (k + 1) := by
  have hl : k < T'.length := by rw [h.len, hT]; exact hk
  refine ⟨by rw [List.length_set]; exact h.len, fun i hi => ?_, fun hs i hi => ?_, by rw [cntT_set _ _ hl h0, h.cnt]; omega, fun e => by omega⟩
  · rw [tkAt_set _ _ _ _ hl]
    split
    · rfl
    · exact h.up i hi
  · rw [tkAt_set _ _ _ _ hl] at hi
    split at hi
    · rename_i e
      subst e
      exact ⟨i, hk, fun j hj => h.sound hs j (List.all_eq_true.1 h1 j hj)⟩
    · exact h.sound hs i hi
theorem takeP_done {B : List (List Nat)} {T T' : List Bool} {c k : Nat} (h : TakeP B T T' c k) (h0 : tkAt T' k = true) : TakeP B T T' c (k + 1) := by
  refine ⟨h.len, h.up, h.sound, h.cnt, fun e => ⟨(h.zero e).1, fun i hi hf => ?_⟩⟩
  rcases Nat.lt_or_ge i k with h1 | h1
  · exact (h.zero e).2 i h1 hf
  · obtain rfl : i = k := by omega
    rw [← (h.zero e).1, h0] at hf; cases hf
theorem takeP_no {B : List (List Nat)} {T T' : List Bool} {c k : Nat} (h : TakeP B T T' c k) (h1 : (nthK B k).all (tkAt T') = false) : TakeP B T T' c (k + 1) := by
  refine ⟨h.len, h.up, h.sound, h.cnt, fun e => ⟨(h.zero e).1, fun i hi hf => ?_⟩⟩
  rcases Nat.lt_or_ge i k with h2 | h2
  · exact (h.zero e).2 i h2 hf
  · obtain rfl : i = k := by omega
    rw [← (h.zero e).1]; exact h1
theorem cnt_cap {B : List (List Nat)} {T T' : List Bool} {c k : Nat} (h : TakeP B T T' c k) : cntT T + c ≤ T.length := by
  have := cntT_le T'
  rw [h.cnt, h.len] at this
  exact this
theorem tkB_sub {B : List (List Nat)} (T : List Bool) (hT : ∀ i, i < B.length → tkAt T i = false → (nthK B i).all (tkAt T) = false) {i : Nat} (h : TkB B i) : tkAt T i = true := by
  induction h with
  | mk i hi h ih =>
    cases hb : tkAt T i with
    | true => rfl
    | false =>
      have := hT i hi hb
      rw [List.all_eq_true.2 ih] at this; cases this
set_option maxHeartbeats 4000000 in
set_option maxRecDepth 100000 in
theorem take_any (B : List (List Nat)) (T : List Bool) (v : Value) (g n : Nat) (W0 w : World) (hB : RdKK W0 v B) (hb0 : Below W0.heap.size W0 w) (hg0 : W0.heap.size ≤ g) (hg : w.heap[g]? = some (.cells (tkS T) 4 (0, 0))) (hT : T.length = n) (hn : B.length = n) (hn100 : n ≤ 100000) (hin : ∀ i, i < n → (nthK B i).length ≤ 100000 ∧ ∀ x, x ∈ nthK B i → x < n) :
    Calls Tryz.prog 162 #[v, .slice (some ⟨g, 0, none⟩) n n] w fun e w' => ∃ T' c, TakeP B T T' c n ∧ e = .returned (.int .i64 ((c : Nat) : Int)) ∧ w'.heap[g]? = some (.cells (tkS T') 4 (0, 0)) ∧ Below W0.heap.size W0 w' := by
  obtain ⟨a, c0, rfl⟩ := hB.slice
  have hB' := Lib.hid hB; have hb' := Lib.hid hb0; have hg' := Lib.hid hg; have hin' := Lib.hid hin; have hg0' := Lib.hid hg0
  have hnh := Lib.hid hn
  have hTB := Lib.hid (show T.length = B.length by omega)
  have hTn := Lib.hid hT
  rw [hn] at hB' ⊢
  clear hB hb0 hg hin hg0 hn hT
  go_enter Tryz.func162, Tryz.ntmps162
  go_wp2
  go_loopw [5, 9] (fun s i wr => ∃ (T' : List Bool) (c k : Nat), TakeP B T T' c k ∧ k ≤ n ∧ s = .int .i64 (c : Int) ∧ i = .int .i64 (k : Int) ∧ wr.heap[g]? = some (.cells (tkS T') 4 (0, 0)) ∧ Below W0.heap.size W0 wr) (fun _ i _ => n - (intOf i).toNat)
  case atStart => exact ⟨T, 0, 0, takeP_zero B T, Nat.zero_le _, rfl, rfl, hg'.out, hb'.out⟩
  case round =>
    obtain ⟨T', c, k, hP, hk, rfl, rfl, hr, hb⟩ := hrel
    have hP' := Lib.hid hP; have hr' := Lib.hid hr; have hbk := Lib.hid hb
    have hl' := Lib.hid (show T'.length = n by rw [hP.len, hTn.out])
    clear hP hr hb
    by_cases hlt : k < n
    · obtain ⟨b, o, sa, sc, rfl, hbw, cs, rs⟩ := rdKK_at hB'.out hnh.out hbk.out k hlt
      have ck := tkS_cell hr'.out k (by have := hl'.out; omega)
      have fk := frozen_of_row _ _ k _ _ hr'.out
      have hkI : (k : Int) < (n : Int) := by omega
      have rs' := Lib.hid rs
      have hAT := Lib.hid (fun wz (h : wz = wr) => allTaken_any (nthK B k) T' (.slice sa (nthK B k).length sc) g n wz (by rw [h]; exact rs) (hin'.out k hlt).2 (by rw [h]; exact hr'.out) hl'.out (hin'.out k hlt).1)
      have hyes := Lib.hid (fun h0 h1 => takeP_yes hP'.out (by have := hnh.out; omega) hTB.out h0 h1)
      have hno := Lib.hid (fun h1 => takeP_no hP'.out h1)
      have hdone := Lib.hid (fun h0 => takeP_done hP'.out h0)
      have hcap := cnt_cap hP'.out
      have hcw : IntKind.i64.wrap ((c : Int) + 1) = (c : Int) + 1 := IntWalk.i64_in _ (by have := hTn.out; omega)
      clear rs
      generalize hRR : (nthK B k).all (tkAt T') = R at *
      generalize (nthK B k).length = m at *
      generalize hbb : tkAt T' k = b0 at *
      clear hRR hbb
      cases b0 with
      | true =>
        go_wp2
        go_roundw
        case rel => exact ⟨T', c, k + 1, hdone.out rfl, by omega, rfl, by go_num, hr'.out, hbk.out⟩
        case measure => simp [intOf]; omega
      | false =>
        cases R with
        | true =>
          go_wp2_with (go_at_call 199; (with_reducible refine (hAT.out _ rfl).mono ?_); rintro e9 w9 ⟨rfl, hw9⟩; replace hw9 := hw9.symm; subst hw9)
          go_roundw
          case rel => exact ⟨T'.set k true, c + 1, k + 1, hyes.out trivial trivial, by omega, by go_num, by go_num, by rw [← tkS_set]; exact setCell_row hr'.out k _, hbk.out.setCell (p := ⟨g, k, none⟩) hg0'.out _⟩
          case measure => simp [intOf]; omega
        | false =>
          go_wp2_with (go_at_call 199; (with_reducible refine (hAT.out _ rfl).mono ?_); rintro e9 w9 ⟨rfl, hw9⟩; replace hw9 := hw9.symm; subst hw9)
          go_roundw
          case rel => exact ⟨T', c, k + 1, hno.out trivial, by omega, rfl, by go_num, hr'.out, hbk.out⟩
          case measure => simp [intOf]; omega
    · obtain rfl : k = n := by omega
      go_wp2
      go_ret
      exact ⟨T', c, hP'.out, rfl, hr'.out, hbk.out⟩
end Go.Proofs.YtlbgffhipondiaaGreatDoor.wir.val
namespace Go.Proofs.YtlbgffhipondiaaGreatDoor.wir.val
open Go.RowKit Go.YtlbgffhipondiaaGreatDoor
set_option linter.unusedVariables false
theorem madeCells_bools (n : Nat) : madeCells #[Value.bool false] n = tkS (List.replicate n false) := by
  apply Array.ext'
  rw [toList_madeCells_one]
  simp [tkS]
theorem run_makeT (w : World) (n : Nat) (hn : n ≤ 100000) : (Instr.makeSlice 115 (.int .i64 (n : Int)) (.int .i64 (n : Int))).run Tryz.prog w = .ok (.slice (some ⟨w.heap.size, 0, none⟩) n n) (w.alloc (.cells (tkS (List.replicate n false)) 4)) := by
  obtain ⟨i, hi, hz, hs, hb⟩ := info_parts (show (Tryz.prog.info? 4).map (fun i => (i.zero, i.size, i.bytes)) = some (some (.bool false), 1, 1) by kernel_rfl)
  have h := run_make (P := Tryz.prog) w 115 4 i (.bool false) Tryz.underlying115 hi hz .i64 .i64 (n : Int) (n : Int) (by omega) (by omega) (by rw [hb]; omega) (by omega)
  rw [h, hs]
  simp only [Int.toNat_natCast, Nat.mul_one, Value.cells]
  rw [madeCells_bools]
theorem all_taken {B : List (List Nat)} {T : List Bool} {n : Nat} (hl : T.length = n) (hs : ∀ i, tkAt T i = true → TkB B i) (hc : cntT T = n) : ∀ i, i < n → TkB B i :=
  fun i hi => hs i (cntT_all T (by omega) i (by omega))
theorem not_taken {B : List (List Nat)} {T T' : List Bool} {n : Nat} (hB : B.length = n) (hl : T.length = n) (hc : cntT T < n) (hP : TakeP B T T' 0 n) : ¬ ∀ i, i < n → TkB B i := by
  intro h
  obtain ⟨i, h1, h2⟩ := cntT_some T (by omega)
  have := tkB_sub T (fun i hi => (hP.zero rfl).2 i (by omega)) (h i (by omega))
  rw [this] at h2; cases h2
set_option maxHeartbeats 4000000 in
set_option maxRecDepth 100000 in
theorem hasCycle_any (B : List (List Nat)) (v : Value) (n : Nat) (w : World) (hB : RdKK w v B) (hn : B.length = n) (hn100 : n ≤ 100000) (hin : ∀ i, i < n → (nthK B i).length ≤ 100000 ∧ ∀ x, x ∈ nthK B i → x < n) :
    Calls Tryz.prog 118 #[v] w fun e w' => ∃ r : Bool, (r = true ↔ ¬ ∀ i, i < n → TkB B i) ∧ e = .returned (.bool r) ∧ Below w.heap.size w w' := by
  obtain ⟨a, c0, rfl⟩ := hB.slice
  have hB' := Lib.hid hB
  have hin' := Lib.hid hin
  have hnh := Lib.hid hn
  rw [hn] at hB' ⊢
  have hmk := fun wz : World => run_makeT wz n hn100
  have htk := Lib.hid (fun (T : List Bool) (wz : World) (hb0 : Below w.heap.size w wz) (hg : wz.heap[w.heap.size]? = some (.cells (tkS T) 4 (0, 0))) (hT : T.length = n) => take_any B T (.slice a n c0) w.heap.size n w wz hB'.out hb0 (Nat.le_refl _) hg hT hnh.out hn100 hin'.out)
  have hall := Lib.hid (fun T hl hs hc => all_taken (B := B) (T := T) (n := n) hl hs hc)
  have hnot := Lib.hid (fun T T' hl hc hP => not_taken (B := B) (T := T) (T' := T') (n := n) hnh.out hl hc hP)
  have r0 := Lib.hid (heap_alloc_new w (.cells (tkS (List.replicate n false)) 4))
  have b0 := Lib.hid (below_a w (.cells (tkS (List.replicate n false)) 4))
  clear hB hin hn
  go_enter Tryz.func118, Tryz.ntmps118
  go_wp2
  go_loopw [4] (fun i wr => ∃ T : List Bool, T.length = n ∧ i = .int .i64 ((n - cntT T : Nat) : Int) ∧ (∀ j, tkAt T j = true → TkB B j) ∧ wr.heap[w.heap.size]? = some (.cells (tkS T) 4 (0, 0)) ∧ Below w.heap.size w wr) (fun i _ => (intOf i).toNat)
  case atStart => exact ⟨List.replicate n false, by simp, by rw [cntT_none]; rfl, fun j hj => (by rw [tkAt_none] at hj; cases hj), r0.out, b0.out⟩
  case round =>
    obtain ⟨T, hl, rfl, hs, hr, hb⟩ := hrel
    have hs' := Lib.hid hs; have hr' := Lib.hid hr; have hb' := Lib.hid hb; have hl' := Lib.hid hl
    have hle := cntT_le T
    have hT := Lib.hid (htk.out T wr hb hr hl)
    clear hs hr hb
    obtain ⟨L, hL⟩ : ∃ L, n - cntT T = L := ⟨_, rfl⟩
    have hL' := Lib.hid hL
    rw [hL]
    by_cases h0 : 0 < L
    · have h0I : (0 : Int) < (L : Int) := by omega
      go_upto_region 5 with (go_at_call 162; (with_reducible refine (hT.out).mono ?_); rintro e9 w9 ⟨T', c, hP, rfl, q1, q2⟩; have hP' := Lib.hid hP; have q1' := Lib.hid q1; have q2' := Lib.hid q2; clear hP q1 q2)
      by_cases hc : c = 0
      · subst hc
        have hh := Lib.hid (hnot.out T T' hl'.out (by have := hL'.out; omega) hP'.out)
        go_wp2
        go_ret
        exact ⟨true, ⟨fun _ => hh.out, fun _ => rfl⟩, rfl, q2'.out⟩
      · have hc0 : ((c : Int) == 0) = false := by simpa using hc
        have hcap := cnt_cap hP'.out
        have hcw : IntKind.i64.wrap ((L : Int) - (c : Int)) = ((L - c : Nat) : Int) := by
          rw [IntWalk.i64_in _ (by omega)]
          omega
        have hcn := hP'.out.cnt
        have hln := hP'.out.len
        go_wp2
        go_roundw
        case rel => exact ⟨T', by omega, by have e : n - cntT T' = L - c := by omega
                                            rw [e], hP'.out.sound hs'.out, q1'.out, q2'.out⟩
        case measure => simp [intOf]; omega
    · have h0I : ¬ (0 : Int) < (L : Int) := by omega
      have hh := Lib.hid (hall.out T hl'.out hs'.out (by omega))
      go_wp2
      go_ret
      exact .inl ⟨hh.out, rfl, hb'.out⟩
end Go.Proofs.YtlbgffhipondiaaGreatDoor.wir.val
namespace Go.Proofs.YtlbgffhipondiaaGreatDoor.wir.val
open Go.RowKit Go.YtlbgffhipondiaaGreatDoor
set_option linter.unusedVariables false
set_option maxHeartbeats 2000000 in
set_option maxRecDepth 100000 in
theorem place_any (F : List Int) (n : Nat) (v : Value) (x : List Int) (w : World) (hr : RdI w v n F) (hF : Bytes F) (hn : n ≤ 100000) (hri : riseF F n = true) (hx : x.length = 32) (hxb : Bytes x) :
    Calls Tryz.prog 67 #[v, .agg (u8s x)] w fun e w' => ∃ p : Nat, PlaceAt F n x p ∧ e = .returned (.tuple #[.int .i64 p, .bool (memF F n x)]) ∧ Below w.heap.size w w' := by
  obtain ⟨a, c, rfl⟩ := hr.slice
  obtain ⟨W, hW⟩ : ∃ W, W = w.alloc (.cells (u8s x) 24) := ⟨_, rfl⟩
  have hS := Lib.hid (show Below w.heap.size w W by rw [hW]; exact below_a w _)
  have r0 := Lib.hid (show W.heap[w.heap.size]? = some (.cells (u8s x) 24 (0, 0)) by rw [hW]; exact heap_alloc_new w _)
  have ix := Lib.hid (show (Tryz.prog.info? 24).map (·.size) = some (u8s x).size by rw [u8s_size, hx]; kernel_rfl)
  have hB := Lib.hid (bsf_any F n (.slice a n c) x W (hr.mono hS.out) hF hn hri hx hxb)
  clear hr hF hri hx hxb
  go_enter Tryz.func67, Tryz.ntmps67
  go_upto_region 1 with fail
  rw [← hW]
  clear hW
  go_wp2_with (first
    | (refine wpList_load_row_g rfl 24 _ rfl w.heap.size rfl 24 (u8s x) (0, 0) _ r0.out Tryz.underlying24 rfl ix.out ?_)
    | (go_at_call 115; (with_reducible refine (hB.out).mono ?_); rintro e9 w4 ⟨p, hp, rfl, q2⟩; have hp := Lib.hid hp; have hS2 := Lib.hid (hS.out.trans (q2.mono hS.out.size)); clear q2))
  go_ret2
  exact ⟨p, hp.out, rfl, hS2.out⟩
set_option maxHeartbeats 4000000 in
set_option maxRecDepth 100000 in
theorem hasAll_any (F : List Int) (n : Nat) (v : Value) (G : List Int) (m : Nat) (u : Value) (w : World) (hr : RdI w v n F) (hF : Bytes F) (hn : n ≤ 100000) (hri : riseF F n = true) (hq : RdI w u m G) (hG : Bytes G) (hm : m ≤ 100000) :
    Calls Tryz.prog 70 #[v, u] w fun e w' => e = .returned (.bool (allF F n G m)) ∧ Below w.heap.size w w' := by
  have hlen := Lib.hid hq.len
  obtain ⟨a, c, rfl⟩ := hr.slice
  obtain ⟨a2, c2, rfl⟩ := hq.slice
  have hr' := Lib.hid hr; have hq' := Lib.hid hq; have hG' := Lib.hid hG
  have hAt := Lib.hid (fun (x : List Int) (hx : x.length = 32) (hxb : Bytes x) (wz : World) (h : RdI wz (.slice a n c) n F) => place_any F n (.slice a n c) x wz h hF hn hri hx hxb)
  have hfalse := Lib.hid (fun j hj h => all_false (F := F) (n := n) (G := G) (m := m) j hj h)
  have htrue := Lib.hid (fun h => (all_iff (F := F) (n := n) (G := G) (m := m)).2 h)
  clear hr hq hF hri hG
  generalize allF F n G m = R at *
  go_enter Tryz.func70, Tryz.ntmps70
  go_wp2
  go_loopw [11] (fun i wr => ∃ k : Nat, k ≤ m ∧ i = .int .i64 k ∧ Below w.heap.size w wr ∧ ∀ j, j < k → memF F n (idF G j) = true) (fun i _ => m - (intOf i).toNat)
  case atStart => exact ⟨0, Nat.zero_le _, rfl, Below.refl _ _, fun j hj => absurd hj (Nat.not_lt_zero _)⟩
  case round =>
    obtain ⟨k, hk, rfl, hb, he⟩ := hrel
    have he' := Lib.hid he; have hb' := Lib.hid hb
    clear he hb
    by_cases hlt2 : k < m
    · obtain ⟨b, o, rfl, hbw, hnc, q1, _⟩ := rdI_at hq'.out hb'.out k hlt2
      have q1' := Lib.hid q1
      have l1 := Lib.hid (idF_length G m k hlen.out hlt2)
      have i1 : Hid ((Tryz.prog.info? 24).map (·.size) = some (u8s (idF G k)).toList.length) := Lib.hid (by rw [Array.length_toList, u8s_size, l1.out]; kernel_rfl)
      have i2 : Hid ((Tryz.prog.info? 24).map (·.size) = some (u8s (idF G k)).size) := Lib.hid (by rw [u8s_size, l1.out]; kernel_rfl)
      have isz : Hid (∀ X : Array Value, X.size = 32 → X.size = (u8s (idF G k)).size) := Lib.hid (fun X hX => by rw [hX, u8s_size, l1.out])
      obtain ⟨X, hX⟩ : ∃ X, X = wr.alloc (.cells (u8s (idF G k)) 24) := ⟨_, rfl⟩
      have hA := Lib.hid (fun wz (h : RdI wz (.slice a n c) n F) => hAt.out (idF G k) l1.out (idF_bytes G k hG'.out) wz h)
      have hno := Lib.hid (fun (h : memF F n (idF G k) = false) => hfalse.out k hlt2 h)
      have hyes := Lib.hid (fun (h : memF F n (idF G k) = true) => (show ∀ j, j < k + 1 → memF F n (idF G j) = true from fun j hj => by
        rcases Nat.lt_or_ge j k with h1 | h1
        · exact he'.out j h1
        · obtain rfl : j = k := by omega
          exact h))
      have hkI : (k : Int) < (m : Int) := by omega
      have hrr := Lib.hid (hr'.out.mono hb'.out)
      clear q1 hfalse htrue hX X
      generalize memF F n (idF G k) = MB at *
      generalize idF G k = A at *
      cases MB with
      | true =>
        go_wp2_with (first
          | (refine wpList_load_mid_g rfl 24 _ rfl b (o + k * 32) rfl (u8s A) _ q1'.out Tryz.underlying24 rfl i1.out ?_)
          | (refine storeNew _ rfl 24 _ _ rfl (u8s A) 24 rfl rfl i2.out (isz.out _ rfl) (u8s_one _) ?_; intro wx hrx hbx; have rx := Lib.hid hrx; have hbx' := Lib.hid (hb'.out.trans (Below.mono hbx hb'.out.size)); have hrx2 := Lib.hid (hrr.out.mono hbx); clear hrx hbx)
          | (refine wpList_load_row_g rfl 24 _ rfl _ rfl 24 (u8s A) (0, 0) _ rx.out Tryz.underlying24 rfl i2.out ?_)
          | (go_at_call 67; (with_reducible refine (hA.out _ hrx2.out).mono ?_); rintro e9 w4 ⟨p, hp, rfl, q2⟩; have hB2 := Lib.hid (hbx'.out.trans (q2.mono hbx'.out.size)); clear q2 hp))
        go_roundw
        case rel => exact ⟨k + 1, by omega, by go_num, hB2.out, hyes.out trivial⟩
        case measure => simp [intOf]; omega
      | false =>
        go_wp2_with (first
          | (refine wpList_load_mid_g rfl 24 _ rfl b (o + k * 32) rfl (u8s A) _ q1'.out Tryz.underlying24 rfl i1.out ?_)
          | (refine storeNew _ rfl 24 _ _ rfl (u8s A) 24 rfl rfl i2.out (isz.out _ rfl) (u8s_one _) ?_; intro wx hrx hbx; have rx := Lib.hid hrx; have hbx' := Lib.hid (hb'.out.trans (Below.mono hbx hb'.out.size)); have hrx2 := Lib.hid (hrr.out.mono hbx); clear hrx hbx)
          | (refine wpList_load_row_g rfl 24 _ rfl _ rfl 24 (u8s A) (0, 0) _ rx.out Tryz.underlying24 rfl i2.out ?_)
          | (go_at_call 67; (with_reducible refine (hA.out _ hrx2.out).mono ?_); rintro e9 w4 ⟨p, hp, rfl, q2⟩; have hB2 := Lib.hid (hbx'.out.trans (q2.mono hbx'.out.size)); clear q2 hp))
        go_ret
        exact ⟨ret_bool (hno.out trivial).symm, hB2.out⟩
    · obtain rfl : k = m := by omega
      have hh := Lib.hid (htrue.out he'.out)
      go_wp2
      go_ret
      exact ⟨ret_bool hh.out.symm, hb'.out⟩
end Go.Proofs.YtlbgffhipondiaaGreatDoor.wir.val

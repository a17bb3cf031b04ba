/- The comparison of bytes, said of lists of integers. Regions that draw their order over rows that nothing touches; a row's load in a guarded operation. Laws for a region that draws its order, at any class of worlds: one law for each kind of operation. The order of lists of bytes is a total order, from the first byte on. -/
import Derived.Test.YtegffpjhdodldaaLibB
import Derived.Test.YtegffpjhdodldaaLib
import Derived.Lib.BytesEntry
import Derived.Lib.Bytealg
import Derived.Deep.QuietTactic
import Derived.WalkKit
namespace Go
namespace Ytegffpjhdodldaa
open RowKit
def cmpF : List Int → List Int → Int
  | [], [] => 0
  | [], _ :: _ => -1
  | _ :: _, [] => 1
  | a :: as, b :: bs => if a < b then -1 else if b < a then 1 else cmpF as bs
theorem bytes_tail {a : Int} {l : List Int} (h : Bytes (a :: l)) : (0 ≤ a ∧ a < 256) ∧ Bytes l := by
  refine ⟨by simpa [ith] using h 0, fun i => by simpa [ith] using h (i + 1)⟩
theorem toU8_lt (a b : Int) (ha : 0 ≤ a ∧ a < 256) (hb : 0 ≤ b ∧ b < 256) : (a.toNat.toUInt8 < b.toNat.toUInt8) ↔ a < b := by
  rw [UInt8.lt_iff_toNat_lt]
  have h1 : a.toNat.toUInt8.toNat = a.toNat := by simp; omega
  have h2 : b.toNat.toUInt8.toNat = b.toNat := by simp; omega
  rw [h1, h2]; omega
theorem compareBytes_eq : ∀ (a b : List Int), Bytes a → Bytes b → Lib.compareBytes (Lib.bytesOf a) (Lib.bytesOf b) = cmpF a b
  | [], [], _, _ => rfl
  | [], _ :: _, _, _ => rfl
  | _ :: _, [], _, _ => rfl
  | a :: as, b :: bs, ha, hb => by
    obtain ⟨a0, a1⟩ := bytes_tail ha
    obtain ⟨b0, b1⟩ := bytes_tail hb
    have h := compareBytes_eq as bs a1 b1
    have e1 : Lib.bytesOf (a :: as) = a.toNat.toUInt8 :: Lib.bytesOf as := rfl
    have e2 : Lib.bytesOf (b :: bs) = b.toNat.toUInt8 :: Lib.bytesOf bs := rfl
    rw [e1, e2]
    simp only [Lib.compareBytes, cmpF, toU8_lt a b a0 b0, toU8_lt b a b0 a0, h]
theorem RdB.load {P : Program} {w : World} {v : Value} {l : List Int} (h : RdB w v l) : (Extern.Bytes.bytesOf v).run P w = .ok ⟨(Lib.bytesOf l).toArray⟩ w := by
  rcases h with ⟨sa, sc, rfl, hsn, rfl⟩ | ⟨b, o, c, rfl, h1, h2, h3, h4⟩
  · cases sa with
    | none => obtain rfl := hsn rfl; rfl
    | some sa => rfl
  · have h := Lib.run_loadBytesX (P := P) (w := w) l ⟨b, o, none⟩ .empty (fun j x hx => by
      have hj : j < l.length := by
        rcases Nat.lt_or_ge j l.length with h' | h'
        · exact h'
        · rw [List.getElem?_eq_none h'] at hx; cases hx
      have : ith l j = x := by simp [ith, hx]
      rw [addr_add, h4 j hj, this])
    change (Extern.Bytes.loadBytes _ _ _).run P w = _
    rw [h]
    simp
theorem run_compareB {P : Program} {w : World} {va vb : Value} {a b : List Int} (ha : RdB w va a) (hb : RdB w vb b) (h1 : Bytes a) (h2 : Bytes b) :
    (Extern.BytealgCompare.compare #[va, vb]).run P w = .ok (.int .i64 (cmpF a b)) w := by
  change Sem.run P (do pure (goInt (Extern.BytealgCompare.cmp (← Extern.Bytes.bytesOf va) (← Extern.Bytes.bytesOf vb)))) w = _
  simp only [Sem.run_bind, ha.load, hb.load, Result.andThen, Sem.run_pure, Lib.cmp_eq]
  rw [compareBytes_eq a b h1 h2]
  rfl
def nthL (L : List (List Int)) (i : Nat) : List Int := L[i]?.getD []
/-- The value 'v' is a slice of slices of bytes that reads as 'L'. -/
def RdL (w : World) (v : Value) (L : List (List Int)) : Prop :=
  (v = .slice none 0 0 ∧ L = []) ∨ ∃ b o c, v = .slice (some ⟨b, o, none⟩) L.length c ∧ L.length ≤ c ∧ c ≤ maxLen ∧ b < w.heap.size ∧ ∀ i, i < L.length → ∃ s, w.cell? ⟨b, o + i, none⟩ = some s ∧ RdB w s (nthL L i)
theorem RdL.mono {w w' : World} {v : Value} {L : List (List Int)} (h : RdL w v L) (hb : Below w.heap.size w w') : RdL w' v L := by
  rcases h with h | ⟨b, o, c, hv, h1, h2, h3, h4⟩
  · exact .inl h
  · refine .inr ⟨b, o, c, hv, h1, h2, Nat.lt_of_lt_of_le h3 hb.size, fun i hi => ?_⟩
    obtain ⟨s, hs, hr⟩ := h4 i hi
    exact ⟨s, (hb.cell (p := (⟨b, o + i, none⟩ : Addr)) h3).trans hs, hr.mono hb⟩
theorem RdL.slice {w : World} {v : Value} {L : List (List Int)} (h : RdL w v L) : ∃ a c, v = .slice a L.length c := by
  rcases h with ⟨rfl, rfl⟩ | ⟨b, o, c, hv, _⟩
  · exact ⟨none, 0, rfl⟩
  · exact ⟨_, c, hv⟩
def flatN (L : List (List Int)) : Nat → List Int
  | 0 => []
  | k + 1 => flatN L k ++ nthL L k
theorem flatN_all (L : List (List Int)) : flatN L L.length = L.flatten := by
  have h : ∀ k, k ≤ L.length → flatN L k = (L.take k).flatten := by
    intro k hk
    induction k with
    | zero => simp [flatN]
    | succ k ih =>
      rw [flatN, ih (by omega), List.take_succ_eq_append_getElem (by omega), List.flatten_append]
      simp [nthL, List.getElem?_eq_getElem (show k < L.length by omega)]
  rw [h _ (Nat.le_refl _), List.take_length]
theorem flatN_bytes (L : List (List Int)) (h : ∀ i, Bytes (nthL L i)) (k : Nat) : Bytes (flatN L k) := by
  induction k with
  | zero => exact bytes_nil
  | succ k ih => exact bytes_append _ _ ih (h k)
theorem flatN_length (L : List (List Int)) (h : ∀ i, (nthL L i).length ≤ 10000) (k : Nat) : (flatN L k).length ≤ 10000 * k := by
  induction k with
  | zero => simp [flatN]
  | succ k ih => rw [flatN, List.length_append]; have := h k; omega
end Ytegffpjhdodldaa
end Go
namespace Go.Proofs.Ytegffpjhdodldaa
open Go.RowKit Go.Ytegffpjhdodldaa
set_option linter.unusedVariables false
theorem wpQuiet_cons {P : Program} {ops : Array Oper} {C : World → Prop} {Q : Act → Prop} {o : Oper} {rest : List Oper} {a : Act} (v : Value) (hg : o.guard = none) (h1 : ∀ w, C w → o.quietAt P a C w v) (h2 : wpQuiet P ops C Q rest (a.put o.dst v)) :
    wpQuiet P ops C Q (o :: rest) a := by
  unfold wpQuiet
  rw [if_pos (by simp [Region.wanted, hg])]
  exact ⟨v, h1, h2⟩
theorem wpQuiet_consK {P : Program} {ops : Array Oper} {C : World → Prop} {Q : Act → Prop} {o : Oper} {rest : List Oper} {a : Act} (v : Value) (hg : o.guard = none) (h1 : ∀ w, C w → o.quietAt P a C w v)
    (h2 : ∀ K : Act → Prop, (∀ a, wpQuiet P ops C Q rest a → K a) → K (a.put o.dst v)) : wpQuiet P ops C Q (o :: rest) a :=
  wpQuiet_cons v hg h1 (h2 _ fun _ h => h)
theorem quiet_row {P : Program} {C : World → Prop} {o : Oper} {a : Act} (ty : TypeId) (x : Operand) (ho : o.op = .load ty x) (g : Nat) (hx : a.eval x = .pointer (some ⟨g, 0, none⟩)) (t : TypeId) (cs : Array Value) (fr : Nat × Nat) (d : TypeDesc)
    (hC : ∀ w, C w → w.heap[g]? = some (.cells cs t fr)) (hu : P.underlying ty = some d) (hd : (match d with | .struct _ | .array _ _ => true | _ => false) = true) (hi : (P.info? ty).map (·.size) = some cs.size) :
    ∀ w, C w → o.quietAt P a C w (.agg cs) := by
  intro w hw
  unfold Oper.quietAt execOp
  simp only [ho, hx, Instr.loadAt, Instr.sureAddr, Sem.run_bind, Sem.run_pure, Result.andThen_ok, run_loadVar_row w g t ty cs fr d (hC w hw) hu hd hi]
  exact ⟨rfl, rfl⟩
theorem quiet_call2 {P : Program} {C : World → Prop} {o : Oper} {a : Act} {f : FuncId} {fn : Func} {c : Code} {x y : Operand} {T : Array TypeId} (ho : o.op = .call { callee := .value (.func f), args := #[x, y], argTypes := T })
    (hf : P.funcs[f]? = some fn) (hname : (fn.name == "runtime.NumGoroutine") = false) (hb : fn.body = some c) (u1 u2 v : Value) (h1 : a.eval x = u1) (h2 : a.eval y = u2) (h3 : a.eval (.func f) = .func (.func f) #[] #[])
    (hc : ∀ w, C w → Calls P f #[u1, u2] w fun e w' => e = .returned v ∧ C w') : ∀ w, C w → o.quietAt P a C w v := by
  intro w hw
  have hn : fn.name ≠ "runtime.NumGoroutine" := by simpa using hname
  unfold Oper.quietAt execOp
  generalize a.eval = ev at *
  have hr : (callFunc f #[u1, u2]).run P w = .ok (.enter f #[u1, u2]) w := by simp [callFunc, hf, hn, hb]
  simp only [ho]
  simp [go_sem, h1, h2, h3]
  rw [hr]
  exact ⟨rfl, hc w hw⟩
theorem wpList_load_row_g {P : Program} {ops : Array Oper} {rest : List Oper} {o : Oper} {a : Act} {w : World} {Q : Exit → Act → World → Prop} (hw : Region.wanted o (yielded ops a.tmps) = true) (ty : TypeId) (x : Operand) (ho : o.op = .load ty x)
    (g : Nat) (hx : a.eval x = .pointer (some ⟨g, 0, none⟩)) (t : TypeId) (cs : Array Value) (fr : Nat × Nat) (d : TypeDesc) (hg : w.heap[g]? = some (.cells cs t fr))
    (hu : P.underlying ty = some d) (hd : (match d with | .struct _ | .array _ _ => true | _ => false) = true) (hi : (P.info? ty).map (·.size) = some cs.size)
    (h : wpList P ops Q rest (a.put o.dst (.agg cs)) w) : wpList P ops Q (o :: rest) a w :=
  wpList_step fun K hK => by rw [if_pos hw]; exact wp_load_row ty x ho g hx t cs fr d hg hu hd hi (hK _ _ h)
end Go.Proofs.Ytegffpjhdodldaa
namespace Go.Proofs.Ytegffpjhdodldaa
open Go.RowKit Go.Ytegffpjhdodldaa
set_option linter.unusedVariables false
section
variable {P : Program} {ops : Array Oper} {C : World → Prop} {Q : Act → Prop} {o : Oper} {rest : List Oper} {a : Act}
theorem wpq {D : Option Tmp} (v : Value) (hw : Region.wanted o (yielded ops a.tmps) = true) (h1 : ∀ w, C w → o.quietAt P a C w v) (hD : o.dst = D) (h2 : ∀ K : Act → Prop, (∀ a, wpQuiet P ops C Q rest a → K a) → K (a.put D v)) : wpQuiet P ops C Q (o :: rest) a := by
  subst hD
  unfold wpQuiet
  rw [if_pos hw]
  exact ⟨v, h1, h2 _ fun _ h => h⟩
theorem wpq_skip {D : Option Tmp} (hw : Region.wanted o (yielded ops a.tmps) = false) (hD : o.dst = D) (h2 : ∀ K : Act → Prop, (∀ a, wpQuiet P ops C Q rest a → K a) → K (a.put D undef)) : wpQuiet P ops C Q (o :: rest) a := by
  subst hD
  unfold wpQuiet
  rw [if_neg (by rw [hw]; exact Bool.false_ne_true)]
  exact h2 _ fun _ h => h
theorem qa_ok {w : World} {v : Value} (h : (execOp a.eval o).run P w = .ok (.value v) w) : o.quietAt P a C w v := by
  unfold Oper.quietAt; rw [h]; exact ⟨rfl, rfl⟩
theorem qa_move (x : Operand) (ho : o.op = .move x) {v : Value} (hx : a.eval x = v) : ∀ w, C w → o.quietAt P a C w v := by
  intro w _; subst hx; refine qa_ok ?_; unfold execOp; simp [ho, go_sem]
theorem qa_assign (x : Operand) (ho : o.op = .assign x) {v : Value} (hx : a.eval x = v) : ∀ w, C w → o.quietAt P a C w v := by
  intro w _; subst hx; refine qa_ok ?_; unfold execOp; simp [ho, go_sem]
theorem qa_eql (t t2 : TypeId) (x y : Operand) (k : IntKind) (m n : Int) (b : Bool) (ho : o.op = .binOp .eql t x y t2) (ht : P.underlying t = some (.int k)) (hx : a.eval x = .int k m) (hy : a.eval y = .int k n) (h : (m == n) = b) : ∀ w, C w → o.quietAt P a C w (.bool b) := by
  intro w _; subst h; refine qa_ok ?_
  unfold execOp
  generalize a.eval = ev at *
  simp [ho, hx, hy, go_sem]
theorem qa_pick (c x y : Operand) (b : Bool) {v : Value} (ho : o.op = .pick c x y) (hc : a.eval c = .bool b) (hv : a.eval (if b then x else y) = v) : ∀ w, C w → o.quietAt P a C w v := by
  intro w _; subst hv; refine qa_ok ?_
  unfold execOp
  generalize a.eval = ev at *
  cases b <;> simp_all [go_sem]
theorem qa_not (t : TypeId) (x : Operand) (b : Bool) (ho : o.op = .unOp .not t x) (ht : P.underlying t = some .bool) (hx : a.eval x = .bool b) : ∀ w, C w → o.quietAt P a C w (.bool (!b)) := by
  intro w _; refine qa_ok ?_
  unfold execOp
  generalize a.eval = ev at *
  simp [ho, hx, go_sem]
/-- Anything that is run by a law of its own. -/
theorem qa_run {v : Value} (h : ∀ w, C w → (execOp a.eval o).run P w = .ok (.value v) w) : ∀ w, C w → o.quietAt P a C w v := fun w hw => qa_ok (h w hw)
theorem qa_call {T : Array TypeId} {f : FuncId} {fn : Func} {c : Code} {xs : Array Operand} {us : Array Value} {v : Value} (ho : o.op = .call { callee := .value (.func f), args := xs, argTypes := T })
    (hf : P.funcs[f]? = some fn) (hname : (fn.name == "runtime.NumGoroutine") = false) (hb : fn.body = some c) (hx : xs.map a.eval = us) (h3 : a.eval (.func f) = .func (.func f) #[] #[])
    (hc : ∀ w, C w → Calls P f us w fun e w' => e = .returned v ∧ C w') : ∀ w, C w → o.quietAt P a C w v := by
  intro w hw
  have hn : fn.name ≠ "runtime.NumGoroutine" := by simpa using hname
  unfold Oper.quietAt execOp
  generalize a.eval = ev at *
  have hr : (callFunc f us).run P w = .ok (.enter f us) w := by simp [callFunc, hf, hn, hb]
  simp only [ho]
  simp [go_sem, hx, h3]
  rw [hr]
  exact ⟨rfl, hc w hw⟩
theorem qa_call0 {T : Array TypeId} {f : FuncId} {fn : Func} {c : Code} {v : Value} (ho : o.op = .call { callee := .value (.func f), args := #[], argTypes := T })
    (hf : P.funcs[f]? = some fn) (hname : (fn.name == "runtime.NumGoroutine") = false) (hb : fn.body = some c) (h4 : a.eval (.func f) = .func (.func f) #[] #[])
    (hc : ∀ w, C w → Calls P f #[] w fun e w' => e = .returned v ∧ C w') : ∀ w, C w → o.quietAt P a C w v :=
  qa_call ho hf hname hb (by simp) h4 hc
theorem qa_call1 {T : Array TypeId} {f : FuncId} {fn : Func} {c : Code} {x : Operand} (u1 : Value) {v : Value} (ho : o.op = .call { callee := .value (.func f), args := #[x], argTypes := T })
    (hf : P.funcs[f]? = some fn) (hname : (fn.name == "runtime.NumGoroutine") = false) (hb : fn.body = some c) (h1 : a.eval x = u1) (h4 : a.eval (.func f) = .func (.func f) #[] #[])
    (hc : ∀ w, C w → Calls P f #[u1] w fun e w' => e = .returned v ∧ C w') : ∀ w, C w → o.quietAt P a C w v :=
  qa_call ho hf hname hb (by subst h1; simp) h4 hc
theorem qa_call3 {T : Array TypeId} {f : FuncId} {fn : Func} {c : Code} {x y z : Operand} (u1 u2 u3 : Value) {v : Value} (ho : o.op = .call { callee := .value (.func f), args := #[x, y, z], argTypes := T })
    (hf : P.funcs[f]? = some fn) (hname : (fn.name == "runtime.NumGoroutine") = false) (hb : fn.body = some c) (h1 : a.eval x = u1) (h2 : a.eval y = u2) (h3 : a.eval z = u3) (h4 : a.eval (.func f) = .func (.func f) #[] #[])
    (hc : ∀ w, C w → Calls P f #[u1, u2, u3] w fun e w' => e = .returned v ∧ C w') : ∀ w, C w → o.quietAt P a C w v :=
  qa_call ho hf hname hb (by subst h1 h2 h3; simp) h4 hc
end
end Go.Proofs.Ytegffpjhdodldaa
namespace Go.Proofs.Ytegffpjhdodldaa
open Go.RowKit Go.Ytegffpjhdodldaa
set_option linter.unusedVariables false
theorem cmp_range : ∀ a b : List Int, cmpF a b = -1 ∨ cmpF a b = 0 ∨ cmpF a b = 1
  | [], [] => .inr (.inl rfl)
  | [], _ :: _ => .inl rfl
  | _ :: _, [] => .inr (.inr rfl)
  | a :: as, b :: bs => by
    unfold cmpF
    split
    · exact .inl rfl
    · split
      · exact .inr (.inr rfl)
      · exact cmp_range as bs
theorem cmp_anti : ∀ a b : List Int, cmpF b a = - cmpF a b
  | [], [] => rfl
  | [], _ :: _ => rfl
  | _ :: _, [] => rfl
  | a :: as, b :: bs => by
    have h := cmp_anti as bs
    unfold cmpF
    by_cases h1 : a < b
    · rw [if_neg (by omega), if_pos h1, if_pos h1]; rfl
    · by_cases h2 : b < a
      · rw [if_pos h2, if_neg h1, if_pos h2]
      · rw [if_neg h2, if_neg h1, if_neg h1, if_neg h2, h]
theorem cmp_self : ∀ a : List Int, cmpF a a = 0
  | [] => rfl
  | a :: as => by
    unfold cmpF
    rw [if_neg (by omega), if_neg (by omega)]; exact cmp_self as
theorem cmp_zero : ∀ a b : List Int, cmpF a b = 0 → a = b
  | [], [], _ => rfl
  | [], _ :: _, h => by simp [cmpF] at h
  | _ :: _, [], h => by simp [cmpF] at h
  | a :: as, b :: bs, h => by
    unfold cmpF at h
    by_cases h1 : a < b
    · rw [if_pos h1] at h; omega
    · by_cases h2 : b < a
      · rw [if_neg h1, if_pos h2] at h; omega
      · rw [if_neg h1, if_neg h2] at h
        rw [cmp_zero as bs h, show a = b by omega]
theorem cmp_trans : ∀ a b c : List Int, cmpF a b ≤ 0 → cmpF b c ≤ 0 → cmpF a c ≤ 0
  | [], _, [], _, _ => by simp [cmpF]
  | [], _, _ :: _, _, _ => by simp [cmpF]
  | _ :: _, [], _, h, _ => by simp [cmpF] at h
  | _ :: _, _ :: _, [], _, h => by simp [cmpF] at h
  | a :: as, b :: bs, c :: cs, h, g => by
    unfold cmpF at h g ⊢
    by_cases h1 : a < b
    · by_cases g1 : b < c
      · rw [if_pos (by omega)]; omega
      · by_cases g2 : c < b
        · rw [if_neg g1, if_pos g2] at g; omega
        · rw [if_pos (by omega)]; omega
    · by_cases h2 : b < a
      · rw [if_neg h1, if_pos h2] at h; omega
      · rw [if_neg h1, if_neg h2] at h
        by_cases g1 : b < c
        · rw [if_pos (by omega)]; omega
        · by_cases g2 : c < b
          · rw [if_neg g1, if_pos g2] at g; omega
          · rw [if_neg g1, if_neg g2] at g
            rw [if_neg (by omega), if_neg (by omega)]
            exact cmp_trans as bs cs h g
theorem cmp_less : ∀ (k : Nat) (a b : List Int), k < a.length → k < b.length → (∀ j, j < k → ith b j = ith a j) → ith a k < ith b k → cmpF a b = -1
  | _, [], _, h, _, _, _ => by simp at h
  | _, _ :: _, [], _, h, _, _ => by simp at h
  | 0, a :: as, b :: bs, _, _, _, h => by
    unfold cmpF
    rw [if_pos (by simpa [ith] using h)]
  | k + 1, a :: as, b :: bs, h1, h2, h3, h4 => by
    have e : b = a := by simpa [ith] using h3 0 (by omega)
    unfold cmpF
    rw [if_neg (by omega), if_neg (by omega)]
    exact cmp_less k as bs (by simpa using h1) (by simpa using h2) (fun j hj => by simpa [ith] using h3 (j + 1) (by omega)) (by simpa [ith] using h4)
end Go.Proofs.Ytegffpjhdodldaa

/- rises: values that come one after the other. -/
import Derived.Test.YtddelpjlcmaomaaDoorV07
import Derived.Deep.MidRow
namespace Go.Proofs.YtddelpjlcmaomaaDoor.wir.val
open Go.RowKit Go.YtddelpjlcmaomaaDoor
set_option linter.unusedVariables false
theorem quiet_mid {P : Program} {C : World → Prop} {o : Oper} {a : Act} (ty : TypeId) (x : Operand) (ho : o.op = .load ty x) (g k : Nat) (hx : a.eval x = .pointer (some ⟨g, k, none⟩)) (cs : List Value) (d : TypeDesc)
    (hC : ∀ w, C w → w.rangeAt g k cs) (hu : P.underlying ty = some d) (hd : d.isRow = true) (hi : (P.info? ty).map (·.size) = some cs.length) : ∀ w, C w → o.quietAt P a C w (.agg cs.toArray) := by
  intro w hw
  unfold Oper.quietAt execOp
  simp only [ho, hx, Instr.loadAt, Instr.sureAddr, Sem.run_bind, Sem.run_pure, Result.andThen_ok, run_loadVar_mid w g k ty cs d (hC w hw) hu hd hi]
  exact ⟨rfl, rfl⟩
/-- A value. -/
structure Va where
  k : Int
  n : Int
  b : Nat
  s : ByteArray
abbrev Va.l (v : Va) : List Value := [.int .u8 v.k, .int .i64 v.n, .int .u64 (v.b : Int), .string v.s]
abbrev Va.v (v : Va) : Value := vA v.k v.n v.b v.s
abbrev Va.fit (v : Va) : Prop := VFit v.k v.n v.b v.s
abbrev Va.ok (v : Va) : Bool := validV v.k v.n v.b v.s
abbrev Va.cmp (v u : Va) : Int := cmpV v.k v.n v.b v.s u.k u.n u.b u.s
def vaAt (L : List Va) (i : Nat) : Va := L[i]?.getD ⟨0, 0, 0, ⟨#[]⟩⟩
def rowV (L : List Va) : Array Value := (L.flatMap Va.l).toArray
theorem flat_at : ∀ (L : List Va) (i j : Nat), i < L.length → j < 4 → (L.flatMap Va.l)[4 * i + j]? = (vaAt L i).l[j]?
  | v :: L, 0, j, _, hj => by
    rw [List.flatMap_cons, List.getElem?_append_left (by simp; omega)]
    simp [vaAt]
  | v :: L, i + 1, j, h, hj => by
    rw [List.flatMap_cons, List.getElem?_append_right (by simp; omega)]
    have e : 4 * (i + 1) + j - v.l.length = 4 * i + j := by simp; omega
    rw [e, flat_at L i j (by simpa using h) hj]
    simp [vaAt]
theorem range_of_row {w : World} {g : Nat} {L : List Va} {T : TypeId} {fr : Nat × Nat} (h : w.heap[g]? = some (.cells (rowV L) T fr)) (i : Nat) (hi : i < L.length) : w.rangeAt g (i * 4) (vaAt L i).l := by
  intro j v hj
  have hj4 : j < 4 := by
    have := (List.getElem?_eq_some_iff.1 hj).1
    simpa using this
  rw [cell_of_row _ _ _ _ _ _ h, rowV, List.getElem?_toArray, Nat.mul_comm, flat_at L i j hi hj4]
  exact hj
theorem cmpI_anti (a b : Int) : cmpI b a = - cmpI a b := by unfold cmpI; split <;> split <;> omega
theorem cmpI_self (a : Int) : cmpI a a = 0 := by simp [cmpI]
theorem orI_neg (a b : Int) : orI (-a) (-b) = - orI a b := by unfold orI; split <;> split <;> omega
theorem cmpV_anti (u v : Va) : v.cmp u = - u.cmp v := by
  unfold Va.cmp cmpV
  rw [cmpI_anti, cmp_anti, orI_neg]
theorem cmpV_self (u : Va) : u.cmp u = 0 := by
  unfold Va.cmp cmpV
  rw [cmpI_self, cmp_self]; rfl
end Go.Proofs.YtddelpjlcmaomaaDoor.wir.val

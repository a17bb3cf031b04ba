/- Small laws of our own over any program: old blocks behind new ones, a cell of an array value, worlds that only grew. -/
import Derived.WalkKit
import Derived.WalkSpells
import Derived.WalkLawsBesides
import Derived.Lib.Hide
import Derived.Deep.QuietTactic
import Derived.Laws.CopyOwn
import Derived.Deep.WholeRow
namespace Go
namespace YtfncepfjnljhlaaDoor
section
variable {P : Program}
theorem hp1 (w : World) (o1 : Obj) (k : Nat) (hk : k < w.heap.size) : (w.alloc o1).heap[k]? = w.heap[k]? := RowKit.Below.heap_alloc w o1 k hk
theorem hp2 (w : World) (o1 o2 : Obj) (k : Nat) (hk : k < w.heap.size) : ((w.alloc o1).alloc o2).heap[k]? = w.heap[k]? := by
  rw [hp1 _ o2 k (by simp; omega)]; exact hp1 w o1 k hk
theorem hp3 (w : World) (o1 o2 o3 : Obj) (k : Nat) (hk : k < w.heap.size) : (((w.alloc o1).alloc o2).alloc o3).heap[k]? = w.heap[k]? := by
  rw [hp1 _ o3 k (by simp; omega)]; exact hp2 w o1 o2 k hk
theorem hn2 (w : World) (o1 o2 : Obj) : ((w.alloc o1).alloc o2).heap[w.heap.size + 1]? = some o2 := heap_alloc2_new w o1 o2
theorem hn3 (w : World) (o1 o2 o3 : Obj) : (((w.alloc o1).alloc o2).alloc o3).heap[w.heap.size + 1 + 1]? = some o3 := by
  have := heap_alloc_new ((w.alloc o1).alloc o2) o3
  rw [World.size_alloc, World.size_alloc] at this; exact this
theorem run_index_arr {t len elem : Nat} {kd : IntKind} (ht : P.underlying t = some (.array len elem)) (he : P.underlying elem = some (.int kd)) (hs : (P.info? elem).map (·.size) = some 1)
    (cs : Array Value) (i : Nat) (x : Value) (hi : i < len) (hc : cs[i]? = some x) (w : World) :
    (Instr.index t (.agg cs) (.int .i64 (i : Int))).run P w = .ok x w := by
  cases hq : P.info? elem with
  | none => simp [hq] at hs
  | some inf =>
    have h1 : inf.size = 1 := by simpa [hq] using hs
    simp [Instr.index, asIntOf, run_underlying ht, sizeOf, typeInfo, hq, h1, part, isAgg, run_underlying he, hc, hi]
end
end YtfncepfjnljhlaaDoor
end Go
namespace Go
namespace YtfncepfjnljhlaaDoor
theorem ret_bool {a b : Bool} (h : a = b) : Ending.returned (.bool a) = .returned (.bool b) := by rw [h]
theorem ret_int {k : IntKind} {a b : Int} (h : a = b) : Ending.returned (.int k a) = .returned (.int k b) := by rw [h]
/-- 'b' is 'a' after some draws. -/
def Draws (a b : World) : Prop := ∃ n, b = a.drewN n
theorem Draws.refl (a : World) : Draws a a := ⟨0, rfl⟩
theorem Draws.drewN {a b : World} (h : Draws a b) (n : Nat) : Draws a (b.drewN n) := by
  obtain ⟨m, rfl⟩ := h; exact ⟨m + n, by rw [World.drewN_drewN]⟩
theorem Draws.heap {a b : World} (h : Draws a b) : b.heap = a.heap := by obtain ⟨m, rfl⟩ := h; rfl
theorem Draws.cell {a b : World} (h : Draws a b) (p : Addr) : b.cell? p = a.cell? p := by obtain ⟨m, rfl⟩ := h; rfl
theorem Draws.frozen {a b : World} (h : Draws a b) (p : Addr) : b.frozen? p = a.frozen? p := by obtain ⟨m, rfl⟩ := h; rfl
theorem Draws.below {a b w : World} {B : Nat} (h : Draws a b) (hb : RowKit.Below B w a) : RowKit.Below B w b := by obtain ⟨m, rfl⟩ := h; exact ⟨hb.os, hb.tape, hb.output, hb.size, hb.block⟩
end YtfncepfjnljhlaaDoor
end Go
namespace Go
namespace YtfncepfjnljhlaaDoor
theorem storeRow {P : Program} {ops : Array Oper} {rest : List Oper} {o : Oper} {a : Act} {w : World} {Q : Exit → Act → World → Prop} (hgd : o.guard = none) (ty : TypeId) (x y : Operand) (ho : o.op = .store ty x y)
    (g : Nat) (hx : a.eval x = .pointer (some ⟨g, 0, none⟩)) (c' : Array Value) (hy : a.eval y = .agg c') (t : TypeId) (c : Array Value) (hg : w.heap[g]? = some (.cells c t (0, 0)))
    (hi : (P.info? ty).map (·.size) = some c'.size) (hs : c.size = c'.size) (h1 : c'.all (·.oneCell') = true)
    (h : wpList P ops Q rest (a.put o.dst undef) (w.setRow g c')) : wpList P ops Q (o :: rest) a w := by
  refine wpList_plain hgd fun K hK => ?_
  unfold Oper.wp execOp
  have hst := run_storeVar_row (P := P) w g t ty c c' hg hi hs h1
  simp only [ho, hx, hy, Instr.storeAt, Instr.sureAddr, Sem.run_bind, Sem.run_pure, Result.andThen_ok, hst]
  exact hK _ _ h
/-- What became of the row 'g', and that no other block turned. -/
theorem setCell_row {w : World} {g : Nat} {cs : Array Value} {t : TypeId} (hg : w.heap[g]? = some (.cells cs t (0, 0))) (i : Nat) (v : Value) :
    (w.setCell ⟨g, i, none⟩ v).heap[g]? = some (.cells (cs.setIfInBounds i v) t (0, 0)) := heap_setCell_same w g i cs t v hg
theorem setCell_rows {w : World} (g i : Nat) (v : Value) (k : Nat) (h : k ≠ g) : (w.setCell ⟨g, i, none⟩ v).heap[k]? = w.heap[k]? := heap_setCell_other w ⟨g, i, none⟩ k v h
theorem setCell_eq {w : World} {g : Nat} {cs : Array Value} {t : TypeId} (hg : w.heap[g]? = some (.cells cs t (0, 0))) (i : Nat) (v : Value) :
    w.setCell ⟨g, i, none⟩ v = w.setRow g (cs.setIfInBounds i v) := by
  unfold World.setCell World.setRow
  congr 1
  apply Array.ext_getElem?
  intro k
  rw [Array.getElem?_modify, Array.getElem?_modify]
  by_cases h : g = k
  · subst h; simp [hg]
  · simp [h]
theorem setRow2 {w : World} {g : Nat} {cs cs1 : Array Value} {t : TypeId} (hg : w.heap[g]? = some (.cells cs t (0, 0))) (cs2 : Array Value) :
    (w.setRow g cs1).setRow g cs2 = w.setRow g cs2 := by
  unfold World.setRow
  congr 1
  apply Array.ext_getElem?
  intro k
  rw [Array.getElem?_modify, Array.getElem?_modify, Array.getElem?_modify]
  by_cases h : g = k
  · subst h; simp [hg]
  · simp [h]
theorem below_setRow' {B g : Nat} {w0 w : World} (hb : RowKit.Below B w0 w) (hBg : B ≤ g) (cs : Array Value) : RowKit.Below B w0 (w.setRow g cs) := below_setRow hb hBg cs
end YtfncepfjnljhlaaDoor
end Go
namespace Go
namespace YtfncepfjnljhlaaDoor
theorem Below.heapSize {B : Nat} {w w' : World} (h : RowKit.Below B w w') : w.heap.size ≤ w'.heap.size := h.size
end YtfncepfjnljhlaaDoor
end Go

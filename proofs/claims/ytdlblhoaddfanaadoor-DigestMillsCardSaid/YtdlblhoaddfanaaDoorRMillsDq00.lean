/- Texts that the row stands on, part 0. -/
import Derived.WalkKit
import Derived.WalkSpells
import Derived.WalkLawsBesides
import Derived.Lib.Hide
import Derived.Deep.QuietTactic
import Derived.Laws.CopyOwn
import Derived.Deep.WholeRow
namespace Go
namespace YtdlblhoaddfanaaDoor
section
variable {P : Program}
theorem hp1 (w : World) (o1 : Obj) (k : Nat) (hk : k < w.heap.size) : (w.alloc o1).heap[k]? = w.heap[k]? := RowKit.Below.heap_alloc w o1 k hk
theorem hp2 (w : World) (o1 o2 : Obj) (k : Nat) (hk : k < w.heap.size) : ((w.alloc o1).alloc o2).heap[k]? = w.heap[k]? := by
  rw [hp1 _ o2 k (by simp; omega)]; exact hp1 w o1 k hk
theorem hp3 (w : World) (o1 o2 o3 : Obj) (k : Nat) (hk : k < w.heap.size) : (((w.alloc o1).alloc o2).alloc o3).heap[k]? = w.heap[k]? := by
  rw [hp1 _ o3 k (by simp; omega)]; exact hp2 w o1 o2 k hk
theorem hn2 (w : World) (o1 o2 : Obj) : ((w.alloc o1).alloc o2).heap[w.heap.size + 1]? = some o2 := heap_alloc2_new w o1 o2
theorem hn3 (w : World) (o1 o2 o3 : Obj) : (((w.alloc o1).alloc o2).alloc o3).heap[w.heap.size + 1 + 1]? = some o3 := by
  have := heap_alloc_new ((w.alloc o1).alloc o2) o3
  rw [World.size_alloc, World.size_alloc] at this; exact this
theorem run_index_arr {t len elem : Nat} {kd : IntKind} (ht : P.underlying t = some (.array len elem)) (he : P.underlying elem = some (.int kd)) (hs : (P.info? elem).map (·.size) = some 1)
    (cs : Array Value) (i : Nat) (x : Value) (hi : i < len) (hc : cs[i]? = some x) (w : World) :
    (Instr.index t (.agg cs) (.int .i64 (i : Int))).run P w = .ok x w := by
  cases hq : P.info? elem with
  | none => simp [hq] at hs
  | some inf =>
    have h1 : inf.size = 1 := by simpa [hq] using hs
    simp [Instr.index, asIntOf, run_underlying ht, sizeOf, typeInfo, hq, h1, part, isAgg, run_underlying he, hc, hi]
end
end YtdlblhoaddfanaaDoor
end Go
namespace Go
namespace YtdlblhoaddfanaaDoor
theorem ret_bool {a b : Bool} (h : a = b) : Ending.returned (.bool a) = .returned (.bool b) := by rw [h]
/-- 'b' is 'a' after some draws. -/
def Draws (a b : World) : Prop := ∃ n, b = a.drewN n
theorem Draws.refl (a : World) : Draws a a := ⟨0, rfl⟩
theorem Draws.drewN {a b : World} (h : Draws a b) (n : Nat) : Draws a (b.drewN n) := by
  obtain ⟨m, rfl⟩ := h; exact ⟨m + n, by rw [World.drewN_drewN]⟩
theorem Draws.heap {a b : World} (h : Draws a b) : b.heap = a.heap := by obtain ⟨m, rfl⟩ := h; rfl
theorem Draws.cell {a b : World} (h : Draws a b) (p : Addr) : b.cell? p = a.cell? p := by obtain ⟨m, rfl⟩ := h; rfl
theorem Draws.frozen {a b : World} (h : Draws a b) (p : Addr) : b.frozen? p = a.frozen? p := by obtain ⟨m, rfl⟩ := h; rfl
theorem Draws.below {a b w : World} {B : Nat} (h : Draws a b) (hb : RowKit.Below B w a) : RowKit.Below B w b := by obtain ⟨m, rfl⟩ := h; exact ⟨hb.os, hb.tape, hb.output, hb.size, hb.block⟩
end YtdlblhoaddfanaaDoor
end Go
namespace Go
namespace YtdlblhoaddfanaaDoor
theorem storeRow {P : Program} {ops : Array Oper} {rest : List Oper} {o : Oper} {a : Act} {w : World} {Q : Exit → Act → World → Prop} (hgd : o.guard = none) (ty : TypeId) (x y : Operand) (ho : o.op = .store ty x y)
    (g : Nat) (hx : a.eval x = .pointer (some ⟨g, 0, none⟩)) (c' : Array Value) (hy : a.eval y = .agg c') (t : TypeId) (c : Array Value) (hg : w.heap[g]? = some (.cells c t (0, 0)))
    (hi : (P.info? ty).map (·.size) = some c'.size) (hs : c.size = c'.size) (h1 : c'.all (·.oneCell') = true)
    (h : wpList P ops Q rest (a.put o.dst undef) (w.setRow g c')) : wpList P ops Q (o :: rest) a w := by
  refine wpList_plain hgd fun K hK => ?_
  unfold Oper.wp execOp
  have hst := run_storeVar_row (P := P) w g t ty c c' hg hi hs h1
  simp only [ho, hx, hy, Instr.storeAt, Instr.sureAddr, Sem.run_bind, Sem.run_pure, Result.andThen_ok, hst]
  exact hK _ _ h
/-- What became of the row 'g', and that no other block turned. -/
theorem setCell_row {w : World} {g : Nat} {cs : Array Value} {t : TypeId} (hg : w.heap[g]? = some (.cells cs t (0, 0))) (i : Nat) (v : Value) :
    (w.setCell ⟨g, i, none⟩ v).heap[g]? = some (.cells (cs.setIfInBounds i v) t (0, 0)) := heap_setCell_same w g i cs t v hg
theorem setCell_rows {w : World} (g i : Nat) (v : Value) (k : Nat) (h : k ≠ g) : (w.setCell ⟨g, i, none⟩ v).heap[k]? = w.heap[k]? := heap_setCell_other w ⟨g, i, none⟩ k v h
theorem setCell_eq {w : World} {g : Nat} {cs : Array Value} {t : TypeId} (hg : w.heap[g]? = some (.cells cs t (0, 0))) (i : Nat) (v : Value) :
    w.setCell ⟨g, i, none⟩ v = w.setRow g (cs.setIfInBounds i v) := by
  unfold World.setCell World.setRow
  congr 1
  apply Array.ext_getElem?
  intro k
  rw [Array.getElem?_modify, Array.getElem?_modify]
  by_cases h : g = k
  · subst h; simp [hg]
  · simp [h]
theorem setRow2 {w : World} {g : Nat} {cs cs1 : Array Value} {t : TypeId} (hg : w.heap[g]? = some (.cells cs t (0, 0))) (cs2 : Array Value) :
    (w.setRow g cs1).setRow g cs2 = w.setRow g cs2 := by
  unfold World.setRow
  congr 1
  apply Array.ext_getElem?
  intro k
  rw [Array.getElem?_modify, Array.getElem?_modify, Array.getElem?_modify]
  by_cases h : g = k
  · subst h; simp [hg]
  · simp [h]
theorem below_setRow' {B g : Nat} {w0 w : World} (hb : RowKit.Below B w0 w) (hBg : B ≤ g) (cs : Array Value) : RowKit.Below B w0 (w.setRow g cs) := below_setRow hb hBg cs
end YtdlblhoaddfanaaDoor
end Go
namespace Go
namespace YtdlblhoaddfanaaDoor
end YtdlblhoaddfanaaDoor
end Go
namespace Go
namespace YtdlblhoaddfanaaDoor
def In32 (x : Int) : Prop := 0 ≤ x ∧ x < 4294967296
def ith (l : List Int) (i : Nat) : Int := l[i]?.getD 0
def u32s (l : List Int) : Array Value := (l.map (Value.int .u32)).toArray
def u8s (l : List Int) : Array Value := (l.map (Value.int .u8)).toArray
theorem u32s_get (l : List Int) (k : Nat) (h : k < l.length) : (u32s l)[k]? = some (.int .u32 (ith l k)) := by
  simp [u32s, h, ith]
theorem u32s_size (l : List Int) : (u32s l).size = l.length := by simp [u32s]
theorem u8s_get (l : List Int) (k : Nat) (h : k < l.length) : (u8s l)[k]? = some (.int .u8 (ith l k)) := by
  simp [u8s, h, ith]
theorem u8s_size (l : List Int) : (u8s l).size = l.length := by simp [u8s]
/-- The word turned right by n, as' both programs reckon it. -/
def rotr (x : Int) (n : Int) : Int := bits .or .u32 (x * 2 ^ (32 - n.toNat) % 4294967296) (x / 2 ^ n.toNat)
structure V8 where
  (a b c d e f g h : Int)
def V8.ok (v : V8) : Prop := In32 v.a ∧ In32 v.b ∧ In32 v.c ∧ In32 v.d ∧ In32 v.e ∧ In32 v.f ∧ In32 v.g ∧ In32 v.h
def pOf (v : V8) (k w : Int) : Int :=
  (v.h + bits BinOp.xor IntKind.u32 (bits BinOp.xor IntKind.u32 (rotr v.e 6) (rotr v.e 11)) (rotr v.e 25) +
    bits BinOp.xor IntKind.u32 (bits BinOp.and IntKind.u32 v.e v.f) (bits BinOp.and IntKind.u32 (bits BinOp.xor IntKind.u32 IntKind.u32.max v.e) v.g) + k + w) % 4294967296
def qOf (v : V8) : Int :=
  (bits BinOp.xor IntKind.u32 (bits BinOp.xor IntKind.u32 (rotr v.a 2) (rotr v.a 13)) (rotr v.a 22) +
    bits BinOp.xor IntKind.u32 (bits BinOp.xor IntKind.u32 (bits BinOp.and IntKind.u32 v.a v.b) (bits BinOp.and IntKind.u32 v.a v.c)) (bits BinOp.and IntKind.u32 v.b v.c)) % 4294967296
def shaStep (v : V8) (k w : Int) : V8 :=
  ⟨(pOf v k w + qOf v) % 4294967296, v.a, v.b, v.c, (v.d + pOf v k w) % 4294967296, v.e, v.f, v.g⟩
def rounds (c w : List Int) (v : V8) : Nat → V8
  | 0 => v
  | k + 1 => shaStep (rounds c w v k) (ith c k) (ith w k)
theorem mod_in32 (x : Int) : In32 (x % 4294967296) := by unfold In32; omega
theorem shaStep_ok (v : V8) (k w : Int) (h : v.ok) : (shaStep v k w).ok := by
  obtain ⟨ha, hb, hc, hd, he, hf, hg, hh⟩ := h
  exact ⟨mod_in32 _, ha, hb, hc, mod_in32 _, he, hf, hg⟩
theorem rounds_ok (c w : List Int) (v : V8) (k : Nat) (hv : v.ok) : (rounds c w v k).ok := by
  induction k with
  | zero => exact hv
  | succ k ih => exact shaStep_ok _ _ _ ih
def V8.add (x y : V8) : V8 :=
  ⟨(x.a + y.a) % 4294967296, (x.b + y.b) % 4294967296, (x.c + y.c) % 4294967296, (x.d + y.d) % 4294967296, (x.e + y.e) % 4294967296, (x.f + y.f) % 4294967296, (x.g + y.g) % 4294967296, (x.h + y.h) % 4294967296⟩
theorem V8.add_ok (x y : V8) : (x.add y).ok := ⟨mod_in32 _, mod_in32 _, mod_in32 _, mod_in32 _, mod_in32 _, mod_in32 _, mod_in32 _, mod_in32 _⟩
def V8.cells (v : V8) : Array Value := #[.int .u32 v.a, .int .u32 v.b, .int .u32 v.c, .int .u32 v.d, .int .u32 v.e, .int .u32 v.f, .int .u32 v.g, .int .u32 v.h]
def V8.list (v : V8) : List Int := [v.a, v.b, v.c, v.d, v.e, v.f, v.g, v.h]
def addN (l m : List Int) : Nat → List Int
  | 0 => l
  | k + 1 => (addN l m k).set k ((ith (addN l m k) k + ith m k) % 4294967296)
theorem addN_length (l m : List Int) (k : Nat) : (addN l m k).length = l.length := by
  induction k with
  | zero => rfl
  | succ k ih => simp [addN, ih]
theorem addN_eight (x y : V8) : addN x.list y.list 8 = (x.add y).list := rfl
theorem u32s_set (l : List Int) (k : Nat) (x : Int) : (u32s l).setIfInBounds k (.int .u32 x) = u32s (l.set k x) := by
  simp [u32s, List.map_set]
theorem u8s_set (l : List Int) (k : Nat) (x : Int) : (u8s l).setIfInBounds k (.int .u8 x) = u8s (l.set k x) := by
  simp [u8s, List.map_set]
theorem u32s_one (l : List Int) : (u32s l).all (·.oneCell') = true := by simp [u32s, Value.oneCell']
theorem u8s_one (l : List Int) : (u8s l).all (·.oneCell') = true := by simp [u8s, Value.oneCell']
theorem cells8 {w : World} {g : Nat} {V : V8} {T : TypeId} (h : w.heap[g]? = some (.cells (u32s V.list) T (0, 0))) : w.cell? ⟨g, 0, none⟩ = some (.int .u32 V.a) ∧ w.cell? ⟨g, 1, none⟩ = some (.int .u32 V.b) ∧ w.cell? ⟨g, 2, none⟩ = some (.int .u32 V.c) ∧ w.cell? ⟨g, 3, none⟩ = some (.int .u32 V.d) ∧ w.cell? ⟨g, 4, none⟩ = some (.int .u32 V.e) ∧ w.cell? ⟨g, 5, none⟩ = some (.int .u32 V.f) ∧ w.cell? ⟨g, 6, none⟩ = some (.int .u32 V.g) ∧ w.cell? ⟨g, 7, none⟩ = some (.int .u32 V.h) := by
  refine ⟨?_, ?_, ?_, ?_, ?_, ?_, ?_, ?_⟩ <;> (rw [cell_of_row _ _ _ _ _ _ h]; rfl)
theorem frozen8 {w : World} {g : Nat} {V : V8} {T : TypeId} (h : w.heap[g]? = some (.cells (u32s V.list) T (0, 0))) : w.frozen? ⟨g, 0, none⟩ = false ∧ w.frozen? ⟨g, 1, none⟩ = false ∧ w.frozen? ⟨g, 2, none⟩ = false ∧ w.frozen? ⟨g, 3, none⟩ = false ∧ w.frozen? ⟨g, 4, none⟩ = false ∧ w.frozen? ⟨g, 5, none⟩ = false ∧ w.frozen? ⟨g, 6, none⟩ = false ∧ w.frozen? ⟨g, 7, none⟩ = false := by
  refine ⟨?_, ?_, ?_, ?_, ?_, ?_, ?_, ?_⟩ <;> exact frozen_of_row _ _ _ _ _ h
/-- The words 16 .. 63, one behind the other. -/
def sig0 (x : Int) : Int := bits BinOp.xor IntKind.u32 (bits BinOp.xor IntKind.u32 (rotr x 7) (rotr x 18)) (x / 8)
def sig1 (x : Int) : Int := bits BinOp.xor IntKind.u32 (bits BinOp.xor IntKind.u32 (rotr x 17) (rotr x 19)) (x / 1024)
def nextW (l : List Int) : Int := (ith l (l.length - 16) + ith l (l.length - 7) + sig0 (ith l (l.length - 15)) + sig1 (ith l (l.length - 2))) % 4294967296
def extW (l : List Int) : Nat → List Int
  | 0 => l
  | n + 1 => extW l n ++ [nextW (extW l n)]
def word4 (a b c d : Int) : Int := a * 16777216 + b * 65536 + c * 256 + d
def wordsOf (b : List Int) : Nat → List Int
  | 0 => []
  | n + 1 => wordsOf b n ++ [word4 (ith b (4 * n)) (ith b (4 * n + 1)) (ith b (4 * n + 2)) (ith b (4 * n + 3))]
def spreadF (b : List Int) : List Int := extW (wordsOf b 16) 48
def Bytes (l : List Int) : Prop := ∀ i, 0 ≤ ith l i ∧ ith l i < 256
theorem wordsOf_length (b : List Int) (n : Nat) : (wordsOf b n).length = n := by
  induction n with
  | zero => rfl
  | succ n ih => simp [wordsOf, ih]
theorem extW_length (l : List Int) (n : Nat) : (extW l n).length = l.length + n := by
  induction n with
  | zero => rfl
  | succ n ih => simp [extW, ih]; omega
theorem spreadF_length (b : List Int) : (spreadF b).length = 64 := by simp [spreadF, extW_length, wordsOf_length]
def All32 (l : List Int) : Prop := ∀ i, In32 (ith l i)
theorem ith_append (l m : List Int) (i : Nat) : ith (l ++ m) i = if i < l.length then ith l i else ith m (i - l.length) := by
  unfold ith
  split
  · rename_i h; rw [List.getElem?_append_left h]
  · rename_i h; rw [List.getElem?_append_right (by omega)]
theorem ith_single (x : Int) (i : Nat) : ith [x] i = if i = 0 then x else 0 := by
  unfold ith; cases i <;> simp
theorem ith_over (l : List Int) (i : Nat) (h : l.length ≤ i) : ith l i = 0 := by simp [ith, List.getElem?_eq_none h]
theorem all32_snoc (l : List Int) (x : Int) (h : All32 l) (hx : In32 x) : All32 (l ++ [x]) := by
  intro i; rw [ith_append]
  split
  · exact h i
  · rw [ith_single]; split
    · exact hx
    · exact ⟨by omega, by omega⟩
theorem word4_in (a b c d : Int) (ha : 0 ≤ a ∧ a < 256) (hb : 0 ≤ b ∧ b < 256) (hc : 0 ≤ c ∧ c < 256) (hd : 0 ≤ d ∧ d < 256) : In32 (word4 a b c d) := by
  unfold word4 In32; omega
theorem wordsOf_in (b : List Int) (hb : Bytes b) (n : Nat) : All32 (wordsOf b n) := by
  induction n with
  | zero => intro i; simp [wordsOf, ith, In32]
  | succ n ih => exact all32_snoc _ _ ih (word4_in _ _ _ _ (hb _) (hb _) (hb _) (hb _))
theorem extW_in (l : List Int) (hl : All32 l) (n : Nat) : All32 (extW l n) := by
  induction n with
  | zero => exact hl
  | succ n ih => exact all32_snoc _ _ ih (mod_in32 _)
theorem spreadF_in (b : List Int) (hb : Bytes b) : All32 (spreadF b) := extW_in _ (wordsOf_in b hb 16) 48
def constW : List Int := [1116352408, 1899447441, 3049323471, 3921009573, 961987163, 1508970993, 2453635748, 2870763221, 3624381080, 310598401, 607225278, 1426881987, 1925078388, 2162078206, 2614888103, 3248222580, 3835390401, 4022224774, 264347078, 604807628, 770255983, 1249150122, 1555081692, 1996064986, 2554220882, 2821834349, 2952996808, 3210313671, 3336571891, 3584528711, 113926993, 338241895, 666307205, 773529912, 1294757372, 1396182291, 1695183700, 1986661051, 2177026350, 2456956037, 2730485921, 2820302411, 3259730800, 3345764771, 3516065817, 3600352804, 4094571909, 275423344, 430227734, 506948616, 659060556, 883997877, 958139571, 1322822218, 1537002063, 1747873779, 1955562222, 2024104815, 2227730452, 2361852424, 2428436474, 2756734187, 3204031479, 3329325298]
def firstW : V8 := ⟨1779033703, 3144134277, 1013904242, 2773480762, 1359893119, 2600822924, 528734635, 1541459225⟩
/-- One block ground into v. -/
def groundF (v : V8) (b : List Int) : V8 := v.add (rounds constW (spreadF b) v 64)
theorem groundF_ok (v : V8) (b : List Int) : (groundF v b).ok := V8.add_ok _ _
def lenS : Value → Nat | .slice _ n _ => n | _ => 0
/-- The value 'v' is a slice that reads as' the bytes 'l' in the world 'w'. -/
def RdB (w : World) (v : Value) (l : List Int) : Prop :=
  (∃ a c, v = .slice a 0 c ∧ (a = none → c = 0) ∧ l = []) ∨ ∃ b o c, v = .slice (some ⟨b, o, none⟩) l.length c ∧ l.length ≤ c ∧ c ≤ maxLen ∧ b < w.heap.size ∧ ∀ i, i < l.length → w.cell? ⟨b, o + i, none⟩ = some (.int .u8 (ith l i))
theorem RdB.mono {w w' : World} {v : Value} {l : List Int} (h : RdB w v l) (hb : RowKit.Below w.heap.size w w') : RdB w' v l := by
  rcases h with h | ⟨b, o, c, hv, h1, h2, h3, h4⟩
  · exact .inl h
  · exact .inr ⟨b, o, c, hv, h1, h2, Nat.lt_of_lt_of_le h3 hb.size, fun i hi => by rw [hb.cell (p := (⟨b, o + i, none⟩ : Addr)) h3]; exact h4 i hi⟩
theorem RdB.slice {w : World} {v : Value} {l : List Int} (h : RdB w v l) : ∃ a c, v = .slice a l.length c := by
  rcases h with ⟨a, c, rfl, _, rfl⟩ | ⟨b, o, c, hv, _⟩
  · exact ⟨a, c, rfl⟩
  · exact ⟨_, c, hv⟩
end YtdlblhoaddfanaaDoor
end Go
namespace Go
namespace YtdlblhoaddfanaaDoor
theorem results_row_tmp {P : Program} {fn : Func} {p u : Tmp} {ty : TypeId} (h : fn.results = #[.cell p ty, .tmp u]) (tmps : Array Value) (w : World) (g : Nat) (t : TypeId) (cs : Array Value) (fr : Nat × Nat) (d : TypeDesc)
    (hp : tmps.getD p undef = .pointer (some ⟨g, 0, none⟩)) (hg : w.heap[g]? = some (.cells cs t fr))
    (hu : P.underlying ty = some d) (hd : (match d with | .struct _ | .array _ _ => true | _ => false) = true) (hi : (P.info? ty).map (·.size) = some cs.size) :
    (results fn tmps).run P w = .ok (.tuple #[.agg cs, tmps.getD u undef]) w := by
  rw [results_cell_tmp h, hp]
  have hl := run_loadVar_row (P := P) w g t ty cs fr d hg hu hd hi
  simp [asAddr, hl]
theorem slice_eq {a b : Option Addr} {n m c d : Nat} (h1 : a = b) (h2 : n = m) (h3 : c = d) : Value.slice a n c = Value.slice b m d := by subst h1 h2 h3; rfl
theorem set8_world {w : World} {g : Nat} {V X : V8} {T : TypeId} (hg : w.heap[g]? = some (.cells (u32s V.list) T (0, 0))) :
    ((((((((w.setCell ⟨g, 0, none⟩ (.int .u32 X.a)).setCell ⟨g, 1, none⟩ (.int .u32 X.b)).setCell ⟨g, 2, none⟩ (.int .u32 X.c)).setCell ⟨g, 3, none⟩ (.int .u32 X.d)).setCell ⟨g, 4, none⟩ (.int .u32 X.e)).setCell ⟨g, 5, none⟩ (.int .u32 X.f)).setCell ⟨g, 6, none⟩ (.int .u32 X.g)).setCell ⟨g, 7, none⟩ (.int .u32 X.h)) = w.setRow g (u32s X.list) := by
  have h := fun l => setRow_heap w g (u32s V.list) (u32s l) T (0, 0) hg
  rw [setCell_eq hg, u32s_set]
  rw [setCell_eq (h _), u32s_set, setRow2 hg]
  rw [setCell_eq (h _), u32s_set, setRow2 hg]
  rw [setCell_eq (h _), u32s_set, setRow2 hg]
  rw [setCell_eq (h _), u32s_set, setRow2 hg]
  rw [setCell_eq (h _), u32s_set, setRow2 hg]
  rw [setCell_eq (h _), u32s_set, setRow2 hg]
  rw [setCell_eq (h _), u32s_set, setRow2 hg]
  rfl
def grindN (v : V8) (l : List Int) : Nat → V8
  | 0 => v
  | k + 1 => groundF (grindN v l k) (l.drop (64 * k))
def blocksF (v : V8) (l : List Int) : V8 := grindN v l (l.length / 64)
def restF (l : List Int) : List Int := l.drop (64 * (l.length / 64))
theorem restF_length (l : List Int) : (restF l).length = l.length % 64 := by simp [restF]; omega
theorem grindN_ok (v : V8) (l : List Int) (k : Nat) (hv : v.ok) : (grindN v l k).ok := by
  cases k with
  | zero => exact hv
  | succ k => exact groundF_ok _ _
theorem blocksF_ok (v : V8) (l : List Int) (hv : v.ok) : (blocksF v l).ok := grindN_ok _ _ _ hv
theorem ith_drop (l : List Int) (k i : Nat) : ith (l.drop k) i = ith l (k + i) := by simp [ith]
theorem bytes_append (a b : List Int) (ha : Bytes a) (hb : Bytes b) : Bytes (a ++ b) := by
  intro i; rw [ith_append]; split
  · exact ha _
  · exact hb _
theorem bytes_drop (a : List Int) (k : Nat) (ha : Bytes a) : Bytes (a.drop k) := by intro i; rw [ith_drop]; exact ha _
theorem bytes_nil : Bytes [] := by intro i; simp [ith]
def be4 (x : Int) : List Int := [x / 16777216, x / 65536 % 256, x / 256 % 256, x % 256]
def endSize (n : Nat) : Nat := if n + 9 > 64 then 128 else 64
def endingF (r : List Int) (n : Nat) : List Int := r ++ [128] ++ List.replicate (endSize r.length - 4 - (r.length + 1)) 0 ++ be4 (8 * (n : Int))
def writtenN (l : List Int) : Nat → List Int
  | 0 => []
  | k + 1 => writtenN l k ++ be4 (ith l k)
def writtenF (v : V8) : List Int := writtenN v.list 8
theorem writtenN_length (l : List Int) (k : Nat) : (writtenN l k).length = 4 * k := by
  induction k with
  | zero => rfl
  | succ k ih => simp [writtenN, ih, be4]; omega
theorem be4_bytes (x : Int) (hx : In32 x) : Bytes (be4 x) := by
  obtain ⟨h1, h2⟩ := hx
  intro i
  unfold ith be4
  match i with
  | 0 => simp; omega
  | 1 => simp; omega
  | 2 => simp; omega
  | 3 => simp; omega
  | i + 4 => simp
theorem bytes_replicate (n : Nat) : Bytes (List.replicate n 0) := by
  intro i; unfold ith; rw [List.getElem?_replicate]; split <;> simp
theorem bytes_one (x : Int) (h : 0 ≤ x ∧ x < 256) : Bytes [x] := by
  intro i; rw [ith_single]; split <;> omega
theorem endingF_bytes (r : List Int) (n : Nat) (h : Bytes r) (hn : n ≤ 200000) : Bytes (endingF r n) :=
  bytes_append _ _ (bytes_append _ _ (bytes_append _ _ h (bytes_one _ (by omega))) (bytes_replicate _)) (be4_bytes _ ⟨by omega, by omega⟩)
theorem endingF_length (r : List Int) (n : Nat) (h : r.length < 64) : (endingF r n).length = endSize r.length := by
  unfold endingF endSize; simp [be4]; split <;> omega
/-- The digest of the bytes of a mill. -/
def endF (v : V8) (r : List Int) (n : Nat) : List Int := writtenF (blocksF v (endingF r n))
end YtdlblhoaddfanaaDoor
end Go
namespace Go
namespace YtdlblhoaddfanaaDoor
set_option maxRecDepth 100000
end YtdlblhoaddfanaaDoor
end Go

/- Texts that the row stands on, part 0. -/
import Derived.WalkKit
import Derived.WalkSpells
import Derived.WalkLawsBesides
import Derived.Lib.Hide
import Derived.Deep.QuietTactic
import Derived.Laws.CopyOwn
import Derived.Deep.WholeRow
import Derived.Laws.AppendOwnNone
import Derived.Deep.RegionLaw
import Derived.Deep.Quiet
import Derived.StillTail
import Derived.Deep.RegionHeld3
import Derived.Lib.BytesEntry
import Derived.Lib.Bytealg
import Derived.Test.YtlbgffhipondiaaGreatDoorTie
import Derived.ProofKit
import Derived.LaidMore
import Derived.OpenShut
import Derived.OpenVars
import Derived.Stop.Joined
import Derived.ChangeSlices
import Derived.Lib.ItoaNum
import Derived.Shelf.Strconv.Itoa0
import Derived.Test.YtlbgffhipondiaaGreatDoorProg
namespace Go
namespace YtlbgffhipondiaaGreatDoor
section
variable {P : Program}
theorem hp1 (w : World) (o1 : Obj) (k : Nat) (hk : k < w.heap.size) : (w.alloc o1).heap[k]? = w.heap[k]? := RowKit.Below.heap_alloc w o1 k hk
theorem hp2 (w : World) (o1 o2 : Obj) (k : Nat) (hk : k < w.heap.size) : ((w.alloc o1).alloc o2).heap[k]? = w.heap[k]? := by
  rw [hp1 _ o2 k (by simp; omega)]; exact hp1 w o1 k hk
theorem hp3 (w : World) (o1 o2 o3 : Obj) (k : Nat) (hk : k < w.heap.size) : (((w.alloc o1).alloc o2).alloc o3).heap[k]? = w.heap[k]? := by
  rw [hp1 _ o3 k (by simp; omega)]; exact hp2 w o1 o2 k hk
theorem hn2 (w : World) (o1 o2 : Obj) : ((w.alloc o1).alloc o2).heap[w.heap.size + 1]? = some o2 := heap_alloc2_new w o1 o2
theorem hn3 (w : World) (o1 o2 o3 : Obj) : (((w.alloc o1).alloc o2).alloc o3).heap[w.heap.size + 1 + 1]? = some o3 := by
  have := heap_alloc_new ((w.alloc o1).alloc o2) o3
  rw [World.size_alloc, World.size_alloc] at this; exact this
theorem run_index_arr {t len elem : Nat} {kd : IntKind} (ht : P.underlying t = some (.array len elem)) (he : P.underlying elem = some (.int kd)) (hs : (P.info? elem).map (·.size) = some 1)
    (cs : Array Value) (i : Nat) (x : Value) (hi : i < len) (hc : cs[i]? = some x) (w : World) :
    (Instr.index t (.agg cs) (.int .i64 (i : Int))).run P w = .ok x w := by
  cases hq : P.info? elem with
  | none => simp [hq] at hs
  | some inf =>
    have h1 : inf.size = 1 := by simpa [hq] using hs
    simp [Instr.index, asIntOf, run_underlying ht, sizeOf, typeInfo, hq, h1, part, isAgg, run_underlying he, hc, hi]
end
end YtlbgffhipondiaaGreatDoor
end Go
namespace Go
namespace YtlbgffhipondiaaGreatDoor
theorem ret_bool {a b : Bool} (h : a = b) : Ending.returned (.bool a) = .returned (.bool b) := by rw [h]
theorem ret_int {k : IntKind} {a b : Int} (h : a = b) : Ending.returned (.int k a) = .returned (.int k b) := by rw [h]
/-- 'b' is 'a' after some draws. -/
def Draws (a b : World) : Prop := ∃ n, b = a.drewN n
theorem Draws.refl (a : World) : Draws a a := ⟨0, rfl⟩
theorem Draws.drewN {a b : World} (h : Draws a b) (n : Nat) : Draws a (b.drewN n) := by
  obtain ⟨m, rfl⟩ := h; exact ⟨m + n, by rw [World.drewN_drewN]⟩
theorem Draws.heap {a b : World} (h : Draws a b) : b.heap = a.heap := by obtain ⟨m, rfl⟩ := h; rfl
theorem Draws.cell {a b : World} (h : Draws a b) (p : Addr) : b.cell? p = a.cell? p := by obtain ⟨m, rfl⟩ := h; rfl
theorem Draws.frozen {a b : World} (h : Draws a b) (p : Addr) : b.frozen? p = a.frozen? p := by obtain ⟨m, rfl⟩ := h; rfl
theorem Draws.below {a b w : World} {B : Nat} (h : Draws a b) (hb : RowKit.Below B w a) : RowKit.Below B w b := by obtain ⟨m, rfl⟩ := h; exact ⟨hb.os, hb.tape, hb.output, hb.size, hb.block⟩
end YtlbgffhipondiaaGreatDoor
end Go
namespace Go
namespace YtlbgffhipondiaaGreatDoor
theorem storeRow {P : Program} {ops : Array Oper} {rest : List Oper} {o : Oper} {a : Act} {w : World} {Q : Exit → Act → World → Prop} (hgd : o.guard = none) (ty : TypeId) (x y : Operand) (ho : o.op = .store ty x y)
    (g : Nat) (hx : a.eval x = .pointer (some ⟨g, 0, none⟩)) (c' : Array Value) (hy : a.eval y = .agg c') (t : TypeId) (c : Array Value) (hg : w.heap[g]? = some (.cells c t (0, 0)))
    (hi : (P.info? ty).map (·.size) = some c'.size) (hs : c.size = c'.size) (h1 : c'.all (·.oneCell') = true)
    (h : wpList P ops Q rest (a.put o.dst undef) (w.setRow g c')) : wpList P ops Q (o :: rest) a w := by
  refine wpList_plain hgd fun K hK => ?_
  unfold Oper.wp execOp
  have hst := run_storeVar_row (P := P) w g t ty c c' hg hi hs h1
  simp only [ho, hx, hy, Instr.storeAt, Instr.sureAddr, Sem.run_bind, Sem.run_pure, Result.andThen_ok, hst]
  exact hK _ _ h
/-- What became of the row 'g', and that no other block turned. -/
theorem setCell_row {w : World} {g : Nat} {cs : Array Value} {t : TypeId} (hg : w.heap[g]? = some (.cells cs t (0, 0))) (i : Nat) (v : Value) :
    (w.setCell ⟨g, i, none⟩ v).heap[g]? = some (.cells (cs.setIfInBounds i v) t (0, 0)) := heap_setCell_same w g i cs t v hg
theorem setCell_rows {w : World} (g i : Nat) (v : Value) (k : Nat) (h : k ≠ g) : (w.setCell ⟨g, i, none⟩ v).heap[k]? = w.heap[k]? := heap_setCell_other w ⟨g, i, none⟩ k v h
theorem setCell_eq {w : World} {g : Nat} {cs : Array Value} {t : TypeId} (hg : w.heap[g]? = some (.cells cs t (0, 0))) (i : Nat) (v : Value) :
    w.setCell ⟨g, i, none⟩ v = w.setRow g (cs.setIfInBounds i v) := by
  unfold World.setCell World.setRow
  congr 1
  apply Array.ext_getElem?
  intro k
  rw [Array.getElem?_modify, Array.getElem?_modify]
  by_cases h : g = k
  · subst h; simp [hg]
  · simp [h]
theorem setRow2 {w : World} {g : Nat} {cs cs1 : Array Value} {t : TypeId} (hg : w.heap[g]? = some (.cells cs t (0, 0))) (cs2 : Array Value) :
    (w.setRow g cs1).setRow g cs2 = w.setRow g cs2 := by
  unfold World.setRow
  congr 1
  apply Array.ext_getElem?
  intro k
  rw [Array.getElem?_modify, Array.getElem?_modify, Array.getElem?_modify]
  by_cases h : g = k
  · subst h; simp [hg]
  · simp [h]
theorem below_setRow' {B g : Nat} {w0 w : World} (hb : RowKit.Below B w0 w) (hBg : B ≤ g) (cs : Array Value) : RowKit.Below B w0 (w.setRow g cs) := below_setRow hb hBg cs
end YtlbgffhipondiaaGreatDoor
end Go
namespace Go
namespace YtlbgffhipondiaaGreatDoor
end YtlbgffhipondiaaGreatDoor
end Go
namespace Go
namespace YtlbgffhipondiaaGreatDoor
def In32 (x : Int) : Prop := 0 ≤ x ∧ x < 4294967296
def ith (l : List Int) (i : Nat) : Int := l[i]?.getD 0
def u32s (l : List Int) : Array Value := (l.map (Value.int .u32)).toArray
def u8s (l : List Int) : Array Value := (l.map (Value.int .u8)).toArray
theorem u32s_get (l : List Int) (k : Nat) (h : k < l.length) : (u32s l)[k]? = some (.int .u32 (ith l k)) := by
  simp [u32s, h, ith]
theorem u32s_size (l : List Int) : (u32s l).size = l.length := by simp [u32s]
theorem u8s_get (l : List Int) (k : Nat) (h : k < l.length) : (u8s l)[k]? = some (.int .u8 (ith l k)) := by
  simp [u8s, h, ith]
theorem u8s_size (l : List Int) : (u8s l).size = l.length := by simp [u8s]
/-- The word turned right by n, as' both programs reckon it. -/
def rotr (x : Int) (n : Int) : Int := bits .or .u32 (x * 2 ^ (32 - n.toNat) % 4294967296) (x / 2 ^ n.toNat)
structure V8 where
  (a b c d e f g h : Int)
def V8.ok (v : V8) : Prop := In32 v.a ∧ In32 v.b ∧ In32 v.c ∧ In32 v.d ∧ In32 v.e ∧ In32 v.f ∧ In32 v.g ∧ In32 v.h
def pOf (v : V8) (k w : Int) : Int :=
  (v.h + bits BinOp.xor IntKind.u32 (bits BinOp.xor IntKind.u32 (rotr v.e 6) (rotr v.e 11)) (rotr v.e 25) +
    bits BinOp.xor IntKind.u32 (bits BinOp.and IntKind.u32 v.e v.f) (bits BinOp.and IntKind.u32 (bits BinOp.xor IntKind.u32 IntKind.u32.max v.e) v.g) + k + w) % 4294967296
def qOf (v : V8) : Int :=
  (bits BinOp.xor IntKind.u32 (bits BinOp.xor IntKind.u32 (rotr v.a 2) (rotr v.a 13)) (rotr v.a 22) +
    bits BinOp.xor IntKind.u32 (bits BinOp.xor IntKind.u32 (bits BinOp.and IntKind.u32 v.a v.b) (bits BinOp.and IntKind.u32 v.a v.c)) (bits BinOp.and IntKind.u32 v.b v.c)) % 4294967296
def shaStep (v : V8) (k w : Int) : V8 :=
  ⟨(pOf v k w + qOf v) % 4294967296, v.a, v.b, v.c, (v.d + pOf v k w) % 4294967296, v.e, v.f, v.g⟩
def rounds (c w : List Int) (v : V8) : Nat → V8
  | 0 => v
  | k + 1 => shaStep (rounds c w v k) (ith c k) (ith w k)
theorem mod_in32 (x : Int) : In32 (x % 4294967296) := by unfold In32; omega
theorem shaStep_ok (v : V8) (k w : Int) (h : v.ok) : (shaStep v k w).ok := by
  obtain ⟨ha, hb, hc, hd, he, hf, hg, hh⟩ := h
  exact ⟨mod_in32 _, ha, hb, hc, mod_in32 _, he, hf, hg⟩
theorem rounds_ok (c w : List Int) (v : V8) (k : Nat) (hv : v.ok) : (rounds c w v k).ok := by
  induction k with
  | zero => exact hv
  | succ k ih => exact shaStep_ok _ _ _ ih
def V8.add (x y : V8) : V8 :=
  ⟨(x.a + y.a) % 4294967296, (x.b + y.b) % 4294967296, (x.c + y.c) % 4294967296, (x.d + y.d) % 4294967296, (x.e + y.e) % 4294967296, (x.f + y.f) % 4294967296, (x.g + y.g) % 4294967296, (x.h + y.h) % 4294967296⟩
theorem V8.add_ok (x y : V8) : (x.add y).ok := ⟨mod_in32 _, mod_in32 _, mod_in32 _, mod_in32 _, mod_in32 _, mod_in32 _, mod_in32 _, mod_in32 _⟩
def V8.cells (v : V8) : Array Value := #[.int .u32 v.a, .int .u32 v.b, .int .u32 v.c, .int .u32 v.d, .int .u32 v.e, .int .u32 v.f, .int .u32 v.g, .int .u32 v.h]
def V8.list (v : V8) : List Int := [v.a, v.b, v.c, v.d, v.e, v.f, v.g, v.h]
def addN (l m : List Int) : Nat → List Int
  | 0 => l
  | k + 1 => (addN l m k).set k ((ith (addN l m k) k + ith m k) % 4294967296)
theorem addN_length (l m : List Int) (k : Nat) : (addN l m k).length = l.length := by
  induction k with
  | zero => rfl
  | succ k ih => simp [addN, ih]
theorem addN_eight (x y : V8) : addN x.list y.list 8 = (x.add y).list := rfl
theorem u32s_set (l : List Int) (k : Nat) (x : Int) : (u32s l).setIfInBounds k (.int .u32 x) = u32s (l.set k x) := by
  simp [u32s, List.map_set]
theorem u8s_set (l : List Int) (k : Nat) (x : Int) : (u8s l).setIfInBounds k (.int .u8 x) = u8s (l.set k x) := by
  simp [u8s, List.map_set]
theorem u32s_one (l : List Int) : (u32s l).all (·.oneCell') = true := by simp [u32s, Value.oneCell']
theorem u8s_one (l : List Int) : (u8s l).all (·.oneCell') = true := by simp [u8s, Value.oneCell']
theorem cells8 {w : World} {g : Nat} {V : V8} {T : TypeId} (h : w.heap[g]? = some (.cells (u32s V.list) T (0, 0))) : w.cell? ⟨g, 0, none⟩ = some (.int .u32 V.a) ∧ w.cell? ⟨g, 1, none⟩ = some (.int .u32 V.b) ∧ w.cell? ⟨g, 2, none⟩ = some (.int .u32 V.c) ∧ w.cell? ⟨g, 3, none⟩ = some (.int .u32 V.d) ∧ w.cell? ⟨g, 4, none⟩ = some (.int .u32 V.e) ∧ w.cell? ⟨g, 5, none⟩ = some (.int .u32 V.f) ∧ w.cell? ⟨g, 6, none⟩ = some (.int .u32 V.g) ∧ w.cell? ⟨g, 7, none⟩ = some (.int .u32 V.h) := by
  refine ⟨?_, ?_, ?_, ?_, ?_, ?_, ?_, ?_⟩ <;> (rw [cell_of_row _ _ _ _ _ _ h]; rfl)
theorem frozen8 {w : World} {g : Nat} {V : V8} {T : TypeId} (h : w.heap[g]? = some (.cells (u32s V.list) T (0, 0))) : w.frozen? ⟨g, 0, none⟩ = false ∧ w.frozen? ⟨g, 1, none⟩ = false ∧ w.frozen? ⟨g, 2, none⟩ = false ∧ w.frozen? ⟨g, 3, none⟩ = false ∧ w.frozen? ⟨g, 4, none⟩ = false ∧ w.frozen? ⟨g, 5, none⟩ = false ∧ w.frozen? ⟨g, 6, none⟩ = false ∧ w.frozen? ⟨g, 7, none⟩ = false := by
  refine ⟨?_, ?_, ?_, ?_, ?_, ?_, ?_, ?_⟩ <;> exact frozen_of_row _ _ _ _ _ h
/-- The words 16 .. 63, one behind the other. -/
def sig0 (x : Int) : Int := bits BinOp.xor IntKind.u32 (bits BinOp.xor IntKind.u32 (rotr x 7) (rotr x 18)) (x / 8)
def sig1 (x : Int) : Int := bits BinOp.xor IntKind.u32 (bits BinOp.xor IntKind.u32 (rotr x 17) (rotr x 19)) (x / 1024)
def nextW (l : List Int) : Int := (ith l (l.length - 16) + ith l (l.length - 7) + sig0 (ith l (l.length - 15)) + sig1 (ith l (l.length - 2))) % 4294967296
def extW (l : List Int) : Nat → List Int
  | 0 => l
  | n + 1 => extW l n ++ [nextW (extW l n)]
def word4 (a b c d : Int) : Int := a * 16777216 + b * 65536 + c * 256 + d
def wordsOf (b : List Int) : Nat → List Int
  | 0 => []
  | n + 1 => wordsOf b n ++ [word4 (ith b (4 * n)) (ith b (4 * n + 1)) (ith b (4 * n + 2)) (ith b (4 * n + 3))]
def spreadF (b : List Int) : List Int := extW (wordsOf b 16) 48
def Bytes (l : List Int) : Prop := ∀ i, 0 ≤ ith l i ∧ ith l i < 256
theorem wordsOf_length (b : List Int) (n : Nat) : (wordsOf b n).length = n := by
  induction n with
  | zero => rfl
  | succ n ih => simp [wordsOf, ih]
theorem extW_length (l : List Int) (n : Nat) : (extW l n).length = l.length + n := by
  induction n with
  | zero => rfl
  | succ n ih => simp [extW, ih]; omega
theorem spreadF_length (b : List Int) : (spreadF b).length = 64 := by simp [spreadF, extW_length, wordsOf_length]
def All32 (l : List Int) : Prop := ∀ i, In32 (ith l i)
theorem ith_append (l m : List Int) (i : Nat) : ith (l ++ m) i = if i < l.length then ith l i else ith m (i - l.length) := by
  unfold ith
  split
  · rename_i h; rw [List.getElem?_append_left h]
  · rename_i h; rw [List.getElem?_append_right (by omega)]
theorem ith_single (x : Int) (i : Nat) : ith [x] i = if i = 0 then x else 0 := by
  unfold ith; cases i <;> simp
theorem ith_over (l : List Int) (i : Nat) (h : l.length ≤ i) : ith l i = 0 := by simp [ith, List.getElem?_eq_none h]
theorem all32_snoc (l : List Int) (x : Int) (h : All32 l) (hx : In32 x) : All32 (l ++ [x]) := by
  intro i; rw [ith_append]
  split
  · exact h i
  · rw [ith_single]; split
    · exact hx
    · exact ⟨by omega, by omega⟩
theorem word4_in (a b c d : Int) (ha : 0 ≤ a ∧ a < 256) (hb : 0 ≤ b ∧ b < 256) (hc : 0 ≤ c ∧ c < 256) (hd : 0 ≤ d ∧ d < 256) : In32 (word4 a b c d) := by
  unfold word4 In32; omega
theorem wordsOf_in (b : List Int) (hb : Bytes b) (n : Nat) : All32 (wordsOf b n) := by
  induction n with
  | zero => intro i; simp [wordsOf, ith, In32]
  | succ n ih => exact all32_snoc _ _ ih (word4_in _ _ _ _ (hb _) (hb _) (hb _) (hb _))
theorem extW_in (l : List Int) (hl : All32 l) (n : Nat) : All32 (extW l n) := by
  induction n with
  | zero => exact hl
  | succ n ih => exact all32_snoc _ _ ih (mod_in32 _)
theorem spreadF_in (b : List Int) (hb : Bytes b) : All32 (spreadF b) := extW_in _ (wordsOf_in b hb 16) 48
def constW : List Int := [1116352408, 1899447441, 3049323471, 3921009573, 961987163, 1508970993, 2453635748, 2870763221, 3624381080, 310598401, 607225278, 1426881987, 1925078388, 2162078206, 2614888103, 3248222580, 3835390401, 4022224774, 264347078, 604807628, 770255983, 1249150122, 1555081692, 1996064986, 2554220882, 2821834349, 2952996808, 3210313671, 3336571891, 3584528711, 113926993, 338241895, 666307205, 773529912, 1294757372, 1396182291, 1695183700, 1986661051, 2177026350, 2456956037, 2730485921, 2820302411, 3259730800, 3345764771, 3516065817, 3600352804, 4094571909, 275423344, 430227734, 506948616, 659060556, 883997877, 958139571, 1322822218, 1537002063, 1747873779, 1955562222, 2024104815, 2227730452, 2361852424, 2428436474, 2756734187, 3204031479, 3329325298]
def firstW : V8 := ⟨1779033703, 3144134277, 1013904242, 2773480762, 1359893119, 2600822924, 528734635, 1541459225⟩
theorem firstW_ok : firstW.ok := by simp [V8.ok, firstW, In32]
/-- One block ground into v. -/
def groundF (v : V8) (b : List Int) : V8 := v.add (rounds constW (spreadF b) v 64)
theorem groundF_ok (v : V8) (b : List Int) : (groundF v b).ok := V8.add_ok _ _
def lenS : Value → Nat | .slice _ n _ => n | _ => 0
/-- The value 'v' is a slice that reads as' the bytes 'l' in the world 'w'. -/
def RdB (w : World) (v : Value) (l : List Int) : Prop :=
  (∃ a c, v = .slice a 0 c ∧ (a = none → c = 0) ∧ l = []) ∨ ∃ b o c, v = .slice (some ⟨b, o, none⟩) l.length c ∧ l.length ≤ c ∧ c ≤ maxLen ∧ b < w.heap.size ∧ ∀ i, i < l.length → w.cell? ⟨b, o + i, none⟩ = some (.int .u8 (ith l i))
theorem RdB.mono {w w' : World} {v : Value} {l : List Int} (h : RdB w v l) (hb : RowKit.Below w.heap.size w w') : RdB w' v l := by
  rcases h with h | ⟨b, o, c, hv, h1, h2, h3, h4⟩
  · exact .inl h
  · exact .inr ⟨b, o, c, hv, h1, h2, Nat.lt_of_lt_of_le h3 hb.size, fun i hi => by rw [hb.cell (p := (⟨b, o + i, none⟩ : Addr)) h3]; exact h4 i hi⟩
theorem RdB.slice {w : World} {v : Value} {l : List Int} (h : RdB w v l) : ∃ a c, v = .slice a l.length c := by
  rcases h with ⟨a, c, rfl, _, rfl⟩ | ⟨b, o, c, hv, _⟩
  · exact ⟨a, c, rfl⟩
  · exact ⟨_, c, hv⟩
end YtlbgffhipondiaaGreatDoor
end Go
namespace Go
namespace YtlbgffhipondiaaGreatDoor
theorem results_row_tmp {P : Program} {fn : Func} {p u : Tmp} {ty : TypeId} (h : fn.results = #[.cell p ty, .tmp u]) (tmps : Array Value) (w : World) (g : Nat) (t : TypeId) (cs : Array Value) (fr : Nat × Nat) (d : TypeDesc)
    (hp : tmps.getD p undef = .pointer (some ⟨g, 0, none⟩)) (hg : w.heap[g]? = some (.cells cs t fr))
    (hu : P.underlying ty = some d) (hd : (match d with | .struct _ | .array _ _ => true | _ => false) = true) (hi : (P.info? ty).map (·.size) = some cs.size) :
    (results fn tmps).run P w = .ok (.tuple #[.agg cs, tmps.getD u undef]) w := by
  rw [results_cell_tmp h, hp]
  have hl := run_loadVar_row (P := P) w g t ty cs fr d hg hu hd hi
  simp [asAddr, hl]
theorem slice_eq {a b : Option Addr} {n m c d : Nat} (h1 : a = b) (h2 : n = m) (h3 : c = d) : Value.slice a n c = Value.slice b m d := by subst h1 h2 h3; rfl
theorem set8_world {w : World} {g : Nat} {V X : V8} {T : TypeId} (hg : w.heap[g]? = some (.cells (u32s V.list) T (0, 0))) :
    ((((((((w.setCell ⟨g, 0, none⟩ (.int .u32 X.a)).setCell ⟨g, 1, none⟩ (.int .u32 X.b)).setCell ⟨g, 2, none⟩ (.int .u32 X.c)).setCell ⟨g, 3, none⟩ (.int .u32 X.d)).setCell ⟨g, 4, none⟩ (.int .u32 X.e)).setCell ⟨g, 5, none⟩ (.int .u32 X.f)).setCell ⟨g, 6, none⟩ (.int .u32 X.g)).setCell ⟨g, 7, none⟩ (.int .u32 X.h)) = w.setRow g (u32s X.list) := by
  have h := fun l => setRow_heap w g (u32s V.list) (u32s l) T (0, 0) hg
  rw [setCell_eq hg, u32s_set]
  rw [setCell_eq (h _), u32s_set, setRow2 hg]
  rw [setCell_eq (h _), u32s_set, setRow2 hg]
  rw [setCell_eq (h _), u32s_set, setRow2 hg]
  rw [setCell_eq (h _), u32s_set, setRow2 hg]
  rw [setCell_eq (h _), u32s_set, setRow2 hg]
  rw [setCell_eq (h _), u32s_set, setRow2 hg]
  rw [setCell_eq (h _), u32s_set, setRow2 hg]
  rfl
def grindN (v : V8) (l : List Int) : Nat → V8
  | 0 => v
  | k + 1 => groundF (grindN v l k) (l.drop (64 * k))
def blocksF (v : V8) (l : List Int) : V8 := grindN v l (l.length / 64)
def restF (l : List Int) : List Int := l.drop (64 * (l.length / 64))
theorem restF_length (l : List Int) : (restF l).length = l.length % 64 := by simp [restF]; omega
theorem grindN_ok (v : V8) (l : List Int) (k : Nat) (hv : v.ok) : (grindN v l k).ok := by
  cases k with
  | zero => exact hv
  | succ k => exact groundF_ok _ _
theorem blocksF_ok (v : V8) (l : List Int) (hv : v.ok) : (blocksF v l).ok := grindN_ok _ _ _ hv
theorem wordsOf_congr (a b : List Int) (n : Nat) (h : ∀ i, i < 4 * n → ith a i = ith b i) : wordsOf a n = wordsOf b n := by
  induction n with
  | zero => rfl
  | succ n ih => rw [wordsOf, wordsOf, ih (fun i hi => h i (by omega)), h (4 * n) (by omega), h (4 * n + 1) (by omega), h (4 * n + 2) (by omega), h (4 * n + 3) (by omega)]
theorem groundF_congr (v : V8) (a b : List Int) (h : ∀ i, i < 64 → ith a i = ith b i) : groundF v a = groundF v b := by
  unfold groundF spreadF; rw [wordsOf_congr a b 16 h]
theorem ith_drop (l : List Int) (k i : Nat) : ith (l.drop k) i = ith l (k + i) := by simp [ith]
theorem ith_take (l : List Int) (k i : Nat) (h : i < k) : ith (l.take k) i = ith l i := by simp [ith, h]
theorem grindN_add (v : V8) (l : List Int) (q m : Nat) : grindN v l (q + m) = grindN (grindN v l q) (l.drop (64 * q)) m := by
  induction m with
  | zero => rfl
  | succ m ih => rw [Nat.add_succ, grindN, grindN, ih, List.drop_drop, Nat.mul_add]
theorem grindN_append (v : V8) (a b : List Int) (q : Nat) (h : 64 * q ≤ a.length) : grindN v (a ++ b) q = grindN v a q := by
  induction q with
  | zero => rfl
  | succ q ih =>
    rw [grindN, grindN, ih (by omega)]
    refine groundF_congr _ _ _ fun i hi => ?_
    rw [ith_drop, ith_drop, ith_append, if_pos (by omega)]
theorem blocksF_append (v : V8) (a b : List Int) : blocksF v (a ++ b) = blocksF (blocksF v a) (restF a ++ b) := by
  have h1 : 64 * (a.length / 64) ≤ a.length := by omega
  have h2 : (a ++ b).drop (64 * (a.length / 64)) = restF a ++ b := by rw [restF, List.drop_append_of_le_length h1]
  have h3 : (a ++ b).length / 64 = a.length / 64 + (restF a ++ b).length / 64 := by
    rw [List.length_append, List.length_append, restF_length]; omega
  unfold blocksF
  rw [h3, grindN_add, h2, grindN_append v a b _ h1]
theorem restF_append (a b : List Int) : restF (a ++ b) = restF (restF a ++ b) := by
  have h1 : 64 * (a.length / 64) ≤ a.length := by omega
  have h2 : (a ++ b).drop (64 * (a.length / 64)) = restF a ++ b := by unfold restF; rw [List.drop_append_of_le_length h1]
  have h3 : (a ++ b).length / 64 = a.length / 64 + (restF a ++ b).length / 64 := by
    rw [List.length_append, List.length_append, restF_length]; omega
  conv => lhs; unfold restF
  rw [h3, Nat.mul_add, ← List.drop_drop, h2]
  rfl
theorem blocksF_small (v : V8) (l : List Int) (h : l.length < 64) : blocksF v l = v := by
  unfold blocksF; rw [Nat.div_eq_of_lt h]; rfl
theorem bytes_append (a b : List Int) (ha : Bytes a) (hb : Bytes b) : Bytes (a ++ b) := by
  intro i; rw [ith_append]; split
  · exact ha _
  · exact hb _
theorem bytes_drop (a : List Int) (k : Nat) (ha : Bytes a) : Bytes (a.drop k) := by intro i; rw [ith_drop]; exact ha _
theorem bytes_nil : Bytes [] := by intro i; simp [ith]
def be4 (x : Int) : List Int := [x / 16777216, x / 65536 % 256, x / 256 % 256, x % 256]
def endSize (n : Nat) : Nat := if n + 9 > 64 then 128 else 64
def endingF (r : List Int) (n : Nat) : List Int := r ++ [128] ++ List.replicate (endSize r.length - 4 - (r.length + 1)) 0 ++ be4 (8 * (n : Int))
def writtenN (l : List Int) : Nat → List Int
  | 0 => []
  | k + 1 => writtenN l k ++ be4 (ith l k)
def writtenF (v : V8) : List Int := writtenN v.list 8
theorem writtenN_length (l : List Int) (k : Nat) : (writtenN l k).length = 4 * k := by
  induction k with
  | zero => rfl
  | succ k ih => simp [writtenN, ih, be4]; omega
theorem be4_bytes (x : Int) (hx : In32 x) : Bytes (be4 x) := by
  obtain ⟨h1, h2⟩ := hx
  intro i
  unfold ith be4
  match i with
  | 0 => simp; omega
  | 1 => simp; omega
  | 2 => simp; omega
  | 3 => simp; omega
  | i + 4 => simp
theorem bytes_replicate (n : Nat) : Bytes (List.replicate n 0) := by
  intro i; unfold ith; rw [List.getElem?_replicate]; split <;> simp
theorem bytes_one (x : Int) (h : 0 ≤ x ∧ x < 256) : Bytes [x] := by
  intro i; rw [ith_single]; split <;> omega
theorem endingF_bytes (r : List Int) (n : Nat) (h : Bytes r) (hn : n ≤ 200000) : Bytes (endingF r n) :=
  bytes_append _ _ (bytes_append _ _ (bytes_append _ _ h (bytes_one _ (by omega))) (bytes_replicate _)) (be4_bytes _ ⟨by omega, by omega⟩)
theorem endingF_length (r : List Int) (n : Nat) (h : r.length < 64) : (endingF r n).length = endSize r.length := by
  unfold endingF endSize; simp [be4]; split <;> omega
theorem writtenN_bytes (l : List Int) (k : Nat) (h : All32 l) : Bytes (writtenN l k) := by
  induction k with
  | zero => exact bytes_nil
  | succ k ih => exact bytes_append _ _ ih (be4_bytes _ (h _))
/-- The digest of the bytes of a mill. -/
def endF (v : V8) (r : List Int) (n : Nat) : List Int := writtenF (blocksF v (endingF r n))
/-- The digest of bytes. -/
def shaF (l : List Int) : List Int := endF (blocksF firstW l) (restF l) l.length
end YtlbgffhipondiaaGreatDoor
end Go
namespace Go
namespace YtlbgffhipondiaaGreatDoor
set_option maxRecDepth 100000
theorem shaF_length (l : List Int) : (shaF l).length = 32 := writtenN_length _ 8
end YtlbgffhipondiaaGreatDoor
end Go
namespace Go
namespace YtlbgffhipondiaaGreatDoor
open RowKit
def u8v (l : List Int) : List Value := l.map (Value.int .u8)
theorem u8v_length (l : List Int) : (u8v l).length = l.length := by simp [u8v]
theorem u8v_append (l m : List Int) : u8v (l ++ m) = u8v l ++ u8v m := by simp [u8v]
theorem u8v_get (l : List Int) (j : Nat) (h : j < l.length) : (u8v l)[j]? = some (.int .u8 (ith l j)) := by simp [u8v, ith, h]
theorem u8v_one (l : List Int) : ∀ u ∈ u8v l, u.oneCell' = true := by
  intro u hu; simp [u8v] at hu; obtain ⟨x, _, rfl⟩ := hu; rfl
theorem addr_add (b o j : Nat) : (⟨b, o, none⟩ : Addr).add j = ⟨b, o + j, none⟩ := by unfold Addr.add; split <;> simp_all
/-- The slice value 'v' is the call's own (blocks from 'base' on), and reads as' the bytes 'l'. -/
def OwnB (base : Nat) (E : TypeId) (w : World) (v : Value) (l : List Int) : Prop := w.ownsRow base E 1 v l.length (u8v l)
theorem OwnB.nil (w : World) (base : Nat) (E : TypeId) : OwnB base E w (.slice none 0 0) [] := World.ownsRow_nil w base E 1
theorem OwnB.rd {base : Nat} {E : TypeId} {w : World} {v : Value} {l : List Int} (h : OwnB base E w v l) : RdB w v l := by
  rcases h.2 with ⟨rfl, h0⟩ | ⟨g, cap, cur, rfl, hb, hg, hn, hm, hs, ht⟩
  · exact .inl ⟨none, 0, rfl, fun _ => rfl, List.eq_nil_of_length_eq_zero h0⟩
  · refine .inr ⟨g, 0, cap, rfl, hn, hm, (Array.getElem?_eq_some_iff.1 hg).1, fun i hi => ?_⟩
    have hcell := World.ownsRow.cells (g := g) h rfl i _ (u8v_get l i hi)
    rw [addr_add] at hcell
    exact hcell
theorem OwnB.kept {base : Nat} {E : TypeId} {w w' : World} {v : Value} {l : List Int} (h : OwnB base E w v l) (hb : Below w.heap.size w w') : OwnB base E w' v l := by
  refine ⟨h.1, ?_⟩
  rcases h.2 with hn | ⟨g, cap, cur, rfl, hbg, hg, rest⟩
  · exact .inl hn
  · exact .inr ⟨g, cap, cur, rfl, hbg, (hb.block g (Array.getElem?_eq_some_iff.1 hg).1).trans hg, rest⟩
theorem RdB.src {w : World} {b o : Nat} {l : List Int} (h : ∀ i, i < l.length → w.cell? ⟨b, o + i, none⟩ = some (.int .u8 (ith l i))) :
    ∀ j u, (u8v l)[j]? = some u → w.cell? ((⟨b, o, none⟩ : Addr).add j) = some u := by
  intro j u hu
  have hj : j < l.length := by
    rcases Nat.lt_or_ge j l.length with h' | h'
    · exact h'
    · simp [u8v, List.getElem?_eq_none h'] at hu
  rw [u8v_get l j hj] at hu
  rw [addr_add, h j hj]; exact hu
set_option maxHeartbeats 1000000 in
theorem set10_world {w : World} {g : Nat} {a0 a1 a2 a3 a4 a5 a6 a7 a8 a9 x0 x1 x2 x3 x4 x5 x6 x7 x8 x9 : Value} {T : TypeId} (hg : w.heap[g]? = some (.cells #[a0, a1, a2, a3, a4, a5, a6, a7, a8, a9] T (0, 0))) :
    ((((((((((w.setCell ⟨g, 0, none⟩ x0).setCell ⟨g, 1, none⟩ x1).setCell ⟨g, 2, none⟩ x2).setCell ⟨g, 3, none⟩ x3).setCell ⟨g, 4, none⟩ x4).setCell ⟨g, 5, none⟩ x5).setCell ⟨g, 6, none⟩ x6).setCell ⟨g, 7, none⟩ x7).setCell ⟨g, 8, none⟩ x8).setCell ⟨g, 9, none⟩ x9) = w.setRow g #[x0, x1, x2, x3, x4, x5, x6, x7, x8, x9] := by
  have h := fun c => setRow_heap w g #[a0, a1, a2, a3, a4, a5, a6, a7, a8, a9] c T (0, 0) hg
  rw [setCell_eq hg]
  rw [setCell_eq (h _), setRow2 hg]
  rw [setCell_eq (h _), setRow2 hg]
  rw [setCell_eq (h _), setRow2 hg]
  rw [setCell_eq (h _), setRow2 hg]
  rw [setCell_eq (h _), setRow2 hg]
  rw [setCell_eq (h _), setRow2 hg]
  rw [setCell_eq (h _), setRow2 hg]
  rw [setCell_eq (h _), setRow2 hg]
  rw [setCell_eq (h _), setRow2 hg]
  simp only [List.setIfInBounds_toArray, List.set_cons_succ, List.set_cons_zero]
theorem ownB_setRow {base B : Nat} {E : TypeId} {w : World} {v : Value} {l : List Int} (h : OwnB base E w v l) {g : Nat} (hB : B ≤ base) (hg : g < base) (cs : Array Value) : OwnB B E (w.setRow g cs) v l := by
  refine ⟨h.1, ?_⟩
  rcases h.2 with hn | ⟨k, cap, cur, rfl, hbg, hk, rest⟩
  · exact .inl hn
  · exact .inr ⟨k, cap, cur, rfl, Nat.le_trans hB hbg, (setRow_other w g k cs (by omega)).trans hk, rest⟩
/-- A place at which the walk stops, so that facts on the new world can be laid. -/
def Stop (p : Prop) : Prop := p
theorem Stop.go {p : Prop} (h : p) : Stop p := h
theorem Stop.out {p : Prop} (h : Stop p) : p := h
theorem OwnB.below {base : Nat} {E : TypeId} {w w' : World} {v : Value} {l : List Int} (h : OwnB base E w v l) (hg : w.grownBy w' v.ownBlock) (hb : base ≤ w.heap.size) : Below base w w' :=
  Below.grown (Below.refl base w) hg hb (fun k hk => (World.ownsRow.lt h k hk).1)
theorem OwnB.mono {base B : Nat} {E : TypeId} {w : World} {v : Value} {l : List Int} (h : OwnB base E w v l) (hB : B ≤ base) : OwnB B E w v l := by
  refine ⟨h.1, ?_⟩
  rcases h.2 with hn | ⟨g, cap, cur, rfl, hbg, rest⟩
  · exact .inl hn
  · exact .inr ⟨g, cap, cur, rfl, Nat.le_trans hB hbg, rest⟩
section
variable {P : Program}
theorem run_appendB (w : World) (base : Nat) (t ty e : TypeId) (ht : P.underlying t = some (.slice e)) (hinfo : (P.info? e).map (fun i => (i.zero, i.size, i.bytes)) = some (some (.int .u8 0), 1, 1))
    (v : Value) (l : List Int) (hown : OwnB base e w v l) (sv : Value) (r : List Int) (hr : RdB w sv r) (hlen : l.length + r.length ≤ 140737488355328) (hbase : base ≤ w.heap.size) :
    ∃ v' w', (Builtin.append_ #[t, t] ty #[v, sv]).run P w = .ok v' w' ∧ OwnB base e w' v' (l ++ r) ∧ w.grownBy w' v.ownBlock := by
  obtain ⟨i, hi, hz, hs, hb⟩ := info_parts hinfo
  rcases hr with ⟨sa, sc, rfl, hsn, rfl⟩ | ⟨b, o, c, rfl, h1, h2, h3, h4⟩
  · cases sa with
    | some sa =>
      obtain ⟨v', w', hrun, ho, hg, _⟩ := run_append_own (P := P) w base t ty e i (.int .u8 0) 1 1 ht hi hz hs hb rfl (by omega) v l.length (u8v l) hown sa 0 sc (u8v [])
        (by rw [u8v_length]; rfl) (fun k x hx => by cases hx) (u8v_one []) (by unfold maxLen; simp at hlen ⊢; omega) (by simp at hlen ⊢; omega) hbase
      refine ⟨v', w', hrun, ?_, hg⟩
      unfold OwnB
      rw [List.append_nil]
      simpa [u8v] using ho
    | none =>
    obtain rfl := hsn rfl
    refine ⟨v, w, run_append_owned_none (P := P) (w := w) base t ty e i 1 ht hi v l.length (u8v l) hown, ?_, ⟨rfl, rfl, rfl, Nat.le_refl _, fun _ _ _ => rfl⟩⟩
    rw [List.append_nil]; exact hown
  · obtain ⟨v', w', hrun, ho, hg, _⟩ := run_append_own (P := P) w base t ty e i (.int .u8 0) 1 1 ht hi hz hs hb rfl (by omega) v l.length (u8v l) hown ⟨b, o, none⟩ r.length c (u8v r)
      (by rw [u8v_length]; omega) (RdB.src h4) (u8v_one r) (by unfold maxLen; omega) (by omega) hbase
    refine ⟨v', w', hrun, ?_, hg⟩
    unfold OwnB
    rw [List.length_append, u8v_append]; exact ho
theorem appendB {ops : Array Oper} {rest : List Oper} {o : Oper} {a : Act} {w : World} {Q : Exit → Act → World → Prop} (hgd : o.guard = none) (s x : Operand) (t : TypeId)
    (ho : o.op = .call { callee := .builtin .append, args := #[s, x], argTypes := #[t, t] })
    (base : Nat) (e : TypeId) (ht : P.underlying t = some (.slice e)) (hinfo : (P.info? e).map (fun i => (i.zero, i.size, i.bytes)) = some (some (.int .u8 0), 1, 1))
    (v : Value) (hs : a.eval s = v) (l : List Int) (hown : OwnB base e w v l) (sv : Value) (hx : a.eval x = sv) (r : List Int) (hr : RdB w sv r) (hlen : l.length + r.length ≤ 140737488355328) (hbase : base ≤ w.heap.size)
    (h : ∀ v' w', OwnB base e w' v' (l ++ r) → w.grownBy w' v.ownBlock → Stop (wpList P ops Q rest (a.put o.dst v') w')) : wpList P ops Q (o :: rest) a w := by
  refine wpList_plain hgd fun K hK => ?_
  obtain ⟨v', w', hrun, h2, h3⟩ := run_appendB (P := P) w base t o.type e ht hinfo v l hown sv r hr hlen hbase
  unfold Oper.wp execOp
  simp only [ho, resolve, invoke, builtin, Sem.run_bind, Sem.run_pure, Result.andThen_ok, List.map_toArray, List.map_cons, List.map_nil, hs, hx, hrun]
  exact hK _ _ (h v' w' h2 h3).out
theorem step_appendB {ops : Array Oper} {o : Oper} {a : Act} {w : World} {K : Act → World → Prop} {Q : Exit → Act → World → Prop} {E : Prop} (hgd : o.guard = none) (s x : Operand) (t : TypeId)
    (ho : o.op = .call { callee := .builtin .append, args := #[s, x], argTypes := #[t, t] })
    (base : Nat) (e : TypeId) (ht : P.underlying t = some (.slice e)) (hinfo : (P.info? e).map (fun i => (i.zero, i.size, i.bytes)) = some (some (.int .u8 0), 1, 1))
    (v : Value) (hs : a.eval s = v) (l : List Int) (hown : OwnB base e w v l) (sv : Value) (hx : a.eval x = sv) (r : List Int) (hr : RdB w sv r) (hlen : l.length + r.length ≤ 140737488355328) (hbase : base ≤ w.heap.size)
    (h : ∀ v' w', OwnB base e w' v' (l ++ r) → w.grownBy w' v.ownBlock → K (a.put o.dst v') w') :
    if Region.wanted o (yielded ops a.tmps) = true then Oper.wp P o a w K Q else E := by
  have hw : Region.wanted o (yielded ops a.tmps) = true := by simp [Region.wanted, hgd]
  rw [if_pos hw]
  obtain ⟨v', w', hrun, h2, h3⟩ := run_appendB (P := P) w base t o.type e ht hinfo v l hown sv r hr hlen hbase
  unfold Oper.wp execOp
  simp only [ho, resolve, invoke, builtin, Sem.run_bind, Sem.run_pure, Result.andThen_ok, List.map_toArray, List.map_cons, List.map_nil, hs, hx, hrun]
  exact h v' w' h2 h3
/-- 'make([]byte, l, c)', of numbers. -/
def zerosB (n : Nat) : List Int := List.replicate n 0
theorem zerosB_length (n : Nat) : (zerosB n).length = n := by simp [zerosB]
theorem madeCells_bytes (n : Nat) : madeCells #[Value.int .u8 0] n = u8s (zerosB n) := by
  apply Array.ext'
  rw [toList_madeCells_one]
  simp [u8s, zerosB]
theorem run_makeB (w : World) (t e : TypeId) (ht : P.underlying t = some (.slice e)) (hinfo : (P.info? e).map (fun i => (i.zero, i.size, i.bytes)) = some (some (.int .u8 0), 1, 1))
    (l c : Nat) (hlc : l ≤ c) (hc : c ≤ 140737488355328) :
    (Instr.makeSlice t (.int .i64 (l : Int)) (.int .i64 (c : Int))).run P w = .ok (.slice (some ⟨w.heap.size, 0, none⟩) l c) (w.alloc (.cells (u8s (zerosB c)) e)) := by
  obtain ⟨i, hi, hz, hs, hb⟩ := info_parts hinfo
  have h := run_make (P := P) w t e i (.int .u8 0) ht hi hz .i64 .i64 (l : Int) (c : Int) (by omega) (by omega) (by rw [hb]; omega) (by omega)
  rw [h, hs]
  simp only [Int.toNat_natCast, Nat.mul_one, Value.cells]
  rw [madeCells_bytes]
def overlay (cs : List Int) (off : Nat) (r : List Int) : List Int := cs.take off ++ (r ++ cs.drop (off + r.length))
theorem copyB {ops : Array Oper} {rest : List Oper} {o : Oper} {a : Act} {w : World} {Q : Exit → Act → World → Prop} (hgd : o.guard = none) (d s : Operand) (dT sT : TypeId)
    (ho : o.op = .call { callee := .builtin .copy, args := #[d, s], argTypes := #[dT, sT] }) (elem : TypeId) (hu : P.underlying dT = some (.slice elem)) (hsz : (P.info? elem).map (·.size) = some 1)
    (g off dLen dCap : Nat) (hd : a.eval d = .slice (some ⟨g, off, none⟩) dLen dCap) (sv : Value) (hs : a.eval s = sv) (r : List Int) (hr : RdB w sv r)
    (cs : List Int) (t : TypeId) (hg : w.heap[g]? = some (.cells (u8s cs) t (0, 0))) (hle : r.length ≤ dLen) (hfit : off + r.length ≤ cs.length)
    (h : ∀ w', Hid (w' = w.setRow g (u8s (overlay cs off r))) → Stop (wpList P ops Q rest (a.put o.dst (goInt r.length)) w')) : wpList P ops Q (o :: rest) a w := by
  have h := (h _ (show _ = _ from rfl)).out
  rcases hr with ⟨sa, sc, rfl, _, rfl⟩ | ⟨b, o', c, rfl, h1, h2, h3, h4⟩
  · refine wpList_copy_nothing hgd d s dT sT ho elem hu hsz _ _ _ _ _ _ hd hs (Nat.zero_min _) ?_
    have : w.setRow g (u8s (overlay cs off [])) = w := by
      have e : overlay cs off [] = cs := by simp [overlay]
      rw [e]; exact setRow_self w g _ t _ hg
    rw [this] at h; exact h
  · refine wpList_copy_own hgd d s dT sT ho elem hu hsz g off dLen dCap ⟨b, o', none⟩ r.length c hd hs (u8s cs) t hg (u8v r) (by rw [u8v_length]; exact (Nat.min_eq_left hle).symm) (RdB.src h4) (by rw [u8v_length, u8s_size]; exact hfit) (u8v_one r) ?_
    rw [u8v_length]
    have e : ((u8s cs).toList.take off ++ (u8v r ++ (u8s cs).toList.drop (off + r.length))).toArray = u8s (overlay cs off r) := by
      simp [u8s, u8v, overlay]
    rw [e]; exact h
end
end YtlbgffhipondiaaGreatDoor
end Go
namespace Go
namespace YtlbgffhipondiaaGreatDoor
open RowKit
theorem bcell {W w1 : World} (hb : Below W.heap.size W w1) : (∀ b o, b < W.heap.size → w1.cell? ⟨b, o, none⟩ = W.cell? ⟨b, o, none⟩) ∧ (∀ b o, b < W.heap.size → w1.frozen? ⟨b, o, none⟩ = W.frozen? ⟨b, o, none⟩) :=
  ⟨fun b o h => hb.cell (p := ⟨b, o, none⟩) h, fun b o h => hb.frozen (p := ⟨b, o, none⟩) h⟩
theorem run_sliceAt_low {P : Program} {t n elem : Nat} (ht : P.underlying t = some (.array n elem)) (hs : (P.info? elem).map (·.size) = some 1) (b lo : Nat) (hlo : lo < n) (w : World) :
    (Instr.sliceAt t (.pointer (some ⟨b, 0, none⟩)) (some (.int .i64 (lo : Int))) none none).run P w = .ok (.slice (some ⟨b, lo, none⟩) (n - lo) (n - lo)) w := by
  cases hq : P.info? elem with
  | none => simp [hq] at hs
  | some inf =>
    have h1 : inf.size = 1 := by simpa [hq] using hs
    have h2 : ¬ n = lo := by omega
    have h3 : (lo : Int) ≤ (n : Int) := by omega
    simp [Instr.sliceAt, run_underlying ht, Instr.sureAddr, Instr.sliceBounds, Instr.sliceBound, asIntOf, sizeOf, typeInfo, hq, h1, h2, Nat.le_of_lt hlo, addr_add]
theorem run_sliceAt_full {P : Program} {t n elem : Nat} (ht : P.underlying t = some (.array n elem)) (hs : (P.info? elem).map (·.size) = some 1) (b : Nat) (w : World) :
    (Instr.sliceAt t (.pointer (some ⟨b, 0, none⟩)) none none none).run P w = .ok (.slice (some ⟨b, 0, none⟩) n n) w := by
  cases hq : P.info? elem with
  | none => simp [hq] at hs
  | some inf =>
    simp [Instr.sliceAt, run_underlying ht, Instr.sureAddr, Instr.sliceBounds, sizeOf, typeInfo, hq]
    unfold Addr.add
    simp
set_option maxHeartbeats 1000000 in
theorem set8v_world {w : World} {g : Nat} {a0 a1 a2 a3 a4 a5 a6 a7 x0 x1 x2 x3 x4 x5 x6 x7 : Value} {T : TypeId} (hg : w.heap[g]? = some (.cells #[a0, a1, a2, a3, a4, a5, a6, a7] T (0, 0))) :
    ((((((((w.setCell ⟨g, 0, none⟩ x0).setCell ⟨g, 1, none⟩ x1).setCell ⟨g, 2, none⟩ x2).setCell ⟨g, 3, none⟩ x3).setCell ⟨g, 4, none⟩ x4).setCell ⟨g, 5, none⟩ x5).setCell ⟨g, 6, none⟩ x6).setCell ⟨g, 7, none⟩ x7) = w.setRow g #[x0, x1, x2, x3, x4, x5, x6, x7] := by
  have h := fun c => setRow_heap w g #[a0, a1, a2, a3, a4, a5, a6, a7] c T (0, 0) hg
  rw [setCell_eq hg]
  rw [setCell_eq (h _), setRow2 hg]
  rw [setCell_eq (h _), setRow2 hg]
  rw [setCell_eq (h _), setRow2 hg]
  rw [setCell_eq (h _), setRow2 hg]
  rw [setCell_eq (h _), setRow2 hg]
  rw [setCell_eq (h _), setRow2 hg]
  rw [setCell_eq (h _), setRow2 hg]
  simp only [List.setIfInBounds_toArray, List.set_cons_succ, List.set_cons_zero]
end YtlbgffhipondiaaGreatDoor
end Go
namespace Go
namespace YtlbgffhipondiaaGreatDoor
set_option linter.unusedVariables false
section
variable {P : Program} {ops : Array Oper} {md : Region.Mode} {C : World → Prop} {Q : Exit → Act → World → Prop} {n : Nat} {pl : List Nat}
def Closed (md : Region.Mode) (ops : Array Oper) (listed : Array Bool) : Prop :=
  listed.size = ops.size ∧ ∀ j oj, ops[j]? = some oj → listed.getD j false = true → ∀ e ∈ oj.after, Region.binds md e = true → listed.getD e.on false = true
theorem Closed.set {i : Nat} {listed : Array Bool} (inv : Closed md ops listed) (hi : i ∈ Region.ready md ops listed) : Closed md ops (listed.setIfInBounds i true) := by
  obtain ⟨_, oi, hoi, hall⟩ := mem_ready.1 hi
  refine ⟨by simp [inv.1], fun j oj hj hl e he hb => ?_⟩
  by_cases hij : i = j
  · subst hij
    have : oj = oi := Option.some.inj (hj.symm.trans hoi)
    subst this
    exact getD_set_true (hall e he hb)
  · rw [getD_set_ne false hij] at hl
    exact getD_set_true (inv.2 j oj hj hl e he hb)
/-- Every operation before 'n' but those of 'pl' is waited for by a later one that is not of 'pl', or by 'n'; from 'n' on each waits for the one before. -/
def sinkP (md : Region.Mode) (ops : Array Oper) (n : Nat) (pl : List Nat) : Bool :=
  (List.range n).all fun i => pl.contains i || (List.range (n + 1)).any fun j => decide (i < j) && !pl.contains j && Region.waitsFor md ops j i
theorem tail_done {listed : Array Bool} (hs : sinkP md ops n pl = true) (hc : Region.chainB md ops n = true) (inv : Closed md ops listed) {t : Nat} (ht : n ≤ t) (hr : t ∈ Region.ready md ops listed) :
    ∀ i, i < n → pl.contains i = false → listed.getD i false = true := by
  have deps : ∀ (d t : Nat), t - n = d → n ≤ t → (∀ o, ops[t]? = some o → ∀ e ∈ o.after, Region.binds md e = true → listed.getD e.on false = true) → ∃ ot, ops[t]? = some ot → True := fun _ _ _ _ _ => ⟨default, fun _ => trivial⟩
  have hn : ∀ (d t : Nat), t - n = d → n ≤ t → t < ops.size → (∀ o, ops[t]? = some o → ∀ e ∈ o.after, Region.binds md e = true → listed.getD e.on false = true) →
      ∀ o, ops[n]? = some o → ∀ e ∈ o.after, Region.binds md e = true → listed.getD e.on false = true := by
    intro d
    induction d with
    | zero =>
      intro t hd ht _ h
      have : t = n := by omega
      subst this; exact h
    | succ d ih =>
      intro t hd ht htl h
      have h1 := List.all_eq_true.1 hc t (List.mem_range.2 htl)
      simp only [Bool.or_eq_true, decide_eq_true_eq] at h1
      rcases h1 with h1 | h1
      · omega
      · obtain ⟨o', ho', e, he, hb, hon⟩ := Region.waitsFor_spec h1
        have h2 := h o' ho' e he hb
        rw [hon] at h2
        exact ih (t - 1) (by omega) (by omega) (by omega) fun o ho e he hb => inv.2 _ o ho h2 e he hb
  obtain ⟨_, ot, hot, hall⟩ := mem_ready.1 hr
  have htlt : t < ops.size := (Array.getElem?_eq_some_iff.1 hot).1
  have hN := hn _ t rfl ht htlt fun o ho e he hb => by
    have : o = ot := Option.some.inj (ho.symm.trans hot)
    subst this; exact hall e he hb
  intro i
  induction h : n - i using Nat.strongRecOn generalizing i with
  | _ d ih =>
    intro hi hp
    have h1 := List.all_eq_true.1 hs i (List.mem_range.2 hi)
    rw [hp, Bool.false_or] at h1
    obtain ⟨j, hj, hj2⟩ := List.any_eq_true.1 h1
    simp only [Bool.and_eq_true, decide_eq_true_eq, Bool.not_eq_true'] at hj2
    obtain ⟨oj, hoj, e, he, hb, hon⟩ := Region.waitsFor_spec hj2.2
    have hjle : j ≤ n := by have := List.mem_range.1 hj; omega
    by_cases hjn : j = n
    · subst hjn
      have := hN oj hoj e he hb
      rwa [hon] at this
    · have h3 := ih (n - j) (by omega) j rfl (by omega) hj2.1.2
      have := inv.2 j oj hoj h3 e he hb
      rwa [hon] at this
def wpHT (P : Program) (md : Region.Mode) (ops : Array Oper) (C : World → Prop) (n : Nat) (Q : Exit → Act → World → Prop) : Nat → Array Bool → Act → Prop
  | 0, listed, a => Region.ready md ops listed = [] ∧ ∀ w, C w → Q .normal a w
  | f + 1, listed, a => (Region.ready md ops listed = [] → ∀ w, C w → Q .normal a w) ∧
    ∀ i ∈ Region.ready md ops listed, (i < n → qOp P ops C i (wpHT P md ops C n Q f (listed.setIfInBounds i true)) a) ∧ (n ≤ i → ∀ w, C w → wpOp P ops Q i (wpAny P md ops Q f (listed.setIfInBounds i true)) a w)
theorem wpAny_of_HT : ∀ (f : Nat) (listed : Array Bool) (a : Act) (w : World), C w → wpHT P md ops C n Q f listed a → wpAny P md ops Q f listed a w
  | 0, _, _, w, hw, h => ⟨h.1, h.2 w hw⟩
  | f + 1, listed, a, w, hw, h => ⟨fun h0 => h.1 h0 w hw, fun i hi => by
      rcases Nat.lt_or_ge i n with hin | hin
      · exact wpOp_of_qOp hw (fun a' w' hw' h' => wpAny_of_HT f _ a' w' hw' h') ((h.2 i hi).1 hin)
      · exact (h.2 i hi).2 hin w hw⟩
theorem wpHT_of_any {f : Nat} {listed : Array Bool} {a : Act} (hr : ∀ i ∈ Region.ready md ops listed, n ≤ i) (h : ∀ w, C w → wpAny P md ops Q f listed a w) (hC : ∃ w, C w) : wpHT P md ops C n Q f listed a := by
  cases f with
  | zero => obtain ⟨w, hw⟩ := hC; exact ⟨(h w hw).1, fun w hw => (h w hw).2⟩
  | succ f => exact ⟨fun h0 w hw => (h w hw).1 h0, fun i hi => ⟨fun hin => absurd (hr i hi) (by omega), fun _ w hw => (h w hw).2 i hi⟩⟩
theorem wpHT_first {i : Nat} {oi : Oper} {v : Value} (hi : ops[i]? = some oi) (hin : i < n) (hsel : ∀ (j : Nat) (o : Oper) cs b, ops[j]? = some o → o.op ≠ .select cs b)
    (hs : sinkP md ops n pl = true) (hc : Region.chainB md ops n = true) (hQ : ∀ c a w, Q (.panic c) (a.put oi.dst v) w → Q (.panic c) a w) :
    ∀ (f : Nat) (listed : Array Bool) (a : Act), Closed md ops listed →
      (∀ j oj, ops[j]? = some oj → j ≠ i → listed.getD j true = false → (∀ e ∈ oj.after, Region.binds md e = true → e.on ≠ i) → oi.apart ops oj = true) →
      i ∈ Region.ready md ops listed → YieldsIn P ops C oi v a → (pl.contains i = true → Yields P ops oi v a) →
      wpHT P md ops C n Q f (listed.setIfInBounds i true) (a.put oi.dst v) → wpHT P md ops C n Q (f + 1) listed a := by
  intro f
  induction f with
  | zero =>
    intro listed a inv _ hr hy _ H
    refine ⟨fun h => (by rw [h] at hr; cases hr), fun j hj => ?_⟩
    by_cases hji : j = i
    · subst hji; exact ⟨fun _ => hy.qOp hi H, fun h => by omega⟩
    · have := ready_mono hj hji
      rw [H.1] at this
      cases this
  | succ f ih =>
    intro listed a inv hfree hr hy hp H
    have hun := (mem_ready.1 hr).1
    refine ⟨fun h => (by rw [h] at hr; cases hr), fun j hj => ?_⟩
    by_cases hji : j = i
    · subst hji; exact ⟨fun _ => hy.qOp hi H, fun h => by omega⟩
    · have h1 := H.2 j (ready_mono hj hji)
      obtain ⟨hjun, oj, hoj, hall⟩ := mem_ready.1 hj
      have hnot : ∀ e ∈ oj.after, Region.binds md e = true → e.on ≠ i := fun e he hb heq => by
        have h1 := hall e he hb
        rw [heq, getD_both hun] at h1
        cases h1
      have hap := hfree j oj hoj hji hjun hnot
      have hfree' : ∀ k ok, ops[k]? = some ok → k ≠ i → (listed.setIfInBounds j true).getD k true = false →
          (∀ e ∈ ok.after, Region.binds md e = true → e.on ≠ i) → oi.apart ops ok = true := fun k ok hk hki hun hno => by
        refine hfree k ok hk hki ?_ hno
        by_cases hjk : j = k
        · subst hjk; exact hjun
        · rw [getD_set_ne true hjk] at hun; exact hun
      refine ⟨fun hjn => ?_, fun hjn w hw => ?_⟩
      · have h2 := qOp_put hoj hap (fun cs b => hsel i oi cs b hi) (fun cs b => hsel j oj cs b hoj) hy (h1.1 hjn)
        by_cases hpc : pl.contains i = true
        · have h3 := qOp_put (C := C) (K := fun a' => wpHT P md ops C n Q f ((listed.setIfInBounds i true).setIfInBounds j true) a') hoj hap (fun cs b => hsel i oi cs b hi) (fun cs b => hsel j oj cs b hoj) hy (h1.1 hjn)
          refine qOp_mono (K := fun a' => (YieldsIn P ops C oi v a' ∧ Yields P ops oi v a') ∧ wpHT P md ops C n Q f ((listed.setIfInBounds i true).setIfInBounds j true) (a'.put oi.dst v)) (fun a' h4 => ih (listed.setIfInBounds j true) a' (inv.set hj) hfree' (ready_mono hr (Ne.symm hji)) h4.1.1 (fun _ => h4.1.2) ?_) ?_
          · rw [Array.setIfInBounds_comm _ _ hji]; exact h4.2
          · obtain ⟨q1, q2, q3⟩ := Oper.apart_spec hap
            have keep : ∀ u, Yields P ops oi v (a.put oj.dst u) := fun u => (hp hpc).of_same (execOp_put oi (fun cs b => hsel i oi cs b hi) a oj.dst u q3) (wanted_put oi a oj.dst u q3)
            unfold qOp at h3 ⊢
            simp only [hoj] at h3 ⊢
            split
            · rename_i hw
              simp only [hw, if_true] at h3
              obtain ⟨u, hu, h5, h6⟩ := h3
              exact ⟨u, hu, ⟨h5, keep u⟩, h6⟩
            · rename_i hw
              simp only [hw] at h3
              exact ⟨⟨h3.1, keep _⟩, h3.2⟩
        · refine qOp_mono (fun a' h3 => ih (listed.setIfInBounds j true) a' (inv.set hj) hfree' (ready_mono hr (Ne.symm hji)) h3.1 (fun h => absurd h hpc) ?_) h2
          rw [Array.setIfInBounds_comm _ _ hji]
          exact h3.2
      · by_cases hpc : pl.contains i = true
        · have h2 := wpOp_put hoj hap (fun cs b => hsel i oi cs b hi) (fun cs b => hsel j oj cs b hoj) hQ (hp hpc) (h1.2 hjn w hw)
          refine wpOp_mono (fun a' w' h3 => wpAny_first hi hsel hQ f (listed.setIfInBounds j true) a' w' hfree' (ready_mono hr (Ne.symm hji)) h3.1 ?_) h2
          rw [Array.setIfInBounds_comm _ _ hji]
          exact h3.2
        · have := tail_done hs hc inv hjn hj i hin (by simpa using hpc)
          rw [getD_both hun] at this
          cases this
/-- The walk of the head, in the order of the text. -/
def wpHead (P : Program) (ops : Array Oper) (C : World → Prop) (pl : List Nat) (K : Act → Prop) : Nat → List Oper → Act → Prop
  | _, [], a => K a
  | k, o :: rest, a => ∃ v, YieldsIn P ops C o v a ∧ (pl.contains k = true → Yields P ops o v a) ∧ wpHead P ops C pl K (k + 1) rest (a.put o.dst v)
theorem wpHT_lex {g : Nat} (hsel : Region.noSelect ops = true) (hs : sinkP md ops n pl = true) (hc : Region.chainB md ops n = true) (hQ : ∀ c a a' w, Q (.panic c) a w → Q (.panic c) a' w) (hC : ∃ w, C w) (hg : ops.size = n + g) :
    ∀ (l : List Oper) (k : Nat) (listed : Array Bool) (a : Act), (∀ j, j < l.length → l[j]? = ops[k + j]?) → k + l.length = n → Closed md ops listed →
    Region.lexHead md ops g l.length k listed = true → wpHead P ops C pl (fun a' => ∀ w', C w' → wpList P ops Q (ops.toList.drop n) a' w') k l a → wpHT P md ops C n Q (l.length + g) listed a
  | [], k, listed, a, _, hk, inv, hB, h => by
    have : k = n := by simpa using hk
    subst this
    have hB' : Region.seqB md ops g k listed = true := by simpa [Region.lexHead] using hB
    rw [List.length_nil, Nat.zero_add]
    refine wpHT_of_any (seqB_ready hB') (fun w hw => ?_) hC
    have hl : (ops.toList.drop k).length = g := by simp; omega
    have := wpAny_of_seq (md := md) (Q' := Q) (ops.toList.drop k) k listed a w (fun j => by simp [List.getElem?_drop]) (by rw [hl]; exact hB') (h w hw)
    rwa [hl] at this
  | o :: l, k, listed, a, hl, hk, inv, hB, h => by
    have h0 : ops[k]? = some o := by simpa using (hl 0 (by simp)).symm
    simp only [List.length_cons, Region.lexHead, Bool.and_eq_true] at hB
    obtain ⟨⟨hr, hf⟩, hB'⟩ := hB
    have hkn : k < n := by simp only [List.length_cons] at hk; omega
    have hr' : k ∈ Region.ready md ops listed := by simpa using hr
    obtain ⟨v, hy, hp, hK⟩ := h
    rw [show (o :: l).length + g = (l.length + g) + 1 by simp only [List.length_cons]; omega]
    exact wpHT_first h0 hkn (Region.noSelect_spec hsel) hs hc (fun c a w h => hQ _ _ _ _ h) (l.length + g) listed a inv (Region.free_spec h0 hf) hr' hy hp
      (wpHT_lex hsel hs hc hQ hC hg l (k + 1) _ _ (fun j hj => by have := hl (j + 1) (by simp; omega); simpa [Nat.add_assoc, Nat.add_comm 1 j] using this) (by simp only [List.length_cons] at hk; omega) (inv.set hr') hB' hK)
def headB (md : Region.Mode) (ops : Array Oper) (n : Nat) (pl : List Nat) : Bool :=
  Region.noSelect ops && decide (n < ops.size) && sinkP md ops n pl && Region.chainB md ops n && Region.lexHead md ops (ops.size - n) n 0 (Array.replicate ops.size false)
/-- **The head first**: the first 'n' operations are quiet in a class of worlds, those of 'pl' in every world; the others come one after the other. -/
theorem wp_region_head {id : Nat} {a : Act} {w : World} {l : List Oper} (n : Nat) (pl : List Nat) (hm : P.follows .mixedOrders = true) (hB : headB .any l.toArray n pl = true) (hQ : ∀ c a a' w, Q (.panic c) a w → Q (.panic c) a' w) (hC : C { w with drawn := w.drawn + 1 })
    (h : wpHead P l.toArray C pl (fun a' => ∀ w', C w' → wpList P l.toArray Q (l.drop n) a' w') 0 (l.take n) a) : (Code.region id l.toArray true).wp P Q a w := by
  simp only [headB, Bool.and_eq_true, decide_eq_true_eq] at hB
  obtain ⟨⟨⟨⟨hsel, hn⟩, hs⟩, hc⟩, hlex⟩ := hB
  have hn' : n < l.length := by simpa using hn
  have htl : (l.take n).length = n := by simp; omega
  have inv0 : Closed .any l.toArray (Array.replicate l.toArray.size false) := ⟨by simp, fun j oj _ hl => (by rw [getD_replicate_false] at hl; cases hl)⟩
  have H := wpHT_lex (md := .any) (g := l.toArray.size - n) hsel hs hc hQ ⟨_, hC⟩ (by omega) (l.take n) 0 _ a (fun j hj => by
    have hj' : j < n := by rw [htl] at hj; exact hj
    simp [hj']) (by simpa using htl) inv0 (by rw [htl]; exact hlex) h
  rw [htl, show n + (l.toArray.size - n) = l.toArray.size by omega] at H
  exact wp_region_any hm (wpAny_of_HT _ _ _ _ hC H)
/-- The same, the region being shown not to panic. -/
theorem wp_region_headN {id : Nat} {a : Act} {w : World} {l : List Oper} (n : Nat) (pl : List Nat) (hm : P.follows .mixedOrders = true) (hB : headB .any l.toArray n pl = true) (hC : C { w with drawn := w.drawn + 1 })
    (h : wpHead P l.toArray C pl (fun a' => ∀ w', C w' → wpList P l.toArray (NoPanic Q) (l.drop n) a' w') 0 (l.take n) a) : (Code.region id l.toArray true).wp P Q a w :=
  wp_region_noPanic (wp_region_head n pl hm hB (fun _ _ _ _ h => h) hC h)
theorem drewN_next (w : World) (n : Nat) : ({ w.drewN n with drawn := (w.drewN n).drawn + 1 } : World) = w.drewN (n + 1) := by
  show (w.drewN n).drewN 1 = _
  rw [World.drewN_drewN]
theorem run_move {o : Oper} {a : Act} {v : Value} (x : Operand) (ho : o.op = .move x) (hx : a.eval x = v) : ∀ w, (execOp a.eval o).run P w = .ok (.value v) w := by
  intro w; subst hx; unfold execOp; simp [ho, go_sem]
/-- A callee's contract in a second quiet region. -/
theorem quiet_of2 {f : FuncId} {args : Array Value} {w : World} {a n : Nat} {v : Value}
    (h : Calls P f args (w.drewN (a + n)) fun e w' => e = .returned v ∧ ∃ m, w' = (w.drewN (a + n)).drewN m) : Calls P f args (w.drewN (a + n)) fun e w'' => e = .returned v ∧ ∃ m, w'' = w.drewN (a + m) :=
  h.mono fun _ _ ⟨he, m, hm⟩ => ⟨he, n + m, by rw [hm, World.drewN_drewN, Nat.add_assoc]⟩
/-- One operation of the head. -/
theorem head_step {K : Act → Prop} {k : Nat} {o : Oper} {rest : List Oper} {a : Act} {D : Option Tmp} (v : Value) (hw : Region.wanted o (yielded ops a.tmps) = true) (h1 : ∀ w, C w → o.quietAt P a C w v) (hp : pl.contains k = false) (hD : o.dst = D)
    (h2 : ∀ K' : Act → Prop, (∀ a, wpHead P ops C pl K (k + 1) rest a → K' a) → K' (a.put D v)) : wpHead P ops C pl K k (o :: rest) a := by
  subst hD
  exact ⟨v, .inl ⟨hw, h1⟩, fun h => (by rw [hp] at h; cases h), h2 _ fun _ h => h⟩
theorem head_pure {K : Act → Prop} {k : Nat} {o : Oper} {rest : List Oper} {a : Act} {D : Option Tmp} (v : Value) (hw : Region.wanted o (yielded ops a.tmps) = true) (h1 : ∀ w, (execOp a.eval o).run P w = .ok (.value v) w) (hD : o.dst = D)
    (h2 : ∀ K' : Act → Prop, (∀ a, wpHead P ops C pl K (k + 1) rest a → K' a) → K' (a.put D v)) : wpHead P ops C pl K k (o :: rest) a := by
  subst hD
  exact ⟨v, .inl ⟨hw, fun w _ => by unfold Oper.quietAt; rw [h1 w]; exact ⟨rfl, rfl⟩⟩, fun _ => .inl ⟨hw, h1⟩, h2 _ fun _ h => h⟩
/-- One operation, what follows behind a variable: for a walk by 'go_simp'. -/
theorem head_walk {K : Act → Prop} {k : Nat} {o : Oper} {rest : List Oper} {a : Act} (hp : pl.contains k = false)
    (h : ∀ K' : Act → Prop, (∀ a, wpHead P ops C pl K (k + 1) rest a → K' a) → if Region.wanted o (yielded ops a.tmps) then o.quiet P a C K' else K' (a.put o.dst undef)) : wpHead P ops C pl K k (o :: rest) a := by
  have h := h _ (fun _ h => h)
  by_cases hw : Region.wanted o (yielded ops a.tmps) = true
  · rw [if_pos hw] at h
    obtain ⟨v, h1, h2⟩ := h
    exact ⟨v, .inl ⟨hw, h1⟩, fun h => (by rw [hp] at h; cases h), h2⟩
  · rw [if_neg hw] at h
    exact ⟨undef, .inr ⟨by simpa using hw, rfl⟩, fun _ => .inr ⟨by simpa using hw, rfl⟩, h⟩
theorem head_nil {K : Act → Prop} {k : Nat} {a : Act} (h : K a) : wpHead P ops C pl K k [] a := h
end
end YtlbgffhipondiaaGreatDoor
end Go
namespace Go
namespace YtlbgffhipondiaaGreatDoor
open RowKit
def cmpF : List Int → List Int → Int
  | [], [] => 0
  | [], _ :: _ => -1
  | _ :: _, [] => 1
  | a :: as', b :: bs => if a < b then -1 else if b < a then 1 else cmpF as' bs
theorem bytes_tail {a : Int} {l : List Int} (h : Bytes (a :: l)) : (0 ≤ a ∧ a < 256) ∧ Bytes l := by
  refine ⟨by simpa [ith] using h 0, fun i => by simpa [ith] using h (i + 1)⟩
theorem toU8_lt (a b : Int) (ha : 0 ≤ a ∧ a < 256) (hb : 0 ≤ b ∧ b < 256) : (a.toNat.toUInt8 < b.toNat.toUInt8) ↔ a < b := by
  rw [UInt8.lt_iff_toNat_lt]
  have h1 : a.toNat.toUInt8.toNat = a.toNat := by simp; omega
  have h2 : b.toNat.toUInt8.toNat = b.toNat := by simp; omega
  rw [h1, h2]; omega
theorem compareBytes_eq : ∀ (a b : List Int), Bytes a → Bytes b → Lib.compareBytes (Lib.bytesOf a) (Lib.bytesOf b) = cmpF a b
  | [], [], _, _ => rfl
  | [], _ :: _, _, _ => rfl
  | _ :: _, [], _, _ => rfl
  | a :: as', b :: bs, ha, hb => by
    obtain ⟨a0, a1⟩ := bytes_tail ha
    obtain ⟨b0, b1⟩ := bytes_tail hb
    have h := compareBytes_eq as' bs a1 b1
    have e1 : Lib.bytesOf (a :: as') = a.toNat.toUInt8 :: Lib.bytesOf as' := rfl
    have e2 : Lib.bytesOf (b :: bs) = b.toNat.toUInt8 :: Lib.bytesOf bs := rfl
    rw [e1, e2]
    simp only [Lib.compareBytes, cmpF, toU8_lt a b a0 b0, toU8_lt b a b0 a0, h]
theorem RdB.load {P : Program} {w : World} {v : Value} {l : List Int} (h : RdB w v l) : (Extern.Bytes.bytesOf v).run P w = .ok ⟨(Lib.bytesOf l).toArray⟩ w := by
  rcases h with ⟨sa, sc, rfl, hsn, rfl⟩ | ⟨b, o, c, rfl, h1, h2, h3, h4⟩
  · cases sa with
    | none => obtain rfl := hsn rfl; rfl
    | some sa => rfl
  · have h := Lib.run_loadBytesX (P := P) (w := w) l ⟨b, o, none⟩ .empty (fun j x hx => by
      have hj : j < l.length := by
        rcases Nat.lt_or_ge j l.length with h' | h'
        · exact h'
        · rw [List.getElem?_eq_none h'] at hx; cases hx
      have : ith l j = x := by simp [ith, hx]
      rw [addr_add, h4 j hj, this])
    change (Extern.Bytes.loadBytes _ _ _).run P w = _
    rw [h]
    simp
theorem run_compareB {P : Program} {w : World} {va vb : Value} {a b : List Int} (ha : RdB w va a) (hb : RdB w vb b) (h1 : Bytes a) (h2 : Bytes b) :
    (Extern.BytealgCompare.compare #[va, vb]).run P w = .ok (.int .i64 (cmpF a b)) w := by
  change Sem.run P (do pure (goInt (Extern.BytealgCompare.cmp (← Extern.Bytes.bytesOf va) (← Extern.Bytes.bytesOf vb)))) w = _
  simp only [Sem.run_bind, ha.load, hb.load, Result.andThen, Sem.run_pure, Lib.cmp_eq]
  rw [compareBytes_eq a b h1 h2]
  rfl
def nthL (L : List (List Int)) (i : Nat) : List Int := L[i]?.getD []
/-- The value 'v' is a slice of slices of bytes that reads as' 'L'. -/
def RdL (w : World) (v : Value) (L : List (List Int)) : Prop :=
  (v = .slice none 0 0 ∧ L = []) ∨ ∃ b o c, v = .slice (some ⟨b, o, none⟩) L.length c ∧ L.length ≤ c ∧ c ≤ maxLen ∧ b < w.heap.size ∧ ∀ i, i < L.length → ∃ s, w.cell? ⟨b, o + i, none⟩ = some s ∧ RdB w s (nthL L i)
theorem RdL.mono {w w' : World} {v : Value} {L : List (List Int)} (h : RdL w v L) (hb : Below w.heap.size w w') : RdL w' v L := by
  rcases h with h | ⟨b, o, c, hv, h1, h2, h3, h4⟩
  · exact .inl h
  · refine .inr ⟨b, o, c, hv, h1, h2, Nat.lt_of_lt_of_le h3 hb.size, fun i hi => ?_⟩
    obtain ⟨s, hs, hr⟩ := h4 i hi
    exact ⟨s, (hb.cell (p := (⟨b, o + i, none⟩ : Addr)) h3).trans hs, hr.mono hb⟩
theorem RdL.slice {w : World} {v : Value} {L : List (List Int)} (h : RdL w v L) : ∃ a c, v = .slice a L.length c := by
  rcases h with ⟨rfl, rfl⟩ | ⟨b, o, c, hv, _⟩
  · exact ⟨none, 0, rfl⟩
  · exact ⟨_, c, hv⟩
def flatN (L : List (List Int)) : Nat → List Int
  | 0 => []
  | k + 1 => flatN L k ++ nthL L k
theorem flatN_all (L : List (List Int)) : flatN L L.length = L.flatten := by
  have h : ∀ k, k ≤ L.length → flatN L k = (L.take k).flatten := by
    intro k hk
    induction k with
    | zero => simp [flatN]
    | succ k ih =>
      rw [flatN, ih (by omega), List.take_succ_eq_append_getElem (by omega), List.flatten_append]
      simp [nthL, List.getElem?_eq_getElem (show k < L.length by omega)]
  rw [h _ (Nat.le_refl _), List.take_length]
theorem flatN_bytes (L : List (List Int)) (h : ∀ i, Bytes (nthL L i)) (k : Nat) : Bytes (flatN L k) := by
  induction k with
  | zero => exact bytes_nil
  | succ k ih => exact bytes_append _ _ ih (h k)
theorem flatN_length (L : List (List Int)) (h : ∀ i, (nthL L i).length ≤ 10000) (k : Nat) : (flatN L k).length ≤ 10000 * k := by
  induction k with
  | zero => simp [flatN]
  | succ k ih => rw [flatN, List.length_append]; have := h k; omega
end YtlbgffhipondiaaGreatDoor
end Go
namespace Go.Proofs.YtlbgffhipondiaaGreatDoor
open Go.RowKit Go.YtlbgffhipondiaaGreatDoor
set_option linter.unusedVariables false
theorem quiet_row {P : Program} {C : World → Prop} {o : Oper} {a : Act} (ty : TypeId) (x : Operand) (ho : o.op = .load ty x) (g : Nat) (hx : a.eval x = .pointer (some ⟨g, 0, none⟩)) (t : TypeId) (cs : Array Value) (fr : Nat × Nat) (d : TypeDesc)
    (hC : ∀ w, C w → w.heap[g]? = some (.cells cs t fr)) (hu : P.underlying ty = some d) (hd : (match d with | .struct _ | .array _ _ => true | _ => false) = true) (hi : (P.info? ty).map (·.size) = some cs.size) :
    ∀ w, C w → o.quietAt P a C w (.agg cs) := by
  intro w hw
  unfold Oper.quietAt execOp
  simp only [ho, hx, Instr.loadAt, Instr.sureAddr, Sem.run_bind, Sem.run_pure, Result.andThen_ok, run_loadVar_row w g t ty cs fr d (hC w hw) hu hd hi]
  exact ⟨rfl, rfl⟩
theorem quiet_call2 {P : Program} {C : World → Prop} {o : Oper} {a : Act} {f : FuncId} {fn : Func} {c : Code} {x y : Operand} {T : Array TypeId} (ho : o.op = .call { callee := .value (.func f), args := #[x, y], argTypes := T })
    (hf : P.funcs[f]? = some fn) (hname : (fn.name == "runtime.NumGoroutine") = false) (hb : fn.body = some c) (u1 u2 v : Value) (h1 : a.eval x = u1) (h2 : a.eval y = u2) (h3 : a.eval (.func f) = .func (.func f) #[] #[])
    (hc : ∀ w, C w → Calls P f #[u1, u2] w fun e w' => e = .returned v ∧ C w') : ∀ w, C w → o.quietAt P a C w v := by
  intro w hw
  have hn : fn.name ≠ "runtime.NumGoroutine" := by simpa using hname
  unfold Oper.quietAt execOp
  generalize a.eval = ev at *
  have hr : (callFunc f #[u1, u2]).run P w = .ok (.enter f #[u1, u2]) w := by simp [callFunc, hf, hn, hb]
  simp only [ho]
  simp [go_sem, h1, h2, h3]
  rw [hr]
  exact ⟨rfl, hc w hw⟩
theorem wpList_load_row_g {P : Program} {ops : Array Oper} {rest : List Oper} {o : Oper} {a : Act} {w : World} {Q : Exit → Act → World → Prop} (hw : Region.wanted o (yielded ops a.tmps) = true) (ty : TypeId) (x : Operand) (ho : o.op = .load ty x)
    (g : Nat) (hx : a.eval x = .pointer (some ⟨g, 0, none⟩)) (t : TypeId) (cs : Array Value) (fr : Nat × Nat) (d : TypeDesc) (hg : w.heap[g]? = some (.cells cs t fr))
    (hu : P.underlying ty = some d) (hd : (match d with | .struct _ | .array _ _ => true | _ => false) = true) (hi : (P.info? ty).map (·.size) = some cs.size)
    (h : wpList P ops Q rest (a.put o.dst (.agg cs)) w) : wpList P ops Q (o :: rest) a w :=
  wpList_step fun K hK => by rw [if_pos hw]; exact wp_load_row ty x ho g hx t cs fr d hg hu hd hi (hK _ _ h)
end Go.Proofs.YtlbgffhipondiaaGreatDoor
namespace Go.Proofs.YtlbgffhipondiaaGreatDoor
open Go.RowKit Go.YtlbgffhipondiaaGreatDoor
set_option linter.unusedVariables false
section
variable {P : Program} {ops : Array Oper} {C : World → Prop} {Q : Act → Prop} {o : Oper} {rest : List Oper} {a : Act}
theorem wpq {D : Option Tmp} (v : Value) (hw : Region.wanted o (yielded ops a.tmps) = true) (h1 : ∀ w, C w → o.quietAt P a C w v) (hD : o.dst = D) (h2 : ∀ K : Act → Prop, (∀ a, wpQuiet P ops C Q rest a → K a) → K (a.put D v)) : wpQuiet P ops C Q (o :: rest) a := by
  subst hD
  unfold wpQuiet
  rw [if_pos hw]
  exact ⟨v, h1, h2 _ fun _ h => h⟩
theorem qa_ok {w : World} {v : Value} (h : (execOp a.eval o).run P w = .ok (.value v) w) : o.quietAt P a C w v := by
  unfold Oper.quietAt; rw [h]; exact ⟨rfl, rfl⟩
theorem qa_call {T : Array TypeId} {f : FuncId} {fn : Func} {c : Code} {xs : Array Operand} {us : Array Value} {v : Value} (ho : o.op = .call { callee := .value (.func f), args := xs, argTypes := T })
    (hf : P.funcs[f]? = some fn) (hname : (fn.name == "runtime.NumGoroutine") = false) (hb : fn.body = some c) (hx : xs.map a.eval = us) (h3 : a.eval (.func f) = .func (.func f) #[] #[])
    (hc : ∀ w, C w → Calls P f us w fun e w' => e = .returned v ∧ C w') : ∀ w, C w → o.quietAt P a C w v := by
  intro w hw
  have hn : fn.name ≠ "runtime.NumGoroutine" := by simpa using hname
  unfold Oper.quietAt execOp
  generalize a.eval = ev at *
  have hr : (callFunc f us).run P w = .ok (.enter f us) w := by simp [callFunc, hf, hn, hb]
  simp only [ho]
  simp [go_sem, hx, h3]
  rw [hr]
  exact ⟨rfl, hc w hw⟩
theorem qa_call1 {T : Array TypeId} {f : FuncId} {fn : Func} {c : Code} {x : Operand} (u1 : Value) {v : Value} (ho : o.op = .call { callee := .value (.func f), args := #[x], argTypes := T })
    (hf : P.funcs[f]? = some fn) (hname : (fn.name == "runtime.NumGoroutine") = false) (hb : fn.body = some c) (h1 : a.eval x = u1) (h4 : a.eval (.func f) = .func (.func f) #[] #[])
    (hc : ∀ w, C w → Calls P f #[u1] w fun e w' => e = .returned v ∧ C w') : ∀ w, C w → o.quietAt P a C w v :=
  qa_call ho hf hname hb (by subst h1; simp) h4 hc
end
end Go.Proofs.YtlbgffhipondiaaGreatDoor
namespace Go.Proofs.YtlbgffhipondiaaGreatDoor
open Go.RowKit Go.YtlbgffhipondiaaGreatDoor
set_option linter.unusedVariables false
theorem cmp_range : ∀ a b : List Int, cmpF a b = -1 ∨ cmpF a b = 0 ∨ cmpF a b = 1
  | [], [] => .inr (.inl rfl)
  | [], _ :: _ => .inl rfl
  | _ :: _, [] => .inr (.inr rfl)
  | a :: as', b :: bs => by
    unfold cmpF
    split
    · exact .inl rfl
    · split
      · exact .inr (.inr rfl)
      · exact cmp_range as' bs
theorem cmp_anti : ∀ a b : List Int, cmpF b a = - cmpF a b
  | [], [] => rfl
  | [], _ :: _ => rfl
  | _ :: _, [] => rfl
  | a :: as', b :: bs => by
    have h := cmp_anti as' bs
    unfold cmpF
    by_cases h1 : a < b
    · rw [if_neg (by omega), if_pos h1, if_pos h1]; rfl
    · by_cases h2 : b < a
      · rw [if_pos h2, if_neg h1, if_pos h2]
      · rw [if_neg h2, if_neg h1, if_neg h1, if_neg h2, h]
theorem cmp_self : ∀ a : List Int, cmpF a a = 0
  | [] => rfl
  | a :: as' => by
    unfold cmpF
    rw [if_neg (by omega), if_neg (by omega)]; exact cmp_self as'
theorem cmp_zero : ∀ a b : List Int, cmpF a b = 0 → a = b
  | [], [], _ => rfl
  | [], _ :: _, h => by simp [cmpF] at h
  | _ :: _, [], h => by simp [cmpF] at h
  | a :: as', b :: bs, h => by
    unfold cmpF at h
    by_cases h1 : a < b
    · rw [if_pos h1] at h; omega
    · by_cases h2 : b < a
      · rw [if_neg h1, if_pos h2] at h; omega
      · rw [if_neg h1, if_neg h2] at h
        rw [cmp_zero as' bs h, show a = b by omega]
theorem cmp_trans : ∀ a b c : List Int, cmpF a b ≤ 0 → cmpF b c ≤ 0 → cmpF a c ≤ 0
  | [], _, [], _, _ => by simp [cmpF]
  | [], _, _ :: _, _, _ => by simp [cmpF]
  | _ :: _, [], _, h, _ => by simp [cmpF] at h
  | _ :: _, _ :: _, [], _, h => by simp [cmpF] at h
  | a :: as', b :: bs, c :: cs, h, g => by
    unfold cmpF at h g ⊢
    by_cases h1 : a < b
    · by_cases g1 : b < c
      · rw [if_pos (by omega)]; omega
      · by_cases g2 : c < b
        · rw [if_neg g1, if_pos g2] at g; omega
        · rw [if_pos (by omega)]; omega
    · by_cases h2 : b < a
      · rw [if_neg h1, if_pos h2] at h; omega
      · rw [if_neg h1, if_neg h2] at h
        by_cases g1 : b < c
        · rw [if_pos (by omega)]; omega
        · by_cases g2 : c < b
          · rw [if_neg g1, if_pos g2] at g; omega
          · rw [if_neg g1, if_neg g2] at g
            rw [if_neg (by omega), if_neg (by omega)]
            exact cmp_trans as' bs cs h g
theorem cmp_less : ∀ (k : Nat) (a b : List Int), k < a.length → k < b.length → (∀ j, j < k → ith b j = ith a j) → ith a k < ith b k → cmpF a b = -1
  | _, [], _, h, _, _, _ => by simp at h
  | _, _ :: _, [], _, h, _, _ => by simp at h
  | 0, a :: as', b :: bs, _, _, _, h => by
    unfold cmpF
    rw [if_pos (by simpa [ith] using h)]
  | k + 1, a :: as', b :: bs, h1, h2, h3, h4 => by
    have e : b = a := by simpa [ith] using h3 0 (by omega)
    unfold cmpF
    rw [if_neg (by omega), if_neg (by omega)]
    exact cmp_less k as' bs (by simpa using h1) (by simpa using h2) (fun j hj => by simpa [ith] using h3 (j + 1) (by omega)) (by simpa [ith] using h4)
end Go.Proofs.YtlbgffhipondiaaGreatDoor
namespace Go.Proofs.YtlbgffhipondiaaGreatDoor
open Go.ChangeShapes Go.WideShapes Go.ChangeAt Go.WideMaps Go.WideElems Go.RowKit Go.YtlbgffhipondiaaGreatDoor
set_option linter.unusedVariables false
theorem own : ownKnob Tryz.prog.godebug = none := by kernel_rfl
theorem laidOut : laidOutB Tryz.prog = true := by kernel_rfl
theorem gFirst : Tryz.prog.globalNamed "braid/digest.firstWords" = some 0 := by kernel_rfl
theorem gConst : Tryz.prog.globalNamed "braid/digest.constants" = some 2 := by kernel_rfl
theorem tFirst : (Tryz.prog.globals[0]?).map (·.type) = some 178 := by kernel_rfl
theorem tConst : (Tryz.prog.globals[2]?).map (·.type) = some 242 := by kernel_rfl
def laidL : List (String × DataW Unit) := [("braid/digest.firstWords", Rows.laid_braid_digest_firstWords), ("braid/digest.constants", Rows.laid_braid_digest_constants)]
section
variable {H : Type} {enc : TypeId × Value → H} {P : Program} {w : World} {base : Nat} {sp : Nat → Bool} {held : Bool}
def theInt : Value → Int
  | .int _ k => k
  | _ => 0
theorem trod_ints {fuel : Nat} {t e : TypeId} {n : Nat} {kd : IntKind} {cs : List Value} {x : DataW H × List MemPlace} (ht : P.underlying t = some (.array n e)) (he : P.underlying e = some (.int kd)) (hc : P.cellsOf e = 1) (hct : P.cellsOf t = n)
    (h : DataW.trod enc P w base sp held fuel t cs = some x) : ∃ ks : List Int, cs = ks.map (Value.int kd) ∧ ks.length = n ∧ (∀ k ∈ ks, (Lit.int kd k).wf = true) ∧ x.1 = .agg (ks.map fun k => .lit (.int kd k)) := by
  obtain ⟨xs, m, rfl, rfl, hl, hn, hel⟩ := DataW.trod_array ht h
  have hlen : cs.length = n := hl.trans hct
  have key : ∀ i, i < n → ∃ k, cs[i]? = some (.int kd k) ∧ (Lit.int kd k).wf = true ∧ xs[i]? = some (.lit (.int kd k), []) := by
    intro i hi
    have hx : xs[i]? = some xs[i] := List.getElem?_eq_getElem (by omega)
    have h1 := hel i hi
    rw [hc, Nat.mul_one, hx] at h1
    obtain ⟨k, e1, e2, e3⟩ := DataW.trod_int he h1
    refine ⟨k, ?_, e3, by rw [hx, e2]⟩
    have e4 : ((cs.drop i).take 1)[0]? = some (.int kd k) := by rw [e1]; rfl
    simpa [List.getElem?_take, List.getElem?_drop] using e4
  refine ⟨cs.map theInt, ?_, by simp [hlen], ?_, ?_⟩
  · apply List.ext_getElem?
    intro i
    by_cases hi : i < n
    · obtain ⟨k, e1, _, _⟩ := key i hi
      simp [e1, theInt]
    · rw [List.getElem?_eq_none (by omega), List.getElem?_eq_none (by simp; omega)]
  · intro k hk
    obtain ⟨i, hi, rfl⟩ := List.getElem_of_mem hk
    have hi' : i < n := by simpa [hlen] using hi
    obtain ⟨k, e1, e2, _⟩ := key i hi'
    have : (cs.map theInt)[i]? = some k := by simp [e1, theInt]
    rw [List.getElem?_eq_getElem hi] at this
    rw [Option.some.inj this]; exact e2
  · show DataW.agg _ = DataW.agg _
    congr 1
    apply List.ext_getElem?
    intro i
    by_cases hi : i < n
    · obtain ⟨k, e1, _, e3⟩ := key i hi
      simp [e1, e3, theInt]
    · rw [List.getElem?_eq_none (by simp; omega), List.getElem?_eq_none (by simp; omega)]
theorem trodAll_stays (hl : laidOutB P = true) {W W' : World} {sp' : Nat → Bool} : ∀ {ts : List TypeId} {vs : List Value} {ds : List (DataW H)} {ps : List MemPlace}, (∀ t ∈ ts, P.readableRec t = true ∧ t < P.types.size) →
    DataW.TrodAll enc P W base (fun _ => true) true ts vs ds ps → (∀ p ∈ ps, W.sameAt W' p) → (∀ p ∈ ps, sp' p.block = true) → DataW.TrodAll enc P W' base sp' true ts vs ds ps
  | [], [], [], _, _, h, _, _ => h
  | [], [], _ :: _, _, _, h, _, _ => h.elim
  | [], _ :: _, _, _, _, h, _, _ => by cases ‹List (DataW H)› <;> exact h.elim
  | _ :: _, [], _, _, _, h, _, _ => by cases ‹List (DataW H)› <;> exact h.elim
  | _ :: _, _ :: _, [], _, _, h, _, _ => h.elim
  | t :: ts, v :: vs, d :: ds, ps, ht, h, hs, hp => by
    obtain ⟨p, q, h1, h2, rfl⟩ := h
    obtain ⟨r1, r2⟩ := ht t List.mem_cons_self
    exact ⟨p, q, Trod_stays hl r1 r2 h1 (fun x hx => hs x (List.mem_append_left _ hx)) (fun x hx => hp x (List.mem_append_left _ hx)),
      trodAll_stays hl (fun u hu => ht u (List.mem_cons_of_mem _ hu)) h2 (fun x hx => hs x (List.mem_append_right _ hx)) (fun x hx => hp x (List.mem_append_right _ hx)), rfl⟩
/-- A law's end: true, in a world whose old memory is as' it was. -/
theorem law_post {f : Func} {s : ChangeSpec} {apart fresh handsOn : Bool} {W W' : World} {args : Array Value} {v : Value} {ds gs : List (DataW H)} {before : List MemPlace} (hl : laidOutB P = true)
    (hts : ∀ t ∈ f.params.toList, P.readableRec t = true ∧ t < P.types.size) (hvs : varsRowed P s.vars = true)
    (hW : DataW.Whole enc P f.params.toList s.vars apart W args.toList ds gs before) (hb : Below W.heap.size W W')
    (hres : ∀ (b : Nat) (sp : Nat → Bool) (hd : Bool), DataW.TrodAll enc P W' b sp hd f.resultTypes.toList (v.resultList f.resultTypes.size) (s.fn H (ds ++ gs)).results [])
    (hargs : (s.fn H (ds ++ gs)).args = ds) (hvars : (s.fn H (ds ++ gs)).vars = gs) :
    s.post enc P f apart fresh handsOn false W args v W' := by
  have hW2 := hW
  have hlt : ∀ p ∈ before, p.block < W.heap.size := fun p hp => hW.lt p hp
  obtain ⟨p, q, hA, hV, rfl, hfz, hnd⟩ := hW
  refine ⟨ds, gs, p ++ q, [], p, q, hW2, hres _ _ _, ?_, ?_, hb.frame _, fun h => by cases h⟩
  · rw [hargs]
    exact trodAll_stays hl hts hA (fun x hx => hb.same (hlt x (List.mem_append_left _ hx))) (fun x hx => by simpa using hlt x (List.mem_append_left _ hx))
  · rw [hvars]
    exact Below.trodVars hl hb hvs hV
end
theorem u32s_of {cs : Array Value} {ks : List Int} (h : cs.toList = ks.map (Value.int .u32)) : cs = u32s ks := by
  apply Array.toList_inj.1
  rw [h]; simp [u32s]
theorem lits_inj : ∀ {a b : List Int}, (a.map fun k => (DataW.lit (.int .u32 k) : DataW Unit)) = b.map (fun k => .lit (.int .u32 k)) → a = b
  | [], [], _ => rfl
  | [], _ :: _, h => by simp at h
  | _ :: _, [], h => by simp at h
  | a :: xs, b :: ys, h => by
    simp only [List.map_cons, List.cons.injEq, DataW.lit.injEq, Lit.int.injEq, true_and] at h
    rw [h.1, lits_inj h.2]
theorem bytes_of {ks : List Int} (h : ∀ k ∈ ks, (Lit.int .u8 k).wf = true) : Bytes ks := by
  intro i
  unfold ith
  cases e : ks[i]? with
  | none => simp
  | some k =>
    have h2 := h k (List.mem_of_getElem? e)
    have h3 : 0 ≤ k ∧ k ≤ 255 := by simpa [Lit.wf, IntKind.min, IntKind.max, IntKind.signed, IntKind.bits] using h2
    show 0 ≤ k ∧ k < 256
    omega
/-- What the condition on the listed variables gives the walks. -/
theorem of_laid {W : World} (h : laidMetH Tryz.prog laidL W) : ∃ Tg Tf : TypeId, W.heap[2]? = some (.cells (u32s constW) Tg (0, 0)) ∧ W.heap[0]? = some (.cells firstW.cells Tf (0, 0)) := by
  rw [MakeChecks.laidMetH_plain _ _ _ (by kernel_rfl)] at h
  obtain ⟨ps, ⟨g0, t0, cs0, f0, p0, q0, hg0, ht0, hv0, hd0, ⟨g1, t1, cs1, f1, p1, q1, hg1, ht1, hv1, hd1, _, eq1⟩, eq0⟩, _, hm⟩ := h
  obtain rfl := Option.some.inj (gFirst.symm.trans hg0)
  obtain rfl := Option.some.inj (gConst.symm.trans hg1)
  obtain rfl := Option.some.inj (tFirst.symm.trans ht0)
  obtain rfl := Option.some.inj (tConst.symm.trans ht1)
  obtain ⟨k0, a0, l0, _, x0⟩ := trod_ints Tryz.underlying178 Tryz.underlying25 (by kernel_rfl) (by kernel_rfl) hd0
  obtain ⟨k1, a1, l1, _, x1⟩ := trod_ints Tryz.underlying242 Tryz.underlying25 (by kernel_rfl) (by kernel_rfl) hd1
  have c0 := u32s_of a0
  have c1 := u32s_of a1
  have d0 : k0 = firstW.list := lits_inj (DataW.agg.inj (x0.symm.trans rfl))
  have d1 : k1 = constW := lits_inj (DataW.agg.inj (x1.symm.trans rfl))
  have z0 : cs0.size = 8 := by rw [c0]; simpa [u32s] using l0
  have z1 : cs1.size = 64 := by rw [c1]; simpa [u32s] using l1
  have m0 := (hm 0 0 (by rw [eq0]; exact List.mem_append_left _ (List.mem_append_left _ (MemPlace.mem_row.2 ⟨0, by omega, rfl⟩)))).1
  have m1 := (hm 2 0 (by rw [eq0, eq1]; exact List.mem_append_right _ (List.mem_append_left _ (List.mem_append_left _ (MemPlace.mem_row.2 ⟨0, by omega, rfl⟩))))).1
  obtain ⟨e0, T0, m0⟩ := m0
  obtain ⟨e1, T1, m1⟩ := m1
  unfold World.var? at hv0 hv1
  rw [gFirst] at hv0
  rw [gConst] at hv1
  simp only [Option.bind_some, m0, m1, Option.some.injEq] at hv0 hv1
  refine ⟨T1, T0, ?_, ?_⟩
  · rw [m1, hv1, c1, d1]
  · rw [m0, hv0, c0, d0]; rfl
/-- The door's own heap meets the condition. -/
theorem door_met (os : Os) (args : Array Value) : laidMetH Tryz.prog laidL ((World.doorLaid Tryz.prog 400 os).forCall (fun _ _ => 0) ⟨#[], args, []⟩).memory :=
  laidMetH_of_parts3 (fuel := 8) (laidMet_of_run' 8 (by kernel_rfl) (by kernel_rfl)) (by kernel_rfl) (by kernel_rfl)
end Go.Proofs.YtlbgffhipondiaaGreatDoor
namespace Go.Proofs.YtlbgffhipondiaaGreatDoor
open Go.ChangeShapes Go.WideShapes Go.ChangeAt Go.WideMaps Go.WideElems Go.RowKit Go.YtlbgffhipondiaaGreatDoor
set_option linter.unusedVariables false
section
variable {H : Type} {enc : TypeId × Value → H} {P : Program} {W : World}
end
end Go.Proofs.YtlbgffhipondiaaGreatDoor
namespace Go
namespace YtlbgffhipondiaaGreatDoor
theorem ith_ext {a b : List Int} (h : a.length = b.length) (h2 : ∀ i, i < a.length → ith a i = ith b i) : a = b := by
  apply List.ext_getElem h
  intro i h1 h3
  have := h2 i h1
  simpa [ith, h1, h3] using this
theorem bytes_mk_cons {x : Int} {l : List Int} (hx : 0 ≤ x ∧ x < 256) (h : Bytes l) : Bytes (x :: l) := by
  intro i
  cases i with
  | zero => simpa [ith] using hx
  | succ i => have := h i; simpa [ith] using this
/-- How many bytes a number has behind its first one. -/
def ks (n : Nat) : Nat := (Lib.bitLen n + 7) / 8
theorem pow256 (k : Nat) : 256 ^ k = 2 ^ (8 * k) := by rw [Nat.pow_mul]
theorem ks_bounds (n : Nat) (h0 : n ≠ 0) (h : n < 18446744073709551616) : 1 ≤ ks n ∧ ks n ≤ 8 ∧ 256 ^ (ks n - 1) ≤ n ∧ n < 256 ^ ks n := by
  obtain ⟨a, b, c⟩ := Lib.bitLenAux_bounds 64 n h h0
  have hL : Lib.bitLenAux 64 n ≤ 64 := Lib.bitLen_le n 64 (Nat.le_refl _) h
  unfold ks Lib.bitLen
  generalize Lib.bitLenAux 64 n = L at a b c hL ⊢
  refine ⟨by omega, by omega, ?_, ?_⟩
  · rw [pow256]; exact Nat.le_trans (Nat.pow_le_pow_right (by decide) (by omega)) b
  · rw [pow256]; exact Nat.lt_of_lt_of_le c (Nat.pow_le_pow_right (by decide) (by omega))
/-- The lowest k bytes of a number, the highest one first. -/
def be (k n : Nat) : List Int := (List.range k).map fun i => ((n / 256 ^ (k - 1 - i) % 256 : Nat) : Int)
theorem be_length (k n : Nat) : (be k n).length = k := by simp [be]
theorem ith_be (k n i : Nat) (h : i < k) : ith (be k n) i = ((n / 256 ^ (k - 1 - i) % 256 : Nat) : Int) := by
  simp [ith, be, h]
theorem be_bytes (k n : Nat) : Bytes (be k n) := by
  intro i
  rcases Nat.lt_or_ge i k with h | h
  · rw [ith_be k n i h]; omega
  · rw [ith_over _ _ (by rw [be_length]; exact h)]; omega
theorem be_succ (k n : Nat) : be (k + 1) n = ((n / 256 ^ k % 256 : Nat) : Int) :: be k n := by
  apply ith_ext
  · simp [be_length]
  · intro i hi
    rw [be_length] at hi
    rw [ith_be _ _ _ hi]
    cases i with
    | zero => simp [ith]
    | succ i =>
      have : ith (((n / 256 ^ k % 256 : Nat) : Int) :: be k n) (i + 1) = ith (be k n) i := by simp [ith]
      have e : k + 1 - 1 - (i + 1) = k - 1 - i := by omega
      rw [this, ith_be _ _ _ (by omega), e]
/-- The bytes of a number. -/
def numB (n : Nat) : List Int := if n ≤ 247 then [(n : Int)] else (247 + (ks n : Int)) :: be (ks n) n
def numL (n : Nat) : Nat := if n ≤ 247 then 1 else 1 + ks n
theorem numB_length (n : Nat) : (numB n).length = numL n := by
  unfold numB numL; split
  · rfl
  · simp [be_length]; omega
theorem numL_le (n : Nat) (h : n < 18446744073709551616) : numL n ≤ 9 := by
  unfold numL; split
  · omega
  · have := ks_bounds n (by omega) h; omega
theorem numB_bytes (n : Nat) (h : n < 18446744073709551616) : Bytes (numB n) := by
  unfold numB; split
  · exact bytes_one _ (by omega)
  · have := ks_bounds n (by omega) h
    exact bytes_mk_cons (by omega) (be_bytes _ _)
/-- The fold of a number with a sign, and back. -/
def foldN (n : Int) : Nat := if n < 0 then (-2 * n - 1).toNat else (2 * n).toNat
theorem fold_lt (n : Int) (h : -9223372036854775808 ≤ n ∧ n ≤ 9223372036854775807) : foldN n < 18446744073709551616 := by
  unfold foldN; split <;> omega
/-- The lowest bytes of a number, the lowest one first. -/
def le : Nat → Nat → List Int
  | 0, _ => []
  | k + 1, n => le k n ++ [((n / 256 ^ k % 256 : Nat) : Int)]
theorem le_length (k n : Nat) : (le k n).length = k := by
  induction k with
  | zero => rfl
  | succ k ih => simp [le, ih]
theorem ith_le (k n i : Nat) (h : i < k) : ith (le k n) i = ((n / 256 ^ i % 256 : Nat) : Int) := by
  induction k with
  | zero => omega
  | succ k ih =>
    rw [le, ith_append, le_length]
    split
    · rename_i h1; exact ih h1
    · rw [ith_single, if_pos (by omega)]
      have : i = k := by omega
      rw [this]
theorem take_succ_ith (l : List Int) (k : Nat) (h : k < l.length) : l.take (k + 1) = l.take k ++ [ith l k] := by
  rw [List.take_succ_eq_append_getElem h]; simp [ith, h]
theorem div_pos_iff (n j : Nat) (h0 : n ≠ 0) (h : n < 18446744073709551616) : 0 < n / 256 ^ j ↔ j < ks n := by
  obtain ⟨k1, k8, kl, kh⟩ := ks_bounds n h0 h
  have hp : 0 < 256 ^ j := Nat.pow_pos (by decide)
  constructor
  · intro h1
    rcases Nat.lt_or_ge j (ks n) with h2 | h2
    · exact h2
    · have h3 : 256 ^ ks n ≤ 256 ^ j := Nat.pow_le_pow_right (by decide) h2
      rw [Nat.div_eq_of_lt (by omega)] at h1
      omega
  · intro h1
    have h3 : 256 ^ j ≤ 256 ^ (ks n - 1) := Nat.pow_le_pow_right (by decide) (by omega)
    exact Nat.div_pos (by omega) hp
theorem div_step (n j : Nat) : n / 256 ^ j / 256 = n / 256 ^ (j + 1) := by rw [Nat.pow_succ, Nat.div_div_eq_div_mul]
end YtlbgffhipondiaaGreatDoor
end Go
namespace Go.Proofs
open Go.Shelf
def Tryz.lays129_ren : Go.Shelf.Ren := ⟨fun | 129 => 193 | n => n, fun | 53 => 27 | 3 => 3 | 4 => 4 | 46 => 184 | 5 => 5 | 9 => 9 | n => n, fun | n => n⟩
theorem Tryz.lays129 : Go.Proofs.Lays.n129 Tryz.prog Tryz.lays129_ren := {
  mixed := by kernel_rfl
  f129 := Tryz.func193.trans (congrArg some (by kernel_rfl))
  t3 := Tryz.underlying3
  a3 := Tryz.isAgg3
  z3 := Tryz.sizeOf3
  v3 := Tryz.zeroValue3
  t4 := Tryz.underlying4
  a4 := Tryz.isAgg4
  z4 := Tryz.sizeOf4
  v4 := Tryz.zeroValue4
  t5 := Tryz.underlying5
  a5 := Tryz.isAgg5
  z5 := Tryz.sizeOf5
  v5 := Tryz.zeroValue5
  t9 := Tryz.underlying9
  a9 := Tryz.isAgg9
  z9 := Tryz.sizeOf9
  v9 := Tryz.zeroValue9
  t46 := Tryz.underlying184
  a46 := Tryz.isAgg184
  z46 := Tryz.sizeOf184
  v46 := Tryz.zeroValue184
  t53 := Tryz.underlying27
  a53 := Tryz.isAgg27
  z53 := Tryz.sizeOf27
  v53 := Tryz.zeroValue27 }
/-- bits.Len64: "Len64 returns the minimum number of bits required to represent x; the result is 0 for x == 0.": IT RETURNS 'Lib.bitLen x'; the world is as' it was. ('h0', 'h1': x is a uint64.) (LAID: no walk: one application.) -/
theorem Tryz.bits_Len64 (x : Int) (w : World) (h0 : 0 ≤ x) (h1 : x ≤ 18446744073709551615) :
    Calls Tryz.prog 193 #[.int .u64 x] w fun e w' => e = .returned (.int .i64 (Lib.bitLen x.toNat)) ∧ w' = w := Any.bits_Len64 Tryz.lays129 x w h0 h1
end Go.Proofs

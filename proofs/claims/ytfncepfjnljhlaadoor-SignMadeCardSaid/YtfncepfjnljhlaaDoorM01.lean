/- Plain mathematics of layer 1: rounds of SHA-256 over integers in 0 .. 2^32 - 1. No program. -/
import Derived.WalkKit
namespace Go
namespace YtfncepfjnljhlaaDoor
def In32 (x : Int) : Prop := 0 ≤ x ∧ x < 4294967296
def ith (l : List Int) (i : Nat) : Int := l[i]?.getD 0
def u32s (l : List Int) : Array Value := (l.map (Value.int .u32)).toArray
def u8s (l : List Int) : Array Value := (l.map (Value.int .u8)).toArray
theorem u32s_get (l : List Int) (k : Nat) (h : k < l.length) : (u32s l)[k]? = some (.int .u32 (ith l k)) := by
  simp [u32s, h, ith]
theorem u32s_size (l : List Int) : (u32s l).size = l.length := by simp [u32s]
theorem u8s_get (l : List Int) (k : Nat) (h : k < l.length) : (u8s l)[k]? = some (.int .u8 (ith l k)) := by
  simp [u8s, h, ith]
theorem u8s_size (l : List Int) : (u8s l).size = l.length := by simp [u8s]
/-- The word turned right by n, as both programs reckon it. -/
def rotr (x : Int) (n : Int) : Int := bits .or .u32 (x * 2 ^ (32 - n.toNat) % 4294967296) (x / 2 ^ n.toNat)
structure V8 where
  (a b c d e f g h : Int)
def V8.ok (v : V8) : Prop := In32 v.a ∧ In32 v.b ∧ In32 v.c ∧ In32 v.d ∧ In32 v.e ∧ In32 v.f ∧ In32 v.g ∧ In32 v.h
def pOf (v : V8) (k w : Int) : Int :=
  (v.h + bits BinOp.xor IntKind.u32 (bits BinOp.xor IntKind.u32 (rotr v.e 6) (rotr v.e 11)) (rotr v.e 25) +
    bits BinOp.xor IntKind.u32 (bits BinOp.and IntKind.u32 v.e v.f) (bits BinOp.and IntKind.u32 (bits BinOp.xor IntKind.u32 IntKind.u32.max v.e) v.g) + k + w) % 4294967296
def qOf (v : V8) : Int :=
  (bits BinOp.xor IntKind.u32 (bits BinOp.xor IntKind.u32 (rotr v.a 2) (rotr v.a 13)) (rotr v.a 22) +
    bits BinOp.xor IntKind.u32 (bits BinOp.xor IntKind.u32 (bits BinOp.and IntKind.u32 v.a v.b) (bits BinOp.and IntKind.u32 v.a v.c)) (bits BinOp.and IntKind.u32 v.b v.c)) % 4294967296
def shaStep (v : V8) (k w : Int) : V8 :=
  ⟨(pOf v k w + qOf v) % 4294967296, v.a, v.b, v.c, (v.d + pOf v k w) % 4294967296, v.e, v.f, v.g⟩
def rounds (c w : List Int) (v : V8) : Nat → V8
  | 0 => v
  | k + 1 => shaStep (rounds c w v k) (ith c k) (ith w k)
theorem mod_in32 (x : Int) : In32 (x % 4294967296) := by unfold In32; omega
theorem shaStep_ok (v : V8) (k w : Int) (h : v.ok) : (shaStep v k w).ok := by
  obtain ⟨ha, hb, hc, hd, he, hf, hg, hh⟩ := h
  exact ⟨mod_in32 _, ha, hb, hc, mod_in32 _, he, hf, hg⟩
theorem rounds_ok (c w : List Int) (v : V8) (k : Nat) (hv : v.ok) : (rounds c w v k).ok := by
  induction k with
  | zero => exact hv
  | succ k ih => exact shaStep_ok _ _ _ ih
def V8.add (x y : V8) : V8 :=
  ⟨(x.a + y.a) % 4294967296, (x.b + y.b) % 4294967296, (x.c + y.c) % 4294967296, (x.d + y.d) % 4294967296, (x.e + y.e) % 4294967296, (x.f + y.f) % 4294967296, (x.g + y.g) % 4294967296, (x.h + y.h) % 4294967296⟩
theorem V8.add_ok (x y : V8) : (x.add y).ok := ⟨mod_in32 _, mod_in32 _, mod_in32 _, mod_in32 _, mod_in32 _, mod_in32 _, mod_in32 _, mod_in32 _⟩
def V8.cells (v : V8) : Array Value := #[.int .u32 v.a, .int .u32 v.b, .int .u32 v.c, .int .u32 v.d, .int .u32 v.e, .int .u32 v.f, .int .u32 v.g, .int .u32 v.h]
def V8.list (v : V8) : List Int := [v.a, v.b, v.c, v.d, v.e, v.f, v.g, v.h]
theorem V8.cells_list (v : V8) : v.cells = u32s v.list := rfl
def addN (l m : List Int) : Nat → List Int
  | 0 => l
  | k + 1 => (addN l m k).set k ((ith (addN l m k) k + ith m k) % 4294967296)
theorem addN_length (l m : List Int) (k : Nat) : (addN l m k).length = l.length := by
  induction k with
  | zero => rfl
  | succ k ih => simp [addN, ih]
theorem addN_eight (x y : V8) : addN x.list y.list 8 = (x.add y).list := rfl
theorem u32s_set (l : List Int) (k : Nat) (x : Int) : (u32s l).setIfInBounds k (.int .u32 x) = u32s (l.set k x) := by
  simp [u32s, List.map_set]
theorem u8s_set (l : List Int) (k : Nat) (x : Int) : (u8s l).setIfInBounds k (.int .u8 x) = u8s (l.set k x) := by
  simp [u8s, List.map_set]
theorem u32s_one (l : List Int) : (u32s l).all (·.oneCell') = true := by simp [u32s, Value.oneCell']
theorem u8s_one (l : List Int) : (u8s l).all (·.oneCell') = true := by simp [u8s, Value.oneCell']
theorem cells8 {w : World} {g : Nat} {V : V8} {T : TypeId} (h : w.heap[g]? = some (.cells (u32s V.list) T (0, 0))) : w.cell? ⟨g, 0, none⟩ = some (.int .u32 V.a) ∧ w.cell? ⟨g, 1, none⟩ = some (.int .u32 V.b) ∧ w.cell? ⟨g, 2, none⟩ = some (.int .u32 V.c) ∧ w.cell? ⟨g, 3, none⟩ = some (.int .u32 V.d) ∧ w.cell? ⟨g, 4, none⟩ = some (.int .u32 V.e) ∧ w.cell? ⟨g, 5, none⟩ = some (.int .u32 V.f) ∧ w.cell? ⟨g, 6, none⟩ = some (.int .u32 V.g) ∧ w.cell? ⟨g, 7, none⟩ = some (.int .u32 V.h) := by
  refine ⟨?_, ?_, ?_, ?_, ?_, ?_, ?_, ?_⟩ <;> (rw [cell_of_row _ _ _ _ _ _ h]; rfl)
theorem frozen8 {w : World} {g : Nat} {V : V8} {T : TypeId} (h : w.heap[g]? = some (.cells (u32s V.list) T (0, 0))) : w.frozen? ⟨g, 0, none⟩ = false ∧ w.frozen? ⟨g, 1, none⟩ = false ∧ w.frozen? ⟨g, 2, none⟩ = false ∧ w.frozen? ⟨g, 3, none⟩ = false ∧ w.frozen? ⟨g, 4, none⟩ = false ∧ w.frozen? ⟨g, 5, none⟩ = false ∧ w.frozen? ⟨g, 6, none⟩ = false ∧ w.frozen? ⟨g, 7, none⟩ = false := by
  refine ⟨?_, ?_, ?_, ?_, ?_, ?_, ?_, ?_⟩ <;> exact frozen_of_row _ _ _ _ _ h
/-- The words 16 .. 63, one behind the other. -/
def sig0 (x : Int) : Int := bits BinOp.xor IntKind.u32 (bits BinOp.xor IntKind.u32 (rotr x 7) (rotr x 18)) (x / 8)
def sig1 (x : Int) : Int := bits BinOp.xor IntKind.u32 (bits BinOp.xor IntKind.u32 (rotr x 17) (rotr x 19)) (x / 1024)
def nextW (l : List Int) : Int := (ith l (l.length - 16) + ith l (l.length - 7) + sig0 (ith l (l.length - 15)) + sig1 (ith l (l.length - 2))) % 4294967296
def extW (l : List Int) : Nat → List Int
  | 0 => l
  | n + 1 => extW l n ++ [nextW (extW l n)]
def word4 (a b c d : Int) : Int := a * 16777216 + b * 65536 + c * 256 + d
def wordsOf (b : List Int) : Nat → List Int
  | 0 => []
  | n + 1 => wordsOf b n ++ [word4 (ith b (4 * n)) (ith b (4 * n + 1)) (ith b (4 * n + 2)) (ith b (4 * n + 3))]
def spreadF (b : List Int) : List Int := extW (wordsOf b 16) 48
def Bytes (l : List Int) : Prop := ∀ i, 0 ≤ ith l i ∧ ith l i < 256
theorem wordsOf_length (b : List Int) (n : Nat) : (wordsOf b n).length = n := by
  induction n with
  | zero => rfl
  | succ n ih => simp [wordsOf, ih]
theorem extW_length (l : List Int) (n : Nat) : (extW l n).length = l.length + n := by
  induction n with
  | zero => rfl
  | succ n ih => simp [extW, ih]; omega
theorem spreadF_length (b : List Int) : (spreadF b).length = 64 := by simp [spreadF, extW_length, wordsOf_length]
def All32 (l : List Int) : Prop := ∀ i, In32 (ith l i)
theorem ith_append (l m : List Int) (i : Nat) : ith (l ++ m) i = if i < l.length then ith l i else ith m (i - l.length) := by
  unfold ith
  split
  · rename_i h; rw [List.getElem?_append_left h]
  · rename_i h; rw [List.getElem?_append_right (by omega)]
theorem ith_single (x : Int) (i : Nat) : ith [x] i = if i = 0 then x else 0 := by
  unfold ith; cases i <;> simp
theorem ith_over (l : List Int) (i : Nat) (h : l.length ≤ i) : ith l i = 0 := by simp [ith, List.getElem?_eq_none h]
theorem all32_snoc (l : List Int) (x : Int) (h : All32 l) (hx : In32 x) : All32 (l ++ [x]) := by
  intro i; rw [ith_append]
  split
  · exact h i
  · rw [ith_single]; split
    · exact hx
    · exact ⟨by omega, by omega⟩
theorem word4_in (a b c d : Int) (ha : 0 ≤ a ∧ a < 256) (hb : 0 ≤ b ∧ b < 256) (hc : 0 ≤ c ∧ c < 256) (hd : 0 ≤ d ∧ d < 256) : In32 (word4 a b c d) := by
  unfold word4 In32; omega
theorem wordsOf_in (b : List Int) (hb : Bytes b) (n : Nat) : All32 (wordsOf b n) := by
  induction n with
  | zero => intro i; simp [wordsOf, ith, In32]
  | succ n ih => exact all32_snoc _ _ ih (word4_in _ _ _ _ (hb _) (hb _) (hb _) (hb _))
theorem extW_in (l : List Int) (hl : All32 l) (n : Nat) : All32 (extW l n) := by
  induction n with
  | zero => exact hl
  | succ n ih => exact all32_snoc _ _ ih (mod_in32 _)
theorem spreadF_in (b : List Int) (hb : Bytes b) : All32 (spreadF b) := extW_in _ (wordsOf_in b hb 16) 48
def constW : List Int := [1116352408, 1899447441, 3049323471, 3921009573, 961987163, 1508970993, 2453635748, 2870763221, 3624381080, 310598401, 607225278, 1426881987, 1925078388, 2162078206, 2614888103, 3248222580, 3835390401, 4022224774, 264347078, 604807628, 770255983, 1249150122, 1555081692, 1996064986, 2554220882, 2821834349, 2952996808, 3210313671, 3336571891, 3584528711, 113926993, 338241895, 666307205, 773529912, 1294757372, 1396182291, 1695183700, 1986661051, 2177026350, 2456956037, 2730485921, 2820302411, 3259730800, 3345764771, 3516065817, 3600352804, 4094571909, 275423344, 430227734, 506948616, 659060556, 883997877, 958139571, 1322822218, 1537002063, 1747873779, 1955562222, 2024104815, 2227730452, 2361852424, 2428436474, 2756734187, 3204031479, 3329325298]
def firstW : V8 := ⟨1779033703, 3144134277, 1013904242, 2773480762, 1359893119, 2600822924, 528734635, 1541459225⟩
theorem firstW_ok : firstW.ok := by simp [V8.ok, firstW, In32]
/-- One block ground into v. -/
def groundF (v : V8) (b : List Int) : V8 := v.add (rounds constW (spreadF b) v 64)
theorem groundF_ok (v : V8) (b : List Int) : (groundF v b).ok := V8.add_ok _ _
def lenS : Value → Nat | .slice _ n _ => n | _ => 0
/-- The value 'v' is a slice that reads as the bytes 'l' in the world 'w'. -/
def RdB (w : World) (v : Value) (l : List Int) : Prop :=
  (∃ a c, v = .slice a 0 c ∧ (a = none → c = 0) ∧ l = []) ∨ ∃ b o c, v = .slice (some ⟨b, o, none⟩) l.length c ∧ l.length ≤ c ∧ c ≤ maxLen ∧ b < w.heap.size ∧ ∀ i, i < l.length → w.cell? ⟨b, o + i, none⟩ = some (.int .u8 (ith l i))
theorem RdB.mono {w w' : World} {v : Value} {l : List Int} (h : RdB w v l) (hb : RowKit.Below w.heap.size w w') : RdB w' v l := by
  rcases h with h | ⟨b, o, c, hv, h1, h2, h3, h4⟩
  · exact .inl h
  · exact .inr ⟨b, o, c, hv, h1, h2, Nat.lt_of_lt_of_le h3 hb.size, fun i hi => by rw [hb.cell (p := (⟨b, o + i, none⟩ : Addr)) h3]; exact h4 i hi⟩
theorem RdB.slice {w : World} {v : Value} {l : List Int} (h : RdB w v l) : ∃ a c, v = .slice a l.length c := by
  rcases h with ⟨a, c, rfl, _, rfl⟩ | ⟨b, o, c, hv, _⟩
  · exact ⟨a, c, rfl⟩
  · exact ⟨_, c, hv⟩
end YtfncepfjnljhlaaDoor
end Go

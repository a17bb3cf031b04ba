/- Texts that the row stands on, part 0. -/
import Derived.WalkKit
import Derived.WalkSpells
import Derived.WalkLawsBesides
import Derived.Lib.Hide
import Derived.Deep.QuietTactic
import Derived.Laws.CopyOwn
import Derived.Deep.WholeRow
import Derived.Lib.ItoaNum
import Derived.Laws.AppendOwnNone
import Derived.Deep.RegionLaw
import Derived.Deep.Quiet
import Derived.StillTail
import Derived.Deep.RegionHeld3
import Derived.Lib.BytesEntry
import Derived.Lib.Bytealg
import Derived.Shelf.Strconv.Itoa0
import Derived.Test.YtfaojjleapenaabProg
import Derived.Test.YtfaojjleapenaabRows
import Derived.ProofKit
import Derived.Laws.Bits64
import Derived.BigQuiet
import Derived.Handy
import Derived.StillTailTactics
import Derived.Deep.DeepCutAuto
namespace Go
namespace Ytfaojjleapenaab
section
variable {P : Program}
theorem hp1 (w : World) (o1 : Obj) (k : Nat) (hk : k < w.heap.size) : (w.alloc o1).heap[k]? = w.heap[k]? := RowKit.Below.heap_alloc w o1 k hk
theorem hn2 (w : World) (o1 o2 : Obj) : ((w.alloc o1).alloc o2).heap[w.heap.size + 1]? = some o2 := heap_alloc2_new w o1 o2
end
end Ytfaojjleapenaab
end Go
namespace Go
namespace Ytfaojjleapenaab
theorem ret_bool {a b : Bool} (h : a = b) : Ending.returned (.bool a) = .returned (.bool b) := by rw [h]
theorem ret_int {k : IntKind} {a b : Int} (h : a = b) : Ending.returned (.int k a) = .returned (.int k b) := by rw [h]
/-- 'b' is 'a' after some draws. -/
def Draws (a b : World) : Prop := ∃ n, b = a.drewN n
theorem Draws.refl (a : World) : Draws a a := ⟨0, rfl⟩
theorem Draws.drewN {a b : World} (h : Draws a b) (n : Nat) : Draws a (b.drewN n) := by
  obtain ⟨m, rfl⟩ := h; exact ⟨m + n, by rw [World.drewN_drewN]⟩
theorem Draws.heap {a b : World} (h : Draws a b) : b.heap = a.heap := by obtain ⟨m, rfl⟩ := h; rfl
theorem Draws.cell {a b : World} (h : Draws a b) (p : Addr) : b.cell? p = a.cell? p := by obtain ⟨m, rfl⟩ := h; rfl
theorem Draws.below {a b w : World} {B : Nat} (h : Draws a b) (hb : RowKit.Below B w a) : RowKit.Below B w b := by obtain ⟨m, rfl⟩ := h; exact ⟨hb.os, hb.tape, hb.output, hb.size, hb.block⟩
end Ytfaojjleapenaab
end Go
namespace Go
namespace Ytfaojjleapenaab
/-- What became of the row 'g', and that no other block turned. -/
theorem setCell_row {w : World} {g : Nat} {cs : Array Value} {t : TypeId} (hg : w.heap[g]? = some (.cells cs t (0, 0))) (i : Nat) (v : Value) :
    (w.setCell ⟨g, i, none⟩ v).heap[g]? = some (.cells (cs.setIfInBounds i v) t (0, 0)) := heap_setCell_same w g i cs t v hg
theorem setCell_rows {w : World} (g i : Nat) (v : Value) (k : Nat) (h : k ≠ g) : (w.setCell ⟨g, i, none⟩ v).heap[k]? = w.heap[k]? := heap_setCell_other w ⟨g, i, none⟩ k v h
theorem setCell_eq {w : World} {g : Nat} {cs : Array Value} {t : TypeId} (hg : w.heap[g]? = some (.cells cs t (0, 0))) (i : Nat) (v : Value) :
    w.setCell ⟨g, i, none⟩ v = w.setRow g (cs.setIfInBounds i v) := by
  unfold World.setCell World.setRow
  congr 1
  apply Array.ext_getElem?
  intro k
  rw [Array.getElem?_modify, Array.getElem?_modify]
  by_cases h : g = k
  · subst h; simp [hg]
  · simp [h]
theorem below_setRow' {B g : Nat} {w0 w : World} (hb : RowKit.Below B w0 w) (hBg : B ≤ g) (cs : Array Value) : RowKit.Below B w0 (w.setRow g cs) := below_setRow hb hBg cs
end Ytfaojjleapenaab
end Go
namespace Go
namespace Ytfaojjleapenaab
end Ytfaojjleapenaab
end Go
namespace Go
namespace Ytfaojjleapenaab
def In32 (x : Int) : Prop := 0 ≤ x ∧ x < 4294967296
def ith (l : List Int) (i : Nat) : Int := l[i]?.getD 0
def u8s (l : List Int) : Array Value := (l.map (Value.int .u8)).toArray
theorem u8s_get (l : List Int) (k : Nat) (h : k < l.length) : (u8s l)[k]? = some (.int .u8 (ith l k)) := by
  simp [u8s, h, ith]
theorem u8s_size (l : List Int) : (u8s l).size = l.length := by simp [u8s]
structure V8 where
  (a b c d e f g h : Int)
def V8.ok (v : V8) : Prop := In32 v.a ∧ In32 v.b ∧ In32 v.c ∧ In32 v.d ∧ In32 v.e ∧ In32 v.f ∧ In32 v.g ∧ In32 v.h
def V8.add (x y : V8) : V8 :=
  ⟨(x.a + y.a) % 4294967296, (x.b + y.b) % 4294967296, (x.c + y.c) % 4294967296, (x.d + y.d) % 4294967296, (x.e + y.e) % 4294967296, (x.f + y.f) % 4294967296, (x.g + y.g) % 4294967296, (x.h + y.h) % 4294967296⟩
def V8.cells (v : V8) : Array Value := #[.int .u32 v.a, .int .u32 v.b, .int .u32 v.c, .int .u32 v.d, .int .u32 v.e, .int .u32 v.f, .int .u32 v.g, .int .u32 v.h]
theorem u8s_set (l : List Int) (k : Nat) (x : Int) : (u8s l).setIfInBounds k (.int .u8 x) = u8s (l.set k x) := by
  simp [u8s, List.map_set]
theorem u8s_one (l : List Int) : (u8s l).all (·.oneCell') = true := by simp [u8s, Value.oneCell']
def Bytes (l : List Int) : Prop := ∀ i, 0 ≤ ith l i ∧ ith l i < 256
theorem ith_append (l m : List Int) (i : Nat) : ith (l ++ m) i = if i < l.length then ith l i else ith m (i - l.length) := by
  unfold ith
  split
  · rename_i h; rw [List.getElem?_append_left h]
  · rename_i h; rw [List.getElem?_append_right (by omega)]
theorem ith_over (l : List Int) (i : Nat) (h : l.length ≤ i) : ith l i = 0 := by simp [ith, List.getElem?_eq_none h]
/-- The value 'v' is a slice that reads as' the bytes 'l' in the world 'w'. -/
def RdB (w : World) (v : Value) (l : List Int) : Prop :=
  (∃ a c, v = .slice a 0 c ∧ (a = none → c = 0) ∧ l = []) ∨ ∃ b o c, v = .slice (some ⟨b, o, none⟩) l.length c ∧ l.length ≤ c ∧ c ≤ maxLen ∧ b < w.heap.size ∧ ∀ i, i < l.length → w.cell? ⟨b, o + i, none⟩ = some (.int .u8 (ith l i))
theorem RdB.mono {w w' : World} {v : Value} {l : List Int} (h : RdB w v l) (hb : RowKit.Below w.heap.size w w') : RdB w' v l := by
  rcases h with h | ⟨b, o, c, hv, h1, h2, h3, h4⟩
  · exact .inl h
  · exact .inr ⟨b, o, c, hv, h1, h2, Nat.lt_of_lt_of_le h3 hb.size, fun i hi => by rw [hb.cell (p := (⟨b, o + i, none⟩ : Addr)) h3]; exact h4 i hi⟩
theorem RdB.slice {w : World} {v : Value} {l : List Int} (h : RdB w v l) : ∃ a c, v = .slice a l.length c := by
  rcases h with ⟨a, c, rfl, _, rfl⟩ | ⟨b, o, c, hv, _⟩
  · exact ⟨a, c, rfl⟩
  · exact ⟨_, c, hv⟩
end Ytfaojjleapenaab
end Go
namespace Go
namespace Ytfaojjleapenaab
theorem results_row_tmp {P : Program} {fn : Func} {p u : Tmp} {ty : TypeId} (h : fn.results = #[.cell p ty, .tmp u]) (tmps : Array Value) (w : World) (g : Nat) (t : TypeId) (cs : Array Value) (fr : Nat × Nat) (d : TypeDesc)
    (hp : tmps.getD p undef = .pointer (some ⟨g, 0, none⟩)) (hg : w.heap[g]? = some (.cells cs t fr))
    (hu : P.underlying ty = some d) (hd : (match d with | .struct _ | .array _ _ => true | _ => false) = true) (hi : (P.info? ty).map (·.size) = some cs.size) :
    (results fn tmps).run P w = .ok (.tuple #[.agg cs, tmps.getD u undef]) w := by
  rw [results_cell_tmp h, hp]
  have hl := run_loadVar_row (P := P) w g t ty cs fr d hg hu hd hi
  simp [asAddr, hl]
theorem ith_drop (l : List Int) (k i : Nat) : ith (l.drop k) i = ith l (k + i) := by simp [ith]
theorem ith_take (l : List Int) (k i : Nat) (h : i < k) : ith (l.take k) i = ith l i := by simp [ith, h]
theorem bytes_drop (a : List Int) (k : Nat) (ha : Bytes a) : Bytes (a.drop k) := by intro i; rw [ith_drop]; exact ha _
theorem bytes_nil : Bytes [] := by intro i; simp [ith]
end Ytfaojjleapenaab
end Go
namespace Go
namespace Ytfaojjleapenaab
set_option maxRecDepth 100000
end Ytfaojjleapenaab
end Go
namespace Go
namespace Ytfaojjleapenaab
theorem ith_ext {a b : List Int} (h : a.length = b.length) (h2 : ∀ i, i < a.length → ith a i = ith b i) : a = b := by
  apply List.ext_getElem h
  intro i h1 h3
  have := h2 i h1
  simpa [ith, h1, h3] using this
/-- How many bytes a number has behind its first one. -/
def ks (n : Nat) : Nat := (Lib.bitLen n + 7) / 8
theorem pow256 (k : Nat) : 256 ^ k = 2 ^ (8 * k) := by rw [Nat.pow_mul]
theorem ks_bounds (n : Nat) (h0 : n ≠ 0) (h : n < 18446744073709551616) : 1 ≤ ks n ∧ ks n ≤ 8 ∧ 256 ^ (ks n - 1) ≤ n ∧ n < 256 ^ ks n := by
  obtain ⟨a, b, c⟩ := Lib.bitLenAux_bounds 64 n h h0
  have hL : Lib.bitLenAux 64 n ≤ 64 := Lib.bitLen_le n 64 (Nat.le_refl _) h
  unfold ks Lib.bitLen
  generalize Lib.bitLenAux 64 n = L at a b c hL ⊢
  refine ⟨by omega, by omega, ?_, ?_⟩
  · rw [pow256]; exact Nat.le_trans (Nat.pow_le_pow_right (by decide) (by omega)) b
  · rw [pow256]; exact Nat.lt_of_lt_of_le c (Nat.pow_le_pow_right (by decide) (by omega))
/-- The lowest k bytes of a number, the highest one first. -/
def be (k n : Nat) : List Int := (List.range k).map fun i => ((n / 256 ^ (k - 1 - i) % 256 : Nat) : Int)
theorem be_length (k n : Nat) : (be k n).length = k := by simp [be]
theorem ith_be (k n i : Nat) (h : i < k) : ith (be k n) i = ((n / 256 ^ (k - 1 - i) % 256 : Nat) : Int) := by
  simp [ith, be, h]
theorem be_succ (k n : Nat) : be (k + 1) n = ((n / 256 ^ k % 256 : Nat) : Int) :: be k n := by
  apply ith_ext
  · simp [be_length]
  · intro i hi
    rw [be_length] at hi
    rw [ith_be _ _ _ hi]
    cases i with
    | zero => simp [ith]
    | succ i =>
      have : ith (((n / 256 ^ k % 256 : Nat) : Int) :: be k n) (i + 1) = ith (be k n) i := by simp [ith]
      have e : k + 1 - 1 - (i + 1) = k - 1 - i := by omega
      rw [this, ith_be _ _ _ (by omega), e]
/-- The number that the first k bytes of a list make. -/
def valN (l : List Int) : Nat → Nat
  | 0 => 0
  | k + 1 => valN l k * 256 + (ith l k).toNat
theorem valN_congr (a b : List Int) (k : Nat) (h : ∀ i, i < k → ith a i = ith b i) : valN a k = valN b k := by
  induction k with
  | zero => rfl
  | succ k ih => rw [valN, valN, ih (fun i hi => h i (by omega)), h k (by omega)]
theorem valN_lt (l : List Int) (hl : Bytes l) (k : Nat) : valN l k < 256 ^ k := by
  induction k with
  | zero => simp [valN]
  | succ k ih =>
    obtain ⟨h1, h2⟩ := hl k
    rw [valN, Nat.pow_succ]
    have : (ith l k).toNat < 256 := by omega
    generalize (ith l k).toNat = x at *
    generalize 256 ^ k = p at *
    omega
theorem valN_lt64 (l : List Int) (hl : Bytes l) (k : Nat) (hk : k ≤ 8) : valN l k < 18446744073709551616 :=
  Nat.lt_of_lt_of_le (valN_lt l hl k) (Nat.le_trans (Nat.pow_le_pow_right (by decide) hk) (by decide))
theorem valN_be (k n j : Nat) (hj : j ≤ k) (hn : n < 256 ^ k) : valN (be k n) j = n / 256 ^ (k - j) := by
  induction j with
  | zero => rw [valN, Nat.sub_zero, Nat.div_eq_of_lt hn]
  | succ j ih =>
    rw [valN, ih (by omega), ith_be _ _ _ (by omega)]
    have e1 : k - j = (k - (j + 1)) + 1 := by omega
    have e2 : k - 1 - j = k - (j + 1) := by omega
    rw [e1, e2, Nat.pow_succ, ← Nat.div_div_eq_div_mul]
    generalize n / 256 ^ (k - (j + 1)) = q
    omega
theorem valN_be_all (k n : Nat) (hn : n < 256 ^ k) : valN (be k n) k = n := by
  rw [valN_be k n k (Nat.le_refl _) hn]; simp
theorem valN_div (l : List Int) (hl : Bytes l) (k j : Nat) (hj : j ≤ k) : valN l k / 256 ^ (k - j) = valN l j := by
  induction k with
  | zero => have : j = 0 := by omega
            subst this; simp
  | succ k ih =>
    rcases Nat.lt_or_ge k j with h | h
    · have : j = k + 1 := by omega
      subst this; simp
    · have e1 : k + 1 - j = (k - j) + 1 := by omega
      have hb := hl k
      rw [e1, Nat.pow_succ, Nat.mul_comm, ← Nat.div_div_eq_div_mul, valN]
      have : (valN l k * 256 + (ith l k).toNat) / 256 = valN l k := by omega
      rw [this, ih h]
theorem be_valN (l : List Int) (hl : Bytes l) (k : Nat) (hk : l.length = k) : be k (valN l k) = l := by
  apply ith_ext
  · rw [be_length, hk]
  · intro i hi
    rw [be_length] at hi
    rw [ith_be _ _ _ hi]
    have e : k - 1 - i = k - (i + 1) := by omega
    rw [e, valN_div l hl k (i + 1) (by omega), valN]
    have hb := hl i
    omega
/-- The bytes of a number. -/
def numB (n : Nat) : List Int := if n ≤ 247 then [(n : Int)] else (247 + (ks n : Int)) :: be (ks n) n
def numL (n : Nat) : Nat := if n ≤ 247 then 1 else 1 + ks n
theorem numB_length (n : Nat) : (numB n).length = numL n := by
  unfold numB numL; split
  · rfl
  · simp [be_length]; omega
theorem numL_pos (n : Nat) : 1 ≤ numL n := by unfold numL; split <;> omega
theorem numL_le (n : Nat) (h : n < 18446744073709551616) : numL n ≤ 9 := by
  unfold numL; split
  · omega
  · have := ks_bounds n (by omega) h; omega
/-- What is read at the beginning of some bytes: the number, and how many bytes it has. -/
def readF (l : List Int) : Option (Nat × Nat) :=
  if l.length = 0 then none else
  if ith l 0 ≤ 247 then some ((ith l 0).toNat, 1) else
  if l.length < (ith l 0).toNat - 247 + 1 then none else
  if 247 < valN (l.drop 1) ((ith l 0).toNat - 247) ∧ ks (valN (l.drop 1) ((ith l 0).toNat - 247)) = (ith l 0).toNat - 247 then some (valN (l.drop 1) ((ith l 0).toNat - 247), (ith l 0).toNat - 247 + 1) else none
theorem ith_cons_zero (x : Int) (l : List Int) : ith (x :: l) 0 = x := by simp [ith]
theorem readF_num (n : Nat) (h : n < 18446744073709551616) (b : List Int) : readF (numB n ++ b) = some (n, numL n) := by
  unfold readF
  by_cases hn : n ≤ 247
  · have e : numB n = [(n : Int)] := by simp [numB, hn]
    have e2 : numL n = 1 := by simp [numL, hn]
    rw [e, e2, List.singleton_append, ith_cons_zero]
    rw [if_neg (by simp), if_pos (by omega)]
    simp
  · obtain ⟨k1, k8, kl, kh⟩ := ks_bounds n (by omega) h
    have e : numB n = (247 + (ks n : Int)) :: be (ks n) n := by simp [numB, hn]
    have e2 : numL n = 1 + ks n := by simp [numL, hn]
    rw [e, e2, List.cons_append, ith_cons_zero]
    have ek : (247 + (ks n : Int)).toNat - 247 = ks n := by omega
    have ev : valN ((247 + (ks n : Int)) :: (be (ks n) n ++ b)).tail (ks n) = n := by
      rw [List.tail_cons, valN_congr _ (be (ks n) n) _ (fun i hi => ?_), valN_be_all _ _ kh]
      rw [ith_append, if_pos (by rw [be_length]; exact hi)]
    rw [ek, List.drop_one, ev]
    rw [if_neg (by simp), if_neg (by omega), if_neg (by simp [be_length]), if_pos ⟨by omega, rfl⟩, Nat.add_comm]
theorem take_one (l : List Int) (h : l.length ≠ 0) : l.take 1 = [ith l 0] := by
  cases l with
  | nil => simp at h
  | cons x l => simp [ith]
theorem readF_some {l : List Int} (hl : Bytes l) {n u : Nat} (h : readF l = some (n, u)) : n < 18446744073709551616 ∧ u = numL n ∧ u ≤ l.length ∧ l.take u = numB n := by
  unfold readF at h
  split at h
  · cases h
  rename_i h0
  have hb := hl 0
  split at h
  · rename_i h1
    obtain ⟨rfl, rfl⟩ := Prod.mk.injEq .. ▸ Option.some.inj h
    have hn : (ith l 0).toNat ≤ 247 := by omega
    refine ⟨by omega, by simp [numL, hn], by omega, ?_⟩
    rw [take_one l h0, numB, if_pos hn]
    congr 1; omega
  rename_i h1
  split at h
  · cases h
  rename_i h2
  split at h
  · rename_i h3
    obtain ⟨rfl, rfl⟩ := Prod.mk.injEq .. ▸ Option.some.inj h
    have hbd : Bytes (l.drop 1) := bytes_drop l 1 hl
    generalize hk : (ith l 0).toNat - 247 = k at *
    have hk8 : k ≤ 8 := by omega
    have hlt := valN_lt64 (l.drop 1) hbd k hk8
    have hv : be k (valN (l.drop 1) k) = (l.drop 1).take k := by
      rw [valN_congr (l.drop 1) ((l.drop 1).take k) k (fun i hi => (ith_take _ _ _ hi).symm)]
      refine be_valN _ (fun i => ?_) k (by simp; omega)
      rcases Nat.lt_or_ge i k with hi | hi
      · rw [ith_take _ _ _ hi]; exact hbd i
      · rw [ith_over _ _ (by simp; omega)]; omega
    refine ⟨hlt, ?_, by omega, ?_⟩
    · rw [numL, if_neg (by omega), h3.2]; omega
    · rw [numB, if_neg (by omega), h3.2, hv]
      cases l with
      | nil => simp at h0
      | cons x l =>
        rw [ith_cons_zero] at hk hb h1
        simp
        omega
  · cases h
def rdN (l : List Int) : Nat := match readF l with | some p => p.1 | none => 0
def rdU (l : List Int) : Nat := match readF l with | some p => p.2 | none => 0
def rdE (l : List Int) : Int := match readF l with | some _ => 0 | none => 12
theorem rd_some {l : List Int} {n u : Nat} (h : readF l = some (n, u)) : rdN l = n ∧ rdU l = u ∧ rdE l = 0 := by simp [rdN, rdU, rdE, h]
theorem rd_none {l : List Int} (h : readF l = none) : rdN l = 0 ∧ rdU l = 0 ∧ rdE l = 12 := by simp [rdN, rdU, rdE, h]
/-- The lowest bytes of a number, the lowest one first. -/
def le : Nat → Nat → List Int
  | 0, _ => []
  | k + 1, n => le k n ++ [((n / 256 ^ k % 256 : Nat) : Int)]
end Ytfaojjleapenaab
end Go
namespace Go
namespace Ytfaojjleapenaab
open RowKit
def u8v (l : List Int) : List Value := l.map (Value.int .u8)
theorem u8v_length (l : List Int) : (u8v l).length = l.length := by simp [u8v]
theorem u8v_append (l m : List Int) : u8v (l ++ m) = u8v l ++ u8v m := by simp [u8v]
theorem u8v_get (l : List Int) (j : Nat) (h : j < l.length) : (u8v l)[j]? = some (.int .u8 (ith l j)) := by simp [u8v, ith, h]
theorem u8v_one (l : List Int) : ∀ u ∈ u8v l, u.oneCell' = true := by
  intro u hu; simp [u8v] at hu; obtain ⟨x, _, rfl⟩ := hu; rfl
theorem addr_add (b o j : Nat) : (⟨b, o, none⟩ : Addr).add j = ⟨b, o + j, none⟩ := by unfold Addr.add; split <;> simp_all
/-- The slice value 'v' is the call's own (blocks from 'base' on), and reads as' the bytes 'l'. -/
def OwnB (base : Nat) (E : TypeId) (w : World) (v : Value) (l : List Int) : Prop := w.ownsRow base E 1 v l.length (u8v l)
theorem OwnB.nil (w : World) (base : Nat) (E : TypeId) : OwnB base E w (.slice none 0 0) [] := World.ownsRow_nil w base E 1
theorem OwnB.rd {base : Nat} {E : TypeId} {w : World} {v : Value} {l : List Int} (h : OwnB base E w v l) : RdB w v l := by
  rcases h.2 with ⟨rfl, h0⟩ | ⟨g, cap, cur, rfl, hb, hg, hn, hm, hs, ht⟩
  · exact .inl ⟨none, 0, rfl, fun _ => rfl, List.eq_nil_of_length_eq_zero h0⟩
  · refine .inr ⟨g, 0, cap, rfl, hn, hm, (Array.getElem?_eq_some_iff.1 hg).1, fun i hi => ?_⟩
    have hcell := World.ownsRow.cells (g := g) h rfl i _ (u8v_get l i hi)
    rw [addr_add] at hcell
    exact hcell
theorem OwnB.kept {base : Nat} {E : TypeId} {w w' : World} {v : Value} {l : List Int} (h : OwnB base E w v l) (hb : Below w.heap.size w w') : OwnB base E w' v l := by
  refine ⟨h.1, ?_⟩
  rcases h.2 with hn | ⟨g, cap, cur, rfl, hbg, hg, rest⟩
  · exact .inl hn
  · exact .inr ⟨g, cap, cur, rfl, hbg, (hb.block g (Array.getElem?_eq_some_iff.1 hg).1).trans hg, rest⟩
theorem RdB.src {w : World} {b o : Nat} {l : List Int} (h : ∀ i, i < l.length → w.cell? ⟨b, o + i, none⟩ = some (.int .u8 (ith l i))) :
    ∀ j u, (u8v l)[j]? = some u → w.cell? ((⟨b, o, none⟩ : Addr).add j) = some u := by
  intro j u hu
  have hj : j < l.length := by
    rcases Nat.lt_or_ge j l.length with h' | h'
    · exact h'
    · simp [u8v, List.getElem?_eq_none h'] at hu
  rw [u8v_get l j hj] at hu
  rw [addr_add, h j hj]; exact hu
/-- A place at which the walk stops, so that facts on the new world can be laid. -/
def Stop (p : Prop) : Prop := p
theorem Stop.go {p : Prop} (h : p) : Stop p := h
theorem Stop.out {p : Prop} (h : Stop p) : p := h
theorem OwnB.below {base : Nat} {E : TypeId} {w w' : World} {v : Value} {l : List Int} (h : OwnB base E w v l) (hg : w.grownBy w' v.ownBlock) (hb : base ≤ w.heap.size) : Below base w w' :=
  Below.grown (Below.refl base w) hg hb (fun k hk => (World.ownsRow.lt h k hk).1)
theorem OwnB.mono {base B : Nat} {E : TypeId} {w : World} {v : Value} {l : List Int} (h : OwnB base E w v l) (hB : B ≤ base) : OwnB B E w v l := by
  refine ⟨h.1, ?_⟩
  rcases h.2 with hn | ⟨g, cap, cur, rfl, hbg, rest⟩
  · exact .inl hn
  · exact .inr ⟨g, cap, cur, rfl, Nat.le_trans hB hbg, rest⟩
section
variable {P : Program}
theorem run_appendB (w : World) (base : Nat) (t ty e : TypeId) (ht : P.underlying t = some (.slice e)) (hinfo : (P.info? e).map (fun i => (i.zero, i.size, i.bytes)) = some (some (.int .u8 0), 1, 1))
    (v : Value) (l : List Int) (hown : OwnB base e w v l) (sv : Value) (r : List Int) (hr : RdB w sv r) (hlen : l.length + r.length ≤ 140737488355328) (hbase : base ≤ w.heap.size) :
    ∃ v' w', (Builtin.append_ #[t, t] ty #[v, sv]).run P w = .ok v' w' ∧ OwnB base e w' v' (l ++ r) ∧ w.grownBy w' v.ownBlock := by
  obtain ⟨i, hi, hz, hs, hb⟩ := info_parts hinfo
  rcases hr with ⟨sa, sc, rfl, hsn, rfl⟩ | ⟨b, o, c, rfl, h1, h2, h3, h4⟩
  · cases sa with
    | some sa =>
      obtain ⟨v', w', hrun, ho, hg, _⟩ := run_append_own (P := P) w base t ty e i (.int .u8 0) 1 1 ht hi hz hs hb rfl (by omega) v l.length (u8v l) hown sa 0 sc (u8v [])
        (by rw [u8v_length]; rfl) (fun k x hx => by cases hx) (u8v_one []) (by unfold maxLen; simp at hlen ⊢; omega) (by simp at hlen ⊢; omega) hbase
      refine ⟨v', w', hrun, ?_, hg⟩
      unfold OwnB
      rw [List.append_nil]
      simpa [u8v] using ho
    | none =>
    obtain rfl := hsn rfl
    refine ⟨v, w, run_append_owned_none (P := P) (w := w) base t ty e i 1 ht hi v l.length (u8v l) hown, ?_, ⟨rfl, rfl, rfl, Nat.le_refl _, fun _ _ _ => rfl⟩⟩
    rw [List.append_nil]; exact hown
  · obtain ⟨v', w', hrun, ho, hg, _⟩ := run_append_own (P := P) w base t ty e i (.int .u8 0) 1 1 ht hi hz hs hb rfl (by omega) v l.length (u8v l) hown ⟨b, o, none⟩ r.length c (u8v r)
      (by rw [u8v_length]; omega) (RdB.src h4) (u8v_one r) (by unfold maxLen; omega) (by omega) hbase
    refine ⟨v', w', hrun, ?_, hg⟩
    unfold OwnB
    rw [List.length_append, u8v_append]; exact ho
theorem appendB {ops : Array Oper} {rest : List Oper} {o : Oper} {a : Act} {w : World} {Q : Exit → Act → World → Prop} (hgd : o.guard = none) (s x : Operand) (t : TypeId)
    (ho : o.op = .call { callee := .builtin .append, args := #[s, x], argTypes := #[t, t] })
    (base : Nat) (e : TypeId) (ht : P.underlying t = some (.slice e)) (hinfo : (P.info? e).map (fun i => (i.zero, i.size, i.bytes)) = some (some (.int .u8 0), 1, 1))
    (v : Value) (hs : a.eval s = v) (l : List Int) (hown : OwnB base e w v l) (sv : Value) (hx : a.eval x = sv) (r : List Int) (hr : RdB w sv r) (hlen : l.length + r.length ≤ 140737488355328) (hbase : base ≤ w.heap.size)
    (h : ∀ v' w', OwnB base e w' v' (l ++ r) → w.grownBy w' v.ownBlock → Stop (wpList P ops Q rest (a.put o.dst v') w')) : wpList P ops Q (o :: rest) a w := by
  refine wpList_plain hgd fun K hK => ?_
  obtain ⟨v', w', hrun, h2, h3⟩ := run_appendB (P := P) w base t o.type e ht hinfo v l hown sv r hr hlen hbase
  unfold Oper.wp execOp
  simp only [ho, resolve, invoke, builtin, Sem.run_bind, Sem.run_pure, Result.andThen_ok, List.map_toArray, List.map_cons, List.map_nil, hs, hx, hrun]
  exact hK _ _ (h v' w' h2 h3).out
/-- 'make([]byte, l, c)', of numbers. -/
def zerosB (n : Nat) : List Int := List.replicate n 0
theorem zerosB_length (n : Nat) : (zerosB n).length = n := by simp [zerosB]
theorem madeCells_bytes (n : Nat) : madeCells #[Value.int .u8 0] n = u8s (zerosB n) := by
  apply Array.ext'
  rw [toList_madeCells_one]
  simp [u8s, zerosB]
theorem run_makeB (w : World) (t e : TypeId) (ht : P.underlying t = some (.slice e)) (hinfo : (P.info? e).map (fun i => (i.zero, i.size, i.bytes)) = some (some (.int .u8 0), 1, 1))
    (l c : Nat) (hlc : l ≤ c) (hc : c ≤ 140737488355328) :
    (Instr.makeSlice t (.int .i64 (l : Int)) (.int .i64 (c : Int))).run P w = .ok (.slice (some ⟨w.heap.size, 0, none⟩) l c) (w.alloc (.cells (u8s (zerosB c)) e)) := by
  obtain ⟨i, hi, hz, hs, hb⟩ := info_parts hinfo
  have h := run_make (P := P) w t e i (.int .u8 0) ht hi hz .i64 .i64 (l : Int) (c : Int) (by omega) (by omega) (by rw [hb]; omega) (by omega)
  rw [h, hs]
  simp only [Int.toNat_natCast, Nat.mul_one, Value.cells]
  rw [madeCells_bytes]
def overlay (cs : List Int) (off : Nat) (r : List Int) : List Int := cs.take off ++ (r ++ cs.drop (off + r.length))
theorem copyB {ops : Array Oper} {rest : List Oper} {o : Oper} {a : Act} {w : World} {Q : Exit → Act → World → Prop} (hgd : o.guard = none) (d s : Operand) (dT sT : TypeId)
    (ho : o.op = .call { callee := .builtin .copy, args := #[d, s], argTypes := #[dT, sT] }) (elem : TypeId) (hu : P.underlying dT = some (.slice elem)) (hsz : (P.info? elem).map (·.size) = some 1)
    (g off dLen dCap : Nat) (hd : a.eval d = .slice (some ⟨g, off, none⟩) dLen dCap) (sv : Value) (hs : a.eval s = sv) (r : List Int) (hr : RdB w sv r)
    (cs : List Int) (t : TypeId) (hg : w.heap[g]? = some (.cells (u8s cs) t (0, 0))) (hle : r.length ≤ dLen) (hfit : off + r.length ≤ cs.length)
    (h : ∀ w', Hid (w' = w.setRow g (u8s (overlay cs off r))) → Stop (wpList P ops Q rest (a.put o.dst (goInt r.length)) w')) : wpList P ops Q (o :: rest) a w := by
  have h := (h _ (show _ = _ from rfl)).out
  rcases hr with ⟨sa, sc, rfl, _, rfl⟩ | ⟨b, o', c, rfl, h1, h2, h3, h4⟩
  · refine wpList_copy_nothing hgd d s dT sT ho elem hu hsz _ _ _ _ _ _ hd hs (Nat.zero_min _) ?_
    have : w.setRow g (u8s (overlay cs off [])) = w := by
      have e : overlay cs off [] = cs := by simp [overlay]
      rw [e]; exact setRow_self w g _ t _ hg
    rw [this] at h; exact h
  · refine wpList_copy_own hgd d s dT sT ho elem hu hsz g off dLen dCap ⟨b, o', none⟩ r.length c hd hs (u8s cs) t hg (u8v r) (by rw [u8v_length]; exact (Nat.min_eq_left hle).symm) (RdB.src h4) (by rw [u8v_length, u8s_size]; exact hfit) (u8v_one r) ?_
    rw [u8v_length]
    have e : ((u8s cs).toList.take off ++ (u8v r ++ (u8s cs).toList.drop (off + r.length))).toArray = u8s (overlay cs off r) := by
      simp [u8s, u8v, overlay]
    rw [e]; exact h
end
end Ytfaojjleapenaab
end Go
namespace Go
namespace Ytfaojjleapenaab
open RowKit
theorem run_sliceAt_full {P : Program} {t n elem : Nat} (ht : P.underlying t = some (.array n elem)) (hs : (P.info? elem).map (·.size) = some 1) (b : Nat) (w : World) :
    (Instr.sliceAt t (.pointer (some ⟨b, 0, none⟩)) none none none).run P w = .ok (.slice (some ⟨b, 0, none⟩) n n) w := by
  cases hq : P.info? elem with
  | none => simp [hq] at hs
  | some inf =>
    simp [Instr.sliceAt, run_underlying ht, Instr.sureAddr, Instr.sliceBounds, sizeOf, typeInfo, hq]
    unfold Addr.add
    simp
end Ytfaojjleapenaab
end Go
namespace Go
namespace Ytfaojjleapenaab
set_option linter.unusedVariables false
section
variable {P : Program} {ops : Array Oper} {md : Region.Mode} {C : World → Prop} {Q : Exit → Act → World → Prop} {n : Nat} {pl : List Nat}
def Closed (md : Region.Mode) (ops : Array Oper) (listed : Array Bool) : Prop :=
  listed.size = ops.size ∧ ∀ j oj, ops[j]? = some oj → listed.getD j false = true → ∀ e ∈ oj.after, Region.binds md e = true → listed.getD e.on false = true
theorem Closed.set {i : Nat} {listed : Array Bool} (inv : Closed md ops listed) (hi : i ∈ Region.ready md ops listed) : Closed md ops (listed.setIfInBounds i true) := by
  obtain ⟨_, oi, hoi, hall⟩ := mem_ready.1 hi
  refine ⟨by simp [inv.1], fun j oj hj hl e he hb => ?_⟩
  by_cases hij : i = j
  · subst hij
    have : oj = oi := Option.some.inj (hj.symm.trans hoi)
    subst this
    exact getD_set_true (hall e he hb)
  · rw [getD_set_ne false hij] at hl
    exact getD_set_true (inv.2 j oj hj hl e he hb)
/-- Every operation before 'n' but those of 'pl' is waited for by a later one that is not of 'pl', or by 'n'; from 'n' on each waits for the one before. -/
def sinkP (md : Region.Mode) (ops : Array Oper) (n : Nat) (pl : List Nat) : Bool :=
  (List.range n).all fun i => pl.contains i || (List.range (n + 1)).any fun j => decide (i < j) && !pl.contains j && Region.waitsFor md ops j i
theorem tail_done {listed : Array Bool} (hs : sinkP md ops n pl = true) (hc : Region.chainB md ops n = true) (inv : Closed md ops listed) {t : Nat} (ht : n ≤ t) (hr : t ∈ Region.ready md ops listed) :
    ∀ i, i < n → pl.contains i = false → listed.getD i false = true := by
  have deps : ∀ (d t : Nat), t - n = d → n ≤ t → (∀ o, ops[t]? = some o → ∀ e ∈ o.after, Region.binds md e = true → listed.getD e.on false = true) → ∃ ot, ops[t]? = some ot → True := fun _ _ _ _ _ => ⟨default, fun _ => trivial⟩
  have hn : ∀ (d t : Nat), t - n = d → n ≤ t → t < ops.size → (∀ o, ops[t]? = some o → ∀ e ∈ o.after, Region.binds md e = true → listed.getD e.on false = true) →
      ∀ o, ops[n]? = some o → ∀ e ∈ o.after, Region.binds md e = true → listed.getD e.on false = true := by
    intro d
    induction d with
    | zero =>
      intro t hd ht _ h
      have : t = n := by omega
      subst this; exact h
    | succ d ih =>
      intro t hd ht htl h
      have h1 := List.all_eq_true.1 hc t (List.mem_range.2 htl)
      simp only [Bool.or_eq_true, decide_eq_true_eq] at h1
      rcases h1 with h1 | h1
      · omega
      · obtain ⟨o', ho', e, he, hb, hon⟩ := Region.waitsFor_spec h1
        have h2 := h o' ho' e he hb
        rw [hon] at h2
        exact ih (t - 1) (by omega) (by omega) (by omega) fun o ho e he hb => inv.2 _ o ho h2 e he hb
  obtain ⟨_, ot, hot, hall⟩ := mem_ready.1 hr
  have htlt : t < ops.size := (Array.getElem?_eq_some_iff.1 hot).1
  have hN := hn _ t rfl ht htlt fun o ho e he hb => by
    have : o = ot := Option.some.inj (ho.symm.trans hot)
    subst this; exact hall e he hb
  intro i
  induction h : n - i using Nat.strongRecOn generalizing i with
  | _ d ih =>
    intro hi hp
    have h1 := List.all_eq_true.1 hs i (List.mem_range.2 hi)
    rw [hp, Bool.false_or] at h1
    obtain ⟨j, hj, hj2⟩ := List.any_eq_true.1 h1
    simp only [Bool.and_eq_true, decide_eq_true_eq, Bool.not_eq_true'] at hj2
    obtain ⟨oj, hoj, e, he, hb, hon⟩ := Region.waitsFor_spec hj2.2
    have hjle : j ≤ n := by have := List.mem_range.1 hj; omega
    by_cases hjn : j = n
    · subst hjn
      have := hN oj hoj e he hb
      rwa [hon] at this
    · have h3 := ih (n - j) (by omega) j rfl (by omega) hj2.1.2
      have := inv.2 j oj hoj h3 e he hb
      rwa [hon] at this
def wpHT (P : Program) (md : Region.Mode) (ops : Array Oper) (C : World → Prop) (n : Nat) (Q : Exit → Act → World → Prop) : Nat → Array Bool → Act → Prop
  | 0, listed, a => Region.ready md ops listed = [] ∧ ∀ w, C w → Q .normal a w
  | f + 1, listed, a => (Region.ready md ops listed = [] → ∀ w, C w → Q .normal a w) ∧
    ∀ i ∈ Region.ready md ops listed, (i < n → qOp P ops C i (wpHT P md ops C n Q f (listed.setIfInBounds i true)) a) ∧ (n ≤ i → ∀ w, C w → wpOp P ops Q i (wpAny P md ops Q f (listed.setIfInBounds i true)) a w)
theorem wpAny_of_HT : ∀ (f : Nat) (listed : Array Bool) (a : Act) (w : World), C w → wpHT P md ops C n Q f listed a → wpAny P md ops Q f listed a w
  | 0, _, _, w, hw, h => ⟨h.1, h.2 w hw⟩
  | f + 1, listed, a, w, hw, h => ⟨fun h0 => h.1 h0 w hw, fun i hi => by
      rcases Nat.lt_or_ge i n with hin | hin
      · exact wpOp_of_qOp hw (fun a' w' hw' h' => wpAny_of_HT f _ a' w' hw' h') ((h.2 i hi).1 hin)
      · exact (h.2 i hi).2 hin w hw⟩
theorem wpHT_of_any {f : Nat} {listed : Array Bool} {a : Act} (hr : ∀ i ∈ Region.ready md ops listed, n ≤ i) (h : ∀ w, C w → wpAny P md ops Q f listed a w) (hC : ∃ w, C w) : wpHT P md ops C n Q f listed a := by
  cases f with
  | zero => obtain ⟨w, hw⟩ := hC; exact ⟨(h w hw).1, fun w hw => (h w hw).2⟩
  | succ f => exact ⟨fun h0 w hw => (h w hw).1 h0, fun i hi => ⟨fun hin => absurd (hr i hi) (by omega), fun _ w hw => (h w hw).2 i hi⟩⟩
theorem wpHT_first {i : Nat} {oi : Oper} {v : Value} (hi : ops[i]? = some oi) (hin : i < n) (hsel : ∀ (j : Nat) (o : Oper) cs b, ops[j]? = some o → o.op ≠ .select cs b)
    (hs : sinkP md ops n pl = true) (hc : Region.chainB md ops n = true) (hQ : ∀ c a w, Q (.panic c) (a.put oi.dst v) w → Q (.panic c) a w) :
    ∀ (f : Nat) (listed : Array Bool) (a : Act), Closed md ops listed →
      (∀ j oj, ops[j]? = some oj → j ≠ i → listed.getD j true = false → (∀ e ∈ oj.after, Region.binds md e = true → e.on ≠ i) → oi.apart ops oj = true) →
      i ∈ Region.ready md ops listed → YieldsIn P ops C oi v a → (pl.contains i = true → Yields P ops oi v a) →
      wpHT P md ops C n Q f (listed.setIfInBounds i true) (a.put oi.dst v) → wpHT P md ops C n Q (f + 1) listed a := by
  intro f
  induction f with
  | zero =>
    intro listed a inv _ hr hy _ H
    refine ⟨fun h => (by rw [h] at hr; cases hr), fun j hj => ?_⟩
    by_cases hji : j = i
    · subst hji; exact ⟨fun _ => hy.qOp hi H, fun h => by omega⟩
    · have := ready_mono hj hji
      rw [H.1] at this
      cases this
  | succ f ih =>
    intro listed a inv hfree hr hy hp H
    have hun := (mem_ready.1 hr).1
    refine ⟨fun h => (by rw [h] at hr; cases hr), fun j hj => ?_⟩
    by_cases hji : j = i
    · subst hji; exact ⟨fun _ => hy.qOp hi H, fun h => by omega⟩
    · have h1 := H.2 j (ready_mono hj hji)
      obtain ⟨hjun, oj, hoj, hall⟩ := mem_ready.1 hj
      have hnot : ∀ e ∈ oj.after, Region.binds md e = true → e.on ≠ i := fun e he hb heq => by
        have h1 := hall e he hb
        rw [heq, getD_both hun] at h1
        cases h1
      have hap := hfree j oj hoj hji hjun hnot
      have hfree' : ∀ k ok, ops[k]? = some ok → k ≠ i → (listed.setIfInBounds j true).getD k true = false →
          (∀ e ∈ ok.after, Region.binds md e = true → e.on ≠ i) → oi.apart ops ok = true := fun k ok hk hki hun hno => by
        refine hfree k ok hk hki ?_ hno
        by_cases hjk : j = k
        · subst hjk; exact hjun
        · rw [getD_set_ne true hjk] at hun; exact hun
      refine ⟨fun hjn => ?_, fun hjn w hw => ?_⟩
      · have h2 := qOp_put hoj hap (fun cs b => hsel i oi cs b hi) (fun cs b => hsel j oj cs b hoj) hy (h1.1 hjn)
        by_cases hpc : pl.contains i = true
        · have h3 := qOp_put (C := C) (K := fun a' => wpHT P md ops C n Q f ((listed.setIfInBounds i true).setIfInBounds j true) a') hoj hap (fun cs b => hsel i oi cs b hi) (fun cs b => hsel j oj cs b hoj) hy (h1.1 hjn)
          refine qOp_mono (K := fun a' => (YieldsIn P ops C oi v a' ∧ Yields P ops oi v a') ∧ wpHT P md ops C n Q f ((listed.setIfInBounds i true).setIfInBounds j true) (a'.put oi.dst v)) (fun a' h4 => ih (listed.setIfInBounds j true) a' (inv.set hj) hfree' (ready_mono hr (Ne.symm hji)) h4.1.1 (fun _ => h4.1.2) ?_) ?_
          · rw [Array.setIfInBounds_comm _ _ hji]; exact h4.2
          · obtain ⟨q1, q2, q3⟩ := Oper.apart_spec hap
            have keep : ∀ u, Yields P ops oi v (a.put oj.dst u) := fun u => (hp hpc).of_same (execOp_put oi (fun cs b => hsel i oi cs b hi) a oj.dst u q3) (wanted_put oi a oj.dst u q3)
            unfold qOp at h3 ⊢
            simp only [hoj] at h3 ⊢
            split
            · rename_i hw
              simp only [hw, if_true] at h3
              obtain ⟨u, hu, h5, h6⟩ := h3
              exact ⟨u, hu, ⟨h5, keep u⟩, h6⟩
            · rename_i hw
              simp only [hw] at h3
              exact ⟨⟨h3.1, keep _⟩, h3.2⟩
        · refine qOp_mono (fun a' h3 => ih (listed.setIfInBounds j true) a' (inv.set hj) hfree' (ready_mono hr (Ne.symm hji)) h3.1 (fun h => absurd h hpc) ?_) h2
          rw [Array.setIfInBounds_comm _ _ hji]
          exact h3.2
      · by_cases hpc : pl.contains i = true
        · have h2 := wpOp_put hoj hap (fun cs b => hsel i oi cs b hi) (fun cs b => hsel j oj cs b hoj) hQ (hp hpc) (h1.2 hjn w hw)
          refine wpOp_mono (fun a' w' h3 => wpAny_first hi hsel hQ f (listed.setIfInBounds j true) a' w' hfree' (ready_mono hr (Ne.symm hji)) h3.1 ?_) h2
          rw [Array.setIfInBounds_comm _ _ hji]
          exact h3.2
        · have := tail_done hs hc inv hjn hj i hin (by simpa using hpc)
          rw [getD_both hun] at this
          cases this
/-- The walk of the head, in the order of the text. -/
def wpHead (P : Program) (ops : Array Oper) (C : World → Prop) (pl : List Nat) (K : Act → Prop) : Nat → List Oper → Act → Prop
  | _, [], a => K a
  | k, o :: rest, a => ∃ v, YieldsIn P ops C o v a ∧ (pl.contains k = true → Yields P ops o v a) ∧ wpHead P ops C pl K (k + 1) rest (a.put o.dst v)
theorem wpHT_lex {g : Nat} (hsel : Region.noSelect ops = true) (hs : sinkP md ops n pl = true) (hc : Region.chainB md ops n = true) (hQ : ∀ c a a' w, Q (.panic c) a w → Q (.panic c) a' w) (hC : ∃ w, C w) (hg : ops.size = n + g) :
    ∀ (l : List Oper) (k : Nat) (listed : Array Bool) (a : Act), (∀ j, j < l.length → l[j]? = ops[k + j]?) → k + l.length = n → Closed md ops listed →
    Region.lexHead md ops g l.length k listed = true → wpHead P ops C pl (fun a' => ∀ w', C w' → wpList P ops Q (ops.toList.drop n) a' w') k l a → wpHT P md ops C n Q (l.length + g) listed a
  | [], k, listed, a, _, hk, inv, hB, h => by
    have : k = n := by simpa using hk
    subst this
    have hB' : Region.seqB md ops g k listed = true := by simpa [Region.lexHead] using hB
    rw [List.length_nil, Nat.zero_add]
    refine wpHT_of_any (seqB_ready hB') (fun w hw => ?_) hC
    have hl : (ops.toList.drop k).length = g := by simp; omega
    have := wpAny_of_seq (md := md) (Q' := Q) (ops.toList.drop k) k listed a w (fun j => by simp [List.getElem?_drop]) (by rw [hl]; exact hB') (h w hw)
    rwa [hl] at this
  | o :: l, k, listed, a, hl, hk, inv, hB, h => by
    have h0 : ops[k]? = some o := by simpa using (hl 0 (by simp)).symm
    simp only [List.length_cons, Region.lexHead, Bool.and_eq_true] at hB
    obtain ⟨⟨hr, hf⟩, hB'⟩ := hB
    have hkn : k < n := by simp only [List.length_cons] at hk; omega
    have hr' : k ∈ Region.ready md ops listed := by simpa using hr
    obtain ⟨v, hy, hp, hK⟩ := h
    rw [show (o :: l).length + g = (l.length + g) + 1 by simp only [List.length_cons]; omega]
    exact wpHT_first h0 hkn (Region.noSelect_spec hsel) hs hc (fun c a w h => hQ _ _ _ _ h) (l.length + g) listed a inv (Region.free_spec h0 hf) hr' hy hp
      (wpHT_lex hsel hs hc hQ hC hg l (k + 1) _ _ (fun j hj => by have := hl (j + 1) (by simp; omega); simpa [Nat.add_assoc, Nat.add_comm 1 j] using this) (by simp only [List.length_cons] at hk; omega) (inv.set hr') hB' hK)
def headB (md : Region.Mode) (ops : Array Oper) (n : Nat) (pl : List Nat) : Bool :=
  Region.noSelect ops && decide (n < ops.size) && sinkP md ops n pl && Region.chainB md ops n && Region.lexHead md ops (ops.size - n) n 0 (Array.replicate ops.size false)
/-- **The head first**: the first 'n' operations are quiet in a class of worlds, those of 'pl' in every world; the others come one after the other. -/
theorem wp_region_head {id : Nat} {a : Act} {w : World} {l : List Oper} (n : Nat) (pl : List Nat) (hm : P.follows .mixedOrders = true) (hB : headB .any l.toArray n pl = true) (hQ : ∀ c a a' w, Q (.panic c) a w → Q (.panic c) a' w) (hC : C { w with drawn := w.drawn + 1 })
    (h : wpHead P l.toArray C pl (fun a' => ∀ w', C w' → wpList P l.toArray Q (l.drop n) a' w') 0 (l.take n) a) : (Code.region id l.toArray true).wp P Q a w := by
  simp only [headB, Bool.and_eq_true, decide_eq_true_eq] at hB
  obtain ⟨⟨⟨⟨hsel, hn⟩, hs⟩, hc⟩, hlex⟩ := hB
  have hn' : n < l.length := by simpa using hn
  have htl : (l.take n).length = n := by simp; omega
  have inv0 : Closed .any l.toArray (Array.replicate l.toArray.size false) := ⟨by simp, fun j oj _ hl => (by rw [getD_replicate_false] at hl; cases hl)⟩
  have H := wpHT_lex (md := .any) (g := l.toArray.size - n) hsel hs hc hQ ⟨_, hC⟩ (by omega) (l.take n) 0 _ a (fun j hj => by
    have hj' : j < n := by rw [htl] at hj; exact hj
    simp [hj']) (by simpa using htl) inv0 (by rw [htl]; exact hlex) h
  rw [htl, show n + (l.toArray.size - n) = l.toArray.size by omega] at H
  exact wp_region_any hm (wpAny_of_HT _ _ _ _ hC H)
/-- The same, the region being shown not to panic. -/
theorem wp_region_headN {id : Nat} {a : Act} {w : World} {l : List Oper} (n : Nat) (pl : List Nat) (hm : P.follows .mixedOrders = true) (hB : headB .any l.toArray n pl = true) (hC : C { w with drawn := w.drawn + 1 })
    (h : wpHead P l.toArray C pl (fun a' => ∀ w', C w' → wpList P l.toArray (NoPanic Q) (l.drop n) a' w') 0 (l.take n) a) : (Code.region id l.toArray true).wp P Q a w :=
  wp_region_noPanic (wp_region_head n pl hm hB (fun _ _ _ _ h => h) hC h)
/-- One operation of the head. -/
theorem head_step {K : Act → Prop} {k : Nat} {o : Oper} {rest : List Oper} {a : Act} {D : Option Tmp} (v : Value) (hw : Region.wanted o (yielded ops a.tmps) = true) (h1 : ∀ w, C w → o.quietAt P a C w v) (hp : pl.contains k = false) (hD : o.dst = D)
    (h2 : ∀ K' : Act → Prop, (∀ a, wpHead P ops C pl K (k + 1) rest a → K' a) → K' (a.put D v)) : wpHead P ops C pl K k (o :: rest) a := by
  subst hD
  exact ⟨v, .inl ⟨hw, h1⟩, fun h => (by rw [hp] at h; cases h), h2 _ fun _ h => h⟩
/-- One operation, what follows behind a variable: for a walk by 'go_simp'. -/
theorem head_walk {K : Act → Prop} {k : Nat} {o : Oper} {rest : List Oper} {a : Act} (hp : pl.contains k = false)
    (h : ∀ K' : Act → Prop, (∀ a, wpHead P ops C pl K (k + 1) rest a → K' a) → if Region.wanted o (yielded ops a.tmps) then o.quiet P a C K' else K' (a.put o.dst undef)) : wpHead P ops C pl K k (o :: rest) a := by
  have h := h _ (fun _ h => h)
  by_cases hw : Region.wanted o (yielded ops a.tmps) = true
  · rw [if_pos hw] at h
    obtain ⟨v, h1, h2⟩ := h
    exact ⟨v, .inl ⟨hw, h1⟩, fun h => (by rw [hp] at h; cases h), h2⟩
  · rw [if_neg hw] at h
    exact ⟨undef, .inr ⟨by simpa using hw, rfl⟩, fun _ => .inr ⟨by simpa using hw, rfl⟩, h⟩
theorem head_nil {K : Act → Prop} {k : Nat} {a : Act} (h : K a) : wpHead P ops C pl K k [] a := h
end
end Ytfaojjleapenaab
end Go
namespace Go
namespace Ytfaojjleapenaab
open RowKit
def cmpF : List Int → List Int → Int
  | [], [] => 0
  | [], _ :: _ => -1
  | _ :: _, [] => 1
  | a :: as', b :: bs => if a < b then -1 else if b < a then 1 else cmpF as' bs
theorem bytes_tail {a : Int} {l : List Int} (h : Bytes (a :: l)) : (0 ≤ a ∧ a < 256) ∧ Bytes l := by
  refine ⟨by simpa [ith] using h 0, fun i => by simpa [ith] using h (i + 1)⟩
theorem toU8_lt (a b : Int) (ha : 0 ≤ a ∧ a < 256) (hb : 0 ≤ b ∧ b < 256) : (a.toNat.toUInt8 < b.toNat.toUInt8) ↔ a < b := by
  rw [UInt8.lt_iff_toNat_lt]
  have h1 : a.toNat.toUInt8.toNat = a.toNat := by simp; omega
  have h2 : b.toNat.toUInt8.toNat = b.toNat := by simp; omega
  rw [h1, h2]; omega
theorem compareBytes_eq : ∀ (a b : List Int), Bytes a → Bytes b → Lib.compareBytes (Lib.bytesOf a) (Lib.bytesOf b) = cmpF a b
  | [], [], _, _ => rfl
  | [], _ :: _, _, _ => rfl
  | _ :: _, [], _, _ => rfl
  | a :: as', b :: bs, ha, hb => by
    obtain ⟨a0, a1⟩ := bytes_tail ha
    obtain ⟨b0, b1⟩ := bytes_tail hb
    have h := compareBytes_eq as' bs a1 b1
    have e1 : Lib.bytesOf (a :: as') = a.toNat.toUInt8 :: Lib.bytesOf as' := rfl
    have e2 : Lib.bytesOf (b :: bs) = b.toNat.toUInt8 :: Lib.bytesOf bs := rfl
    rw [e1, e2]
    simp only [Lib.compareBytes, cmpF, toU8_lt a b a0 b0, toU8_lt b a b0 a0, h]
theorem RdB.load {P : Program} {w : World} {v : Value} {l : List Int} (h : RdB w v l) : (Extern.Bytes.bytesOf v).run P w = .ok ⟨(Lib.bytesOf l).toArray⟩ w := by
  rcases h with ⟨sa, sc, rfl, hsn, rfl⟩ | ⟨b, o, c, rfl, h1, h2, h3, h4⟩
  · cases sa with
    | none => obtain rfl := hsn rfl; rfl
    | some sa => rfl
  · have h := Lib.run_loadBytesX (P := P) (w := w) l ⟨b, o, none⟩ .empty (fun j x hx => by
      have hj : j < l.length := by
        rcases Nat.lt_or_ge j l.length with h' | h'
        · exact h'
        · rw [List.getElem?_eq_none h'] at hx; cases hx
      have : ith l j = x := by simp [ith, hx]
      rw [addr_add, h4 j hj, this])
    change (Extern.Bytes.loadBytes _ _ _).run P w = _
    rw [h]
    simp
theorem run_compareB {P : Program} {w : World} {va vb : Value} {a b : List Int} (ha : RdB w va a) (hb : RdB w vb b) (h1 : Bytes a) (h2 : Bytes b) :
    (Extern.BytealgCompare.compare #[va, vb]).run P w = .ok (.int .i64 (cmpF a b)) w := by
  change Sem.run P (do pure (goInt (Extern.BytealgCompare.cmp (← Extern.Bytes.bytesOf va) (← Extern.Bytes.bytesOf vb)))) w = _
  simp only [Sem.run_bind, ha.load, hb.load, Result.andThen, Sem.run_pure, Lib.cmp_eq]
  rw [compareBytes_eq a b h1 h2]
  rfl
def nthL (L : List (List Int)) (i : Nat) : List Int := L[i]?.getD []
/-- The value 'v' is a slice of slices of bytes that reads as' 'L'. -/
def RdL (w : World) (v : Value) (L : List (List Int)) : Prop :=
  (v = .slice none 0 0 ∧ L = []) ∨ ∃ b o c, v = .slice (some ⟨b, o, none⟩) L.length c ∧ L.length ≤ c ∧ c ≤ maxLen ∧ b < w.heap.size ∧ ∀ i, i < L.length → ∃ s, w.cell? ⟨b, o + i, none⟩ = some s ∧ RdB w s (nthL L i)
theorem RdL.mono {w w' : World} {v : Value} {L : List (List Int)} (h : RdL w v L) (hb : Below w.heap.size w w') : RdL w' v L := by
  rcases h with h | ⟨b, o, c, hv, h1, h2, h3, h4⟩
  · exact .inl h
  · refine .inr ⟨b, o, c, hv, h1, h2, Nat.lt_of_lt_of_le h3 hb.size, fun i hi => ?_⟩
    obtain ⟨s, hs, hr⟩ := h4 i hi
    exact ⟨s, (hb.cell (p := (⟨b, o + i, none⟩ : Addr)) h3).trans hs, hr.mono hb⟩
theorem RdL.slice {w : World} {v : Value} {L : List (List Int)} (h : RdL w v L) : ∃ a c, v = .slice a L.length c := by
  rcases h with ⟨rfl, rfl⟩ | ⟨b, o, c, hv, _⟩
  · exact ⟨none, 0, rfl⟩
  · exact ⟨_, c, hv⟩
end Ytfaojjleapenaab
end Go
namespace Go.Proofs.Ytfaojjleapenaab
open Go.RowKit Go.Ytfaojjleapenaab
set_option linter.unusedVariables false
theorem quiet_call2 {P : Program} {C : World → Prop} {o : Oper} {a : Act} {f : FuncId} {fn : Func} {c : Code} {x y : Operand} {T : Array TypeId} (ho : o.op = .call { callee := .value (.func f), args := #[x, y], argTypes := T })
    (hf : P.funcs[f]? = some fn) (hname : (fn.name == "runtime.NumGoroutine") = false) (hb : fn.body = some c) (u1 u2 v : Value) (h1 : a.eval x = u1) (h2 : a.eval y = u2) (h3 : a.eval (.func f) = .func (.func f) #[] #[])
    (hc : ∀ w, C w → Calls P f #[u1, u2] w fun e w' => e = .returned v ∧ C w') : ∀ w, C w → o.quietAt P a C w v := by
  intro w hw
  have hn : fn.name ≠ "runtime.NumGoroutine" := by simpa using hname
  unfold Oper.quietAt execOp
  generalize a.eval = ev at *
  have hr : (callFunc f #[u1, u2]).run P w = .ok (.enter f #[u1, u2]) w := by simp [callFunc, hf, hn, hb]
  simp only [ho]
  simp [go_sem, h1, h2, h3]
  rw [hr]
  exact ⟨rfl, hc w hw⟩
theorem wpList_load_row_g {P : Program} {ops : Array Oper} {rest : List Oper} {o : Oper} {a : Act} {w : World} {Q : Exit → Act → World → Prop} (hw : Region.wanted o (yielded ops a.tmps) = true) (ty : TypeId) (x : Operand) (ho : o.op = .load ty x)
    (g : Nat) (hx : a.eval x = .pointer (some ⟨g, 0, none⟩)) (t : TypeId) (cs : Array Value) (fr : Nat × Nat) (d : TypeDesc) (hg : w.heap[g]? = some (.cells cs t fr))
    (hu : P.underlying ty = some d) (hd : (match d with | .struct _ | .array _ _ => true | _ => false) = true) (hi : (P.info? ty).map (·.size) = some cs.size)
    (h : wpList P ops Q rest (a.put o.dst (.agg cs)) w) : wpList P ops Q (o :: rest) a w :=
  wpList_step fun K hK => by rw [if_pos hw]; exact wp_load_row ty x ho g hx t cs fr d hg hu hd hi (hK _ _ h)
end Go.Proofs.Ytfaojjleapenaab
namespace Go.Proofs.Ytfaojjleapenaab
open Go.RowKit Go.Ytfaojjleapenaab
set_option linter.unusedVariables false
section
variable {P : Program} {ops : Array Oper} {C : World → Prop} {Q : Act → Prop} {o : Oper} {rest : List Oper} {a : Act}
theorem wpq {D : Option Tmp} (v : Value) (hw : Region.wanted o (yielded ops a.tmps) = true) (h1 : ∀ w, C w → o.quietAt P a C w v) (hD : o.dst = D) (h2 : ∀ K : Act → Prop, (∀ a, wpQuiet P ops C Q rest a → K a) → K (a.put D v)) : wpQuiet P ops C Q (o :: rest) a := by
  subst hD
  unfold wpQuiet
  rw [if_pos hw]
  exact ⟨v, h1, h2 _ fun _ h => h⟩
theorem qa_ok {w : World} {v : Value} (h : (execOp a.eval o).run P w = .ok (.value v) w) : o.quietAt P a C w v := by
  unfold Oper.quietAt; rw [h]; exact ⟨rfl, rfl⟩
end
end Go.Proofs.Ytfaojjleapenaab
namespace Go.Proofs.Ytfaojjleapenaab
open Go.RowKit Go.Ytfaojjleapenaab
set_option linter.unusedVariables false
end Go.Proofs.Ytfaojjleapenaab
namespace Go.Proofs
open Go.Shelf
def Try.lays129_ren : Go.Shelf.Ren := ⟨fun | 129 => 47 | n => n, fun | 53 => 22 | 3 => 3 | 4 => 4 | 46 => 78 | 5 => 5 | 9 => 9 | n => n, fun | n => n⟩
theorem Try.lays129 : Go.Proofs.Lays.n129 Try.prog Try.lays129_ren := {
  mixed := by kernel_rfl
  f129 := Try.func47.trans (congrArg some (by kernel_rfl))
  t3 := Try.underlying3
  a3 := Try.isAgg3
  z3 := Try.sizeOf3
  v3 := Try.zeroValue3
  t4 := Try.underlying4
  a4 := Try.isAgg4
  z4 := Try.sizeOf4
  v4 := Try.zeroValue4
  t5 := Try.underlying5
  a5 := Try.isAgg5
  z5 := Try.sizeOf5
  v5 := Try.zeroValue5
  t9 := Try.underlying9
  a9 := Try.isAgg9
  z9 := Try.sizeOf9
  v9 := Try.zeroValue9
  t46 := Try.underlying78
  a46 := Try.isAgg78
  z46 := Try.sizeOf78
  v46 := Try.zeroValue78
  t53 := Try.underlying22
  a53 := Try.isAgg22
  z53 := Try.sizeOf22
  v53 := Try.zeroValue22 }
/-- bits.Len64: "Len64 returns the minimum number of bits required to represent x; the result is 0 for x == 0.": IT RETURNS 'Lib.bitLen x'; the world is as' it was. ('h0', 'h1': x is a uint64.) (LAID: no walk: one application.) -/
theorem Try.bits_Len64 (x : Int) (w : World) (h0 : 0 ≤ x) (h1 : x ≤ 18446744073709551615) :
    Calls Try.prog 47 #[.int .u64 x] w fun e w' => e = .returned (.int .i64 (Lib.bitLen x.toNat)) ∧ w' = w := Any.bits_Len64 Try.lays129 x w h0 h1
end Go.Proofs
namespace Go.Proofs.Ytfaojjleapenaab
open Go.RowKit Go.Ytfaojjleapenaab
set_option linter.unusedVariables false
def StopP (p : Prop) : Prop := p
theorem Stop.go'' (p : Prop) (h : StopP p) : p := h
theorem StopP.go {p : Prop} (h : p) : StopP p := h
theorem sizeOf_any (n : Nat) (hn : n < 18446744073709551616) (w : World) : Calls Try.prog 40 #[.int .u64 (n : Int)] w fun e w' => e = .returned (.int .i64 (numL n : Nat)) ∧ w = w' := by
  have hb := Try.bits_Len64 (n : Int) w (by omega) (by omega)
  rw [Int.toNat_natCast] at hb
  have hL : Lib.bitLen n ≤ 64 := Lib.bitLen_le n 64 (Nat.le_refl _) hn
  have hb' := Lib.hid hb
  clear hb hn
  by_cases h : n ≤ 247
  · have e : numL n = 1 := by simp [numL, h]
    rw [e]
    clear hL hb' e
    go_enter Try.func40, Try.ntmps40
    go_wp2
    go_ret
    exact ⟨rfl, rfl⟩
  · have e : numL n = 1 + (Lib.bitLen n + 7) / 8 := by simp [numL, h, ks]
    rw [e]
    clear e
    generalize Lib.bitLen n = L at *
    go_enter Try.func40, Try.ntmps40
    go_wp2_with (go_at_call 47; (with_reducible refine (hb'.out).mono ?_); rintro e w' ⟨rfl, rfl⟩)
    go_ret
    exact ⟨ret_int (by omega), rfl⟩
/-- A row after some rounds: the first byte, zeros, and the lowest bytes. -/
def numP (k n i : Nat) : List Int := (247 + (k : Int)) :: (List.replicate (k - i) 0 ++ be i n)
theorem numP_length (k n i : Nat) (h : i ≤ k) : (numP k n i).length = 1 + k := by simp [numP, be_length]; omega
theorem numP_set (k n i : Nat) (h : i < k) : (numP k n i).set (k - i) ((n / 256 ^ i % 256 : Nat) : Int) = numP k n (i + 1) := by
  obtain ⟨d, hd⟩ : ∃ d, k - i = d + 1 := ⟨k - i - 1, by omega⟩
  have hd2 : k - (i + 1) = d := by omega
  unfold numP
  rw [hd, hd2, List.set_cons_succ, be_succ, List.replicate_succ', List.append_assoc, List.set_append_right _ _ (by simp)]
  simp
theorem rdB_row {w : World} {g : Nat} {cs : List Int} {E : TypeId} (hg : w.heap[g]? = some (.cells (u8s cs) E (0, 0))) (n : Nat) (hn : cs.length = n) (hm : n ≤ maxLen) : RdB w (.slice (some ⟨g, 0, none⟩) n n) cs := by
  subst hn
  exact .inr ⟨g, 0, _, rfl, Nat.le_refl _, hm, (Array.getElem?_eq_some_iff.1 hg).1, fun i hi => by
    rw [Nat.zero_add, cell_of_row _ _ _ _ _ _ hg]; exact u8s_get _ _ (by omega)⟩
theorem ownB_row {w : World} {g : Nat} {cs : List Int} {E : TypeId} (hg : w.heap[g]? = some (.cells (u8s cs) E (0, 0))) (n : Nat) (hn : cs.length = n) (hm : n ≤ maxLen) {B : Nat} (hB : B ≤ g) : OwnB B E w (.slice (some ⟨g, 0, none⟩) n n) cs := by
  subst hn
  exact ⟨by simp [u8v], .inr ⟨g, _, _, rfl, hB, hg, Nat.le_refl _, hm, by simp [u8s], by simp [u8s, u8v, List.take_of_length_le]⟩⟩
set_option maxRecDepth 10000 in
theorem number_any (n : Nat) (hn : n < 18446744073709551616) (w : World) : Calls Try.prog 30 #[.int .u64 (n : Int)] w fun e w' => e = .returned (.slice (some ⟨w.heap.size, 0, none⟩) (numL n) (numL n)) ∧ w'.heap[w.heap.size]? = some (.cells (u8s (numB n)) 5 (0, 0)) ∧ Below w.heap.size w w' := by
  have hs := Lib.hid (fun w => sizeOf_any n hn w)
  have hmk := Lib.hid (fun (k : Nat) (hk : k ≤ 9) (wx : World) => run_makeB (P := Try.prog) wx 29 5 Try.underlying29 (by kernel_rfl) k k (Nat.le_refl _) (by omega))
  by_cases h : n ≤ 247
  · have e : numL n = 1 := by simp [numL, h]
    have e2 : numB n = [(n : Int)] := by simp [numB, h]
    rw [e] at hs
    rw [e, e2]
    have hm1 : ∀ wx : World, (Instr.makeSlice 29 (.int .i64 1) (.int .i64 1)).run Try.prog wx = .ok (.slice (some ⟨wx.heap.size, 0, none⟩) 1 1) (wx.alloc (.cells (u8s [0]) 5)) := hmk.out 1 (by omega)
    have hg := heap_alloc_new w (.cells (u8s [0]) 5)
    have hc : (w.alloc (.cells (u8s [0]) 5)).cell? ⟨w.heap.size, 0, none⟩ = some (.int .u8 0) := by rw [cell_of_row _ _ _ _ _ _ hg]; rfl
    have hf := frozen_of_row _ _ 0 _ _ hg
    have hg' := Lib.hid hg
    clear hn e e2 hmk hg
    go_enter Try.func30, Try.ntmps30
    go_wp2_with (go_at_call 40; (with_reducible refine (hs.out _).mono ?_); rintro e w' ⟨rfl, rfl⟩)
    go_ret
    exact ⟨rfl, heap_alloc_new w _, (Below.refl _ _).alloc (Nat.le_refl _) _⟩
  · obtain ⟨k1, k8, _, kh⟩ := ks_bounds n (by omega) hn
    have e : numL n = 1 + ks n := by simp [numL, h]
    have e2 : numB n = numP (ks n) n (ks n) := by simp [numB, h, numP]
    rw [e] at hs
    rw [e, e2]
    clear e e2 kh hn
    generalize ks n = k at *
    have hm1 : ∀ wx : World, (Instr.makeSlice 29 (.int .i64 (1 + (k : Int))) (.int .i64 (1 + (k : Int)))).run Try.prog wx = .ok (.slice (some ⟨wx.heap.size, 0, none⟩) (1 + k) (1 + k)) (wx.alloc (.cells (u8s (zerosB (1 + k))) 5)) := fun wx => by
      have h := hmk.out (1 + k) (by omega) wx
      rw [show ((1 + k : Nat) : Int) = 1 + (k : Int) by omega] at h
      exact h
    have hg := heap_alloc_new w (.cells (u8s (zerosB (1 + k))) 5)
    have hc : (w.alloc (.cells (u8s (zerosB (1 + k))) 5)).cell? ⟨w.heap.size, 0, none⟩ = some (.int .u8 (ith (zerosB (1 + k)) 0)) := by rw [cell_of_row _ _ _ _ _ _ hg]; exact u8s_get _ _ (by rw [zerosB_length]; omega)
    have hf := frozen_of_row _ _ 0 _ _ hg
    have hg2 := setCell_row hg 0 (.int .u8 (247 + (k : Int)))
    rw [u8s_set, show (zerosB (1 + k)).set 0 (247 + (k : Int)) = numP k n 0 by simp [zerosB, numP, be, Nat.add_comm 1 k, List.replicate_succ]] at hg2
    have hB := Lib.hid ((Below.refl _ _).alloc (Nat.le_refl _) _ : Below w.heap.size w (w.alloc (.cells (u8s (numP k n 0)) 5)))
    have hrow := Lib.hid (heap_alloc_new w (.cells (u8s (numP k n 0)) 5))
    have h0 : (u8s (zerosB (1 + k))).setIfInBounds 0 (Value.int IntKind.u8 (247 + (k : Int))) = u8s (numP k n 0) := by
      rw [u8s_set]; congr 1
      simp [zerosB, numP, be, Nat.add_comm 1 k, List.replicate_succ]
    have hk1 : 1 + (k : Int) - 1 = (k : Int) := by omega
    have hne : (1 + (k : Int) == 1) = false := by simp; omega
    clear hmk hg
    go_enter Try.func30, Try.ntmps30
    go_wp2_with (go_at_call 40; (with_reducible refine (hs.out _).mono ?_); rintro e w' ⟨rfl, rfl⟩)
    generalize w.alloc (.cells (u8s (numP k n 0)) 5) = W at *
    clear hc hf hm1 h0 hk1 hne hs
    go_loopw [26] (fun i wr => ∃ j : Nat, j ≤ k ∧ i = .int .i64 j ∧ Below w.heap.size w wr ∧ wr.heap[w.heap.size]? = some (.cells (u8s (numP k n j)) 5 (0, 0))) (fun i _ => match i with | .int _ m => k - m.toNat | _ => 0)
    case atStart => exact ⟨0, Nat.zero_le _, rfl, hB.out, hrow.out⟩
    case round =>
      obtain ⟨j, hj, rfl, hb, hr⟩ := hrel
      by_cases hlt : j < k
      · obtain ⟨m, hm⟩ : ∃ m : Nat, (k : Int) - (j : Int) = (m : Int) := ⟨k - j, by omega⟩
        have hmv : m = k - j := by omega
        have hc : wr.cell? ⟨w.heap.size, m, none⟩ = some (.int .u8 (ith (numP k n j) m)) := by rw [cell_of_row _ _ _ _ _ _ hr]; exact u8s_get _ _ (by rw [numP_length _ _ _ hj]; omega)
        have hf := frozen_of_row _ _ m _ _ hr
        have hmk : m < 1 + k := by omega
        have hset := Lib.hid (show (numP k n j).set m ((n / 256 ^ j % 256 : Nat) : Int) = numP k n (j + 1) by rw [hmv]; exact numP_set k n j hlt)
        have hb' := Lib.hid hb; have hr' := Lib.hid hr
        clear hb hr hmv
        go_wp2
        go_roundw
        case rel =>
          have e : ((n / 256 ^ j % 256 : Nat) : Int) = (n : Int) / 2 ^ (8 * j) % 256 := by rw [pow256]; simp
          have h := setCell_row hr'.out m (.int .u8 ((n / 256 ^ j % 256 : Nat) : Int))
          rw [u8s_set, hset.out] at h
          rw [← e]
          exact ⟨j + 1, by omega, by go_num, hb'.out.setCell (p := ⟨w.heap.size, m, none⟩) (Nat.le_refl w.heap.size) _, h⟩
        case measure => go_num
      · obtain rfl : j = k := by omega
        have hb' := Lib.hid hb; have hr' := Lib.hid hr
        clear hb hr
        go_wp2
        go_ret
        exact ⟨rfl, hr'.out, hb'.out⟩
set_option maxRecDepth 10000 in
theorem or_byte (x b : Int) (hx : 0 ≤ x ∧ x < 72057594037927936) (hb : 0 ≤ b ∧ b < 256) : bits BinOp.or IntKind.u64 (x * 256) b = x * 256 + b := by
  obtain ⟨n, rfl⟩ := Int.eq_ofNat_of_zero_le hx.1
  obtain ⟨m, rfl⟩ := Int.eq_ofNat_of_zero_le hb.1
  have h1 : (BitVec.ofInt 64 ((n : Int) * 256)).toNat = 2 ^ 8 * n := by
    rw [show (n : Int) * 256 = ((2 ^ 8 * n : Nat) : Int) by omega, BitVec.ofInt_natCast, BitVec.toNat_ofNat]; omega
  have h2 : (BitVec.ofInt 64 (m : Int)).toNat = m := by
    rw [BitVec.ofInt_natCast, BitVec.toNat_ofNat]; omega
  show IntKind.u64.wrap ((BitVec.ofInt 64 ((n : Int) * 256) ||| BitVec.ofInt 64 (m : Int)).toNat : Int) = _
  rw [BitVec.toNat_or, h1, h2, ← Nat.two_pow_add_eq_or_of_lt (by omega) n, IntKind.wrap_u64]
  omega
set_option maxRecDepth 10000 in
theorem readNumber_none (l : List Int) (bv : Value) (w : World) (hr : RdB w bv l) (hl : Bytes l) (h : readF l = none) :
    Calls Try.prog 44 #[bv] w fun e w' => e = .returned (.tuple #[.int .u64 0, .int .i64 0, .int .i64 12]) ∧ w = w' := by
  by_cases hlen0 : l.length = 0
  · obtain ⟨a, c, rfl⟩ := hr.slice
    rw [hlen0]
    clear hr hl h hlen0
    go_enter Try.func44, Try.ntmps44
    go_wp2
    go_ret3
    exact ⟨rfl, rfl⟩
  rcases hr with ⟨a, c, rfl, _, rfl⟩ | ⟨b, o, c, rfl, h1, h2, h3, h4⟩
  · simp at hlen0
  unfold maxLen at h2
  have hc0 : w.cell? ⟨b, o, none⟩ = some (.int .u8 (ith l 0)) := h4 0 (by omega)
  have hb0 := hl 0
  unfold readF at h
  rw [if_neg hlen0] at h
  by_cases hq : ith l 0 ≤ 247
  · rw [if_pos hq] at h
    cases h
  rw [if_neg hq] at h
  obtain ⟨K, hK⟩ : ∃ K : Nat, ith l 0 = (K : Int) + 247 := ⟨(ith l 0 - 247).toNat, by omega⟩
  have eK : (ith l 0).toNat - 247 = K := by omega
  rw [eK] at h
  rw [hK] at hc0
  have hx1 : 1 + ((K : Int) + 247) - 247 = (K : Int) + 1 := by omega
  have hK1 : 1 ≤ K := by omega
  have hK8 : K ≤ 8 := by omega
  split at h
  · rename_i hlen
    generalize l.length = N at *
    clear hl h h4 hb0 hq hK eK
    go_enter Try.func44, Try.ntmps44
    go_wp2
    go_ret3
    exact ⟨rfl, rfl⟩
  rename_i hlen
  have hbd := bytes_drop l 1 hl
  have hcells := Lib.hid (fun j (hj : j < K) => (show w.cell? ⟨b, o + 1 + j, none⟩ = some (.int .u8 (ith (l.drop 1) j)) from by
    rw [ith_drop, Nat.add_assoc]; exact h4 (1 + j) (by omega)))
  have hbyte := Lib.hid (fun j => hbd j)
  have hval := Lib.hid (fun j (hj : j ≤ 7) => (show 0 ≤ (valN (l.drop 1) j : Int) ∧ (valN (l.drop 1) j : Int) < 72057594037927936 from by
    have h1 := valN_lt (l.drop 1) hbd j
    have h2 : (256 : Nat) ^ j ≤ 72057594037927936 := (show (256 : Nat) ^ j ≤ 256 ^ 7 from Nat.pow_le_pow_right (by decide) hj)
    omega))
  have hstep := Lib.hid (fun j => (show (valN (l.drop 1) (j + 1) : Int) = (valN (l.drop 1) j : Int) * 256 + ith (l.drop 1) j from by
    have := hbd j
    rw [valN]; omega))
  have hn64 := valN_lt64 (l.drop 1) hbd K hK8
  have hs := Lib.hid (sizeOf_any (valN (l.drop 1) K) hn64)
  have hnL : numL (valN (l.drop 1) K) ≠ K + 1 := by
    intro h5
    split at h
    · cases h
    · rename_i h6
      unfold numL at h5
      split at h5
      · omega
      · exact h6 ⟨by omega, by omega⟩
  have hnL' : ((numL (valN (l.drop 1) K) : Nat) : Int) ≠ (K : Int) + 1 := by omega
  generalize hV : valN (l.drop 1) K = V at hs hnL'
  have hV' := Lib.hid hV
  generalize numL V = M at hs hnL'
  have hlK : K + 1 ≤ l.length := by omega
  have hbne : ((M : Int) == (K : Int) + 1) = false := by simpa using hnL'
  generalize l.length = N at *
  clear h h4 hn64 hlen hbd hq hb0 hK eK hnL hV hnL'
  go_enter Try.func44, Try.ntmps44
  go_wp2
  go_loop [6, 34] (fun x i => ∃ j : Nat, j ≤ K ∧ i = .int .i64 j ∧ x = .int .u64 (valN (l.drop 1) j : Nat)) (fun _ i => match i with | .int _ m => K - m.toNat | _ => 0)
  case atStart => exact ⟨0, Nat.zero_le _, rfl, rfl⟩
  case round =>
    obtain ⟨j, hj, rfl, rfl⟩ := hrel
    by_cases hlt : j < K
    · have hck := hcells.out j hlt
      have hb := hbyte.out j
      have hx := hval.out j (by omega)
      have hor := Lib.hid (or_byte _ _ hx hb)
      have hnx := hstep.out j
      generalize hY : valN (l.drop 1) (j + 1) = y at hnx
      generalize hX : valN (l.drop 1) j = x at *
      generalize ith (l.drop 1) j = z at *
      have hnx' := Lib.hid hnx; have hY' := Lib.hid hY
      clear hnx hY hX
      go_wp2
      refine ⟨⟨j + 1, by omega, rfl, ?_⟩, ?_⟩
      · rw [hor.out, ← hnx'.out, hY'.out]
      · show K - ((j : Int) + 1).toNat < K - (j : Int).toNat
        omega
    · obtain rfl : j = K := by omega
      rw [hV'.out]
      clear hV' hcells hbyte hval hstep
      go_wp2_with (go_at_call 40; (with_reducible refine (hs.out _).mono ?_); rintro e w' ⟨rfl, rfl⟩)
      go_ret3
      exact ⟨rfl, rfl⟩
set_option maxRecDepth 10000 in
theorem readNumber_some (l : List Int) (bv : Value) (w : World) (hr : RdB w bv l) (hl : Bytes l) (n u : Nat) (h : readF l = some (n, u)) :
    Calls Try.prog 44 #[bv] w fun e w' => e = .returned (.tuple #[.int .u64 (n : Int), .int .i64 (u : Int), .int .i64 0]) ∧ w = w' := by
  obtain ⟨hn64, hu, hul, htk⟩ := readF_some hl h
  have hs := Lib.hid (sizeOf_any n hn64)
  rw [← hu] at hs
  have hu1 := numL_pos n
  have hu9 := numL_le n hn64
  rw [← hu] at hu1 hu9
  rcases hr with ⟨a, c, rfl, _, rfl⟩ | ⟨b, o, c, rfl, h1, h2, h3, h4⟩
  · simp at hul; omega
  unfold maxLen at h2
  have hlen0 : l.length ≠ 0 := by omega
  have hc0 : w.cell? ⟨b, o, none⟩ = some (.int .u8 (ith l 0)) := h4 0 (by omega)
  have hb0 := hl 0
  unfold readF at h
  rw [if_neg hlen0] at h
  by_cases hq : ith l 0 ≤ 247
  · rw [if_pos hq] at h
    obtain ⟨e1, e2⟩ := Prod.mk.injEq .. ▸ Option.some.inj h
    subst e1 e2
    have hlp : 0 < l.length := by omega
    generalize l.length = N at *
    clear hs hu hu1 hu9 htk h h4 hn64 hl hul
    generalize ith l 0 = q at *
    go_enter Try.func44, Try.ntmps44
    go_wp2
    go_ret3
    exact ⟨by rw [Int.toNat_of_nonneg (by omega)]; rfl, rfl⟩
  · rw [if_neg hq] at h
    obtain ⟨K, hK⟩ : ∃ K : Nat, ith l 0 = (K : Int) + 247 := ⟨(ith l 0 - 247).toNat, by omega⟩
    have eK : (ith l 0).toNat - 247 = K := by omega
    rw [eK] at h
    split at h
    · cases h
    rename_i hlen
    split at h
    · rename_i hks
      obtain ⟨e1, e2⟩ := Prod.mk.injEq .. ▸ Option.some.inj h
      have hbd := bytes_drop l 1 hl
      have hcells := Lib.hid (fun j (hj : j < K) => (show w.cell? ⟨b, o + 1 + j, none⟩ = some (.int .u8 (ith (l.drop 1) j)) from by
        rw [ith_drop, Nat.add_assoc]; exact h4 (1 + j) (by omega)))
      have hbyte := Lib.hid (fun j => hbd j)
      have hval := Lib.hid (fun j (hj : j ≤ 7) => (show 0 ≤ (valN (l.drop 1) j : Int) ∧ (valN (l.drop 1) j : Int) < 72057594037927936 from by
        have h1 := valN_lt (l.drop 1) hbd j
        have h2 : (256 : Nat) ^ j ≤ 72057594037927936 := (show (256 : Nat) ^ j ≤ 256 ^ 7 from Nat.pow_le_pow_right (by decide) hj)
        omega))
      have hstep := Lib.hid (fun j => (show (valN (l.drop 1) (j + 1) : Int) = (valN (l.drop 1) j : Int) * 256 + ith (l.drop 1) j from by
        have := hbd j
        rw [valN]; omega))
      have hfin := Lib.hid e1
      rw [← e2] at hs ⊢
      rw [hK] at hc0
      have hx1 : 1 + ((K : Int) + 247) - 247 = (K : Int) + 1 := by omega
      have hlK : K + 1 ≤ l.length := by omega
      have hK1 : 1 ≤ K := by omega
      have hK8 : K ≤ 8 := by omega
      generalize l.length = N at *
      clear hu hu1 hu9 htk h h4 hn64 hul e2 e1 hks hlen hbd hq hb0 hK eK
      go_enter Try.func44, Try.ntmps44
      go_wp2
      go_loop [6, 34] (fun x i => ∃ j : Nat, j ≤ K ∧ i = .int .i64 j ∧ x = .int .u64 (valN (l.drop 1) j : Nat)) (fun _ i => match i with | .int _ m => K - m.toNat | _ => 0)
      case atStart => exact ⟨0, Nat.zero_le _, rfl, rfl⟩
      case round =>
        obtain ⟨j, hj, rfl, rfl⟩ := hrel
        by_cases hlt : j < K
        · have hck := hcells.out j hlt
          have hb := hbyte.out j
          have hx := hval.out j (by omega)
          have hor := Lib.hid (or_byte _ _ hx hb)
          have hnx := hstep.out j
          generalize hY : valN (l.drop 1) (j + 1) = y at hnx
          generalize hX : valN (l.drop 1) j = x at *
          generalize ith (l.drop 1) j = z at *
          have hnx' := Lib.hid hnx; have hY' := Lib.hid hY
          clear hnx hY hX
          go_wp2
          refine ⟨⟨j + 1, by omega, rfl, ?_⟩, ?_⟩
          · rw [hor.out, ← hnx'.out, hY'.out]
          · show K - ((j : Int) + 1).toNat < K - (j : Int).toNat
            omega
        · obtain rfl : j = K := by omega
          rw [hfin.out]
          clear hfin hcells hbyte hval hstep
          go_wp2_with (go_at_call 40; (with_reducible refine (hs.out _).mono ?_); rintro e w' ⟨rfl, rfl⟩)
          go_ret3
          exact ⟨rfl, rfl⟩
    · cases h
theorem readNumber_any (l : List Int) (bv : Value) (w : World) (hr : RdB w bv l) (hl : Bytes l) :
    Calls Try.prog 44 #[bv] w fun e w' => e = .returned (.tuple #[.int .u64 (rdN l : Nat), .int .i64 (rdU l : Nat), .int .i64 (rdE l)]) ∧ w = w' := by
  cases h : readF l with
  | none => obtain ⟨h1, h2, h3⟩ := rd_none h; rw [h1, h2, h3]; exact readNumber_none l bv w hr hl h
  | some p => obtain ⟨n, u⟩ := p; obtain ⟨h1, h2, h3⟩ := rd_some h; rw [h1, h2, h3]; exact readNumber_some l bv w hr hl n u h
end Go.Proofs.Ytfaojjleapenaab
namespace Go.Proofs.Ytfaojjleapenaab
open Go.RowKit Go.Ytfaojjleapenaab
set_option linter.unusedVariables false
theorem rdB_at {w : World} {a : Option Addr} {n c : Nat} {l : List Int} (h : RdB w (.slice a n c) l) (i : Nat) (hi : i < l.length) : ∃ b o, a = some ⟨b, o, none⟩ ∧ b < w.heap.size ∧ w.cell? ⟨b, o + i, none⟩ = some (.int .u8 (ith l i)) := by
  rcases h with ⟨_, _, _, _, rfl⟩ | ⟨b, o, c', h1, h2, h3, h4, h5⟩
  · exact absurd hi (Nat.not_lt_zero _)
  · cases h1
    exact ⟨b, o, rfl, h4, h5 i hi⟩
def sameF (a b : List Int) : Bool := decide (a = b)
theorem sameF_len {a b : List Int} (h : a.length ≠ b.length) : sameF a b = false := by
  simp only [sameF, decide_eq_false_iff_not]; intro e; exact h (by rw [e])
theorem sameF_not {a b : List Int} (k : Nat) (h : ith a k ≠ ith b k) : sameF a b = false := by
  simp only [sameF, decide_eq_false_iff_not]; intro e; exact h (by rw [e])
theorem sameF_yes {a b : List Int} (h : a.length = b.length) (h2 : ∀ i, i < a.length → ith a i = ith b i) : sameF a b = true := by
  simp only [sameF, decide_eq_true_eq]; exact ith_ext h h2
theorem sameF_self (a : List Int) : sameF a a = true := by simp [sameF]
set_option maxRecDepth 100000 in
theorem same_any (va vb : Value) (a b : List Int) (w : World) (hm : a.length ≤ 140737488355328) (h1 : RdB w va a) (h2 : RdB w vb b) :
    Calls Try.prog 13 #[va, vb] w fun e w' => e = .returned (.bool (sameF a b)) ∧ Draws w w' := by
  obtain ⟨a1, c1, rfl⟩ := h1.slice
  obtain ⟨a2, c2, rfl⟩ := h2.slice
  by_cases hlen : a.length = b.length
  · rw [← hlen] at h2 ⊢
    have h1' := Lib.hid h1; have h2' := Lib.hid h2; have hb := Lib.hid hlen
    clear h1 h2 hlen
    generalize hna : a.length = n at *
    have hn := Lib.hid hna
    clear hna
    go_enter Try.func13, Try.ntmps13
    go_wp2
    go_loopw [5] (fun i wr => ∃ k : Nat, k ≤ n ∧ i = .int .i64 k ∧ Draws w wr ∧ ∀ j, j < k → ith a j = ith b j) (fun i _ => match i with | .int _ m => n - m.toNat | _ => 0)
    case atStart => exact ⟨0, Nat.zero_le _, rfl, Draws.refl _, fun j hj => absurd hj (Nat.not_lt_zero _)⟩
    case round =>
      obtain ⟨k, hk, rfl, hd, he⟩ := hrel
      have he' := Lib.hid he; clear he
      by_cases hlt : k < n
      · obtain ⟨b1, o1, rfl, _, e1⟩ := rdB_at h1'.out k (by rw [hn.out]; exact hlt)
        obtain ⟨b2, o2, rfl, _, e2⟩ := rdB_at h2'.out k (by rw [← hb.out]; exact hlt)
        have c1 := (hd.cell _).trans e1
        have c2 := (hd.cell _).trans e2
        have hnot := Lib.hid (fun h => sameF_not (a := a) (b := b) k h)
        by_cases hx : ith a k = ith b k
        · have hx' := Lib.hid hx
          rw [← hx] at c2
          clear hx hnot
          generalize hX : ith a k = x at c1 c2
          clear hX e1 e2
          go_wp2
          go_quiet (fail)
          go_wp2
          go_roundw
          case rel => exact ⟨k + 1, by omega, by go_num, hd.drewN _, fun j hj => by
            rcases Nat.lt_or_ge j k with h | h
            · exact he'.out j h
            · obtain rfl : j = k := by omega
              exact hx'.out⟩
          case measure => go_num
        · have hs := Lib.hid (hnot.out hx)
          have hxb : (ith a k != ith b k) = true := by simpa using hx
          clear hnot
          generalize ith a k = x at *
          generalize ith b k = y at *
          clear e1 e2 hx
          go_wp2
          go_quiet (fail)
          go_wp2
          go_ret
          exact ⟨ret_bool hs.out.symm, hd.drewN _⟩
      · have hkn : k = n := by omega
        have hs := Lib.hid (sameF_yes (a := a) (b := b) (by rw [hn.out]; exact hb.out) (fun i hi => he'.out i (by rw [hn.out] at hi; omega)))
        clear hkn
        go_wp2
        go_ret
        exact ⟨ret_bool hs.out.symm, hd⟩
  · have hs := Lib.hid (sameF_len hlen)
    have hbne : ((a.length : Int) != (b.length : Int)) = true := by simp; omega
    clear h1 h2
    generalize a.length = n at *
    generalize b.length = m at *
    clear hlen
    go_enter Try.func13, Try.ntmps13
    go_wp2
    go_ret
    exact ⟨ret_bool hs.out.symm, Draws.refl _⟩
theorem draws_rdB {w w' : World} (h : Draws w w') {v : Value} {l : List Int} (hr : RdB w v l) : RdB w' v l := hr.mono (h.below (Below.refl _ _))
end Go.Proofs.Ytfaojjleapenaab
namespace Go.Proofs.Ytfaojjleapenaab
open Go.RowKit Go.Ytfaojjleapenaab
set_option linter.unusedVariables false
theorem rdB_len0 {w : World} {v : Value} {r : List Int} (h : RdB w v r) (h0 : r.length = 0) : ∃ a c, v = .slice a 0 c := by
  obtain ⟨a, c, rfl⟩ := h.slice
  exact ⟨a, c, by rw [h0]⟩
theorem step_copyB {P : Program} {ops : Array Oper} {o : Oper} {a : Act} {w : World} {K : Act → World → Prop} {Q : Exit → Act → World → Prop} {E : Prop} (hgd : o.guard = none) (d s : Operand) (dT sT : TypeId)
    (ho : o.op = .call { callee := .builtin .copy, args := #[d, s], argTypes := #[dT, sT] }) (elem : TypeId) (hu : P.underlying dT = some (.slice elem)) (hsz : (P.info? elem).map (·.size) = some 1)
    (dp : Option Addr) (g off dLen dCap : Nat) (hd : a.eval d = .slice dp dLen dCap) (sv : Value) (hs : a.eval s = sv) (r : List Int) (hr : RdB w sv r) (hdp : 0 < r.length → dp = some ⟨g, off, none⟩)
    (cs : List Int) (t : TypeId) (hg : w.heap[g]? = some (.cells (u8s cs) t (0, 0))) (hle : r.length ≤ dLen) (hfit : off + r.length ≤ cs.length)
    (h : ∀ w', Hid (w' = w.setRow g (u8s (overlay cs off r))) → K (a.put o.dst (goInt r.length)) w') :
    if Region.wanted o (yielded ops a.tmps) = true then Oper.wp P o a w K Q else E := by
  have hw : Region.wanted o (yielded ops a.tmps) = true := by simp [Region.wanted, hgd]
  rw [if_pos hw]
  have h := h _ (show _ = _ from rfl)
  by_cases h0 : r.length = 0
  · obtain ⟨sa, sc, rfl⟩ := rdB_len0 hr h0
    obtain rfl : r = [] := List.eq_nil_of_length_eq_zero h0
    have hrun := run_copy_none (P := P) w dT sT o.type elem dp sa dLen dCap 0 sc hu hsz (Nat.zero_min _)
    unfold Oper.wp
    simp [execOp, ho, resolve, invoke, builtin, hd, hs, hrun, Result.andThen]
    have e : overlay cs off [] = cs := by simp [overlay]
    rw [e, setRow_self w g _ t _ hg] at h
    exact h
  · obtain rfl := hdp (by omega)
    rcases hr with ⟨sa, sc, rfl, _, rfl⟩ | ⟨b, o', c, rfl, h1, h2, h3, h4⟩
    · simp at h0
    · have hrun := run_copy_row (P := P) w dT sT o.type elem g off dLen dCap ⟨b, o', none⟩ r.length c (u8s cs) t (u8v r) hu hsz hg (by rw [u8v_length]; exact (Nat.min_eq_left hle).symm) (RdB.src h4) (by rw [u8v_length, u8s_size]; exact hfit) (u8v_one r)
      unfold Oper.wp
      simp [execOp, ho, resolve, invoke, builtin, hd, hs, hrun, Result.andThen]
      have e : ((u8s cs).toList.take off ++ (u8v r ++ (u8s cs).toList.drop (off + r.length))).toArray = u8s (overlay cs off r) := by
        simp [u8s, u8v, overlay]
      rw [u8v_length, e]; exact h
theorem below_drewG (B : Nat) (w : World) : Below B w w.drew := ((Draws.refl _).drewN 1).below (Below.refl _ _)
theorem below_drew (w : World) : Below w.heap.size w w.drew := below_drewG _ w
/-- A function without a result has come to its end. -/
def IsRet (e : Ending) : Prop := ∃ v, e = .returned v
theorem put_some (g A T : Nat) (B : List Int) (rv : Value) (r : List Int) (w : World) (hT : B.length = T) (hb : w.heap[g]? = some (.cells (u8s B) 5 (0, 0)))
    (hv : w.heap[g + 1]? = some (.cells #[.slice (some ⟨g, 0, none⟩) T T] 29 (0, 0))) (ha : w.heap[g + 2]? = some (.cells #[.int .i64 (A : Int)] 3 (0, 0)))
    (hr : RdB w rv r) (hfit : A + r.length ≤ T) (hm : T ≤ 1000000) (hlt : A < T) :
    Calls Try.prog 48 #[rv, .pointer (some ⟨g + 2, 0, none⟩), .pointer (some ⟨g + 1, 0, none⟩)] w fun e w' => IsRet e ∧ w'.heap[g]? = some (.cells (u8s (overlay B A r)) 5 (0, 0)) ∧ w'.heap[g + 1]? = some (.cells #[.slice (some ⟨g, 0, none⟩) T T] 29 (0, 0)) ∧ w'.heap[g + 2]? = some (.cells #[.int .i64 ((A + r.length : Nat) : Int)] 3 (0, 0)) ∧ Below g w w' := by
  have c1 : w.cell? ⟨g + 1, 0, none⟩ = some (.slice (some ⟨g, 0, none⟩) T T) := by rw [cell_of_row _ _ _ _ _ _ hv]; rfl
  have c2 : w.cell? ⟨g + 2, 0, none⟩ = some (.int .i64 (A : Int)) := by rw [cell_of_row _ _ _ _ _ _ ha]; rfl
  have f2 := frozen_of_row _ _ 0 _ _ ha
  have hrs := hr
  obtain ⟨ra, rc, rfl⟩ := hr.slice
  have hr' := Lib.hid hrs; have hb' := Lib.hid hb; have hv' := Lib.hid hv; have ha' := Lib.hid ha; have hT' := Lib.hid hT
  clear hr hrs hb hv ha hT
  generalize hn : r.length = n at *
  have hn' := Lib.hid hn
  clear hn
  have g1 : A ≤ T := by omega
  have g2 : ¬ T = A := by omega
  go_enter Try.func48, Try.ntmps48
  have hwr : IntKind.i64.wrap ((A : Int) + (n : Int)) = (A : Int) + (n : Int) := IntWalk.i64_in _ (by omega)
  have k0 := Lib.hid (fun (w4 : World) (h : w4 = w.drew.setRow g (u8s (overlay B A r))) => (show w4.heap[g + 2]? = some (.cells #[.int .i64 (A : Int)] 3 (0, 0)) from by rw [h]; exact (setRow_other w.drew g (g + 2) _ (by omega)).trans ha'.out))
  go_wp2
  go_region_law ((refine step_copyB rfl _ _ 29 29 rfl 5 Try.underlying29 (by kernel_rfl) (some ⟨g, A, none⟩) g A (T - A) (T - A) rfl _ rfl r (hr'.out.mono (below_drew w)) (fun _ => rfl) B 5 hb'.out (by rw [hn'.out]; omega) (by rw [hn'.out, hT'.out]; omega) ?_; intro w4 hw4; have k2 : w4.cell? ⟨g + 2, 0, none⟩ = some (.int .i64 (A : Int)) := (by rw [cell_of_row _ _ _ _ _ _ (k0.out _ hw4.out)]; rfl); have k3 : w4.frozen? ⟨g + 2, 0, none⟩ = false := (frozen_of_row _ _ 0 _ _ (k0.out _ hw4.out)); rw [hn'.out]))
  all_goals
    go_end0
    refine ⟨⟨_, rfl⟩, ?_, ?_, ?_, ?_⟩
    · rw [hw4.out]
      exact (setCell_rows _ _ _ _ (by omega)).trans (setRow_heap w.drew g _ _ _ _ hb'.out)
    · rw [hw4.out]
      exact (setCell_rows _ _ _ _ (by omega)).trans ((setRow_other w.drew g (g + 1) _ (by omega)).trans hv'.out)
    · exact setCell_row (k0.out _ hw4.out) 0 (.int .i64 ((A : Int) + (n : Int)))
    · rw [hw4.out]
      exact (below_setRow' (below_drewG g w) (Nat.le_refl _) _).setCell (by simp) _
theorem put_end (g A T : Nat) (B : List Int) (rv : Value) (r : List Int) (w : World) (hT : B.length = T) (hb : w.heap[g]? = some (.cells (u8s B) 5 (0, 0)))
    (hv : w.heap[g + 1]? = some (.cells #[.slice (some ⟨g, 0, none⟩) T T] 29 (0, 0))) (ha : w.heap[g + 2]? = some (.cells #[.int .i64 (A : Int)] 3 (0, 0)))
    (hr : RdB w rv r) (hfit : A + r.length ≤ T) (hm : T ≤ 1000000) (hlt : A = T) :
    Calls Try.prog 48 #[rv, .pointer (some ⟨g + 2, 0, none⟩), .pointer (some ⟨g + 1, 0, none⟩)] w fun e w' => IsRet e ∧ w'.heap[g]? = some (.cells (u8s (overlay B A r)) 5 (0, 0)) ∧ w'.heap[g + 1]? = some (.cells #[.slice (some ⟨g, 0, none⟩) T T] 29 (0, 0)) ∧ w'.heap[g + 2]? = some (.cells #[.int .i64 ((A + r.length : Nat) : Int)] 3 (0, 0)) ∧ Below g w w' := by
  subst hlt
  have c1 : w.cell? ⟨g + 1, 0, none⟩ = some (.slice (some ⟨g, 0, none⟩) A A) := by rw [cell_of_row _ _ _ _ _ _ hv]; rfl
  have c2 : w.cell? ⟨g + 2, 0, none⟩ = some (.int .i64 (A : Int)) := by rw [cell_of_row _ _ _ _ _ _ ha]; rfl
  have f2 := frozen_of_row _ _ 0 _ _ ha
  have hrs := hr
  obtain ⟨ra, rc, rfl⟩ := hr.slice
  have hr' := Lib.hid hrs; have hb' := Lib.hid hb; have hv' := Lib.hid hv; have ha' := Lib.hid ha; have hT' := Lib.hid hT
  clear hr hrs hb hv ha hT
  generalize hn : r.length = n at *
  have hn' := Lib.hid hn
  clear hn
  go_enter Try.func48, Try.ntmps48
  have hwr : IntKind.i64.wrap ((A : Int) + (n : Int)) = (A : Int) + (n : Int) := IntWalk.i64_in _ (by omega)
  have k0 := Lib.hid (fun (w4 : World) (h : w4 = w.drew.setRow g (u8s (overlay B A r))) => (show w4.heap[g + 2]? = some (.cells #[.int .i64 (A : Int)] 3 (0, 0)) from by rw [h]; exact (setRow_other w.drew g (g + 2) _ (by omega)).trans ha'.out))
  go_wp2
  go_region_law ((refine step_copyB rfl _ _ 29 29 rfl 5 Try.underlying29 (by kernel_rfl) (some ⟨g, 0, none⟩) g A 0 0 rfl _ rfl r (hr'.out.mono (below_drew w)) (fun h => by rw [hn'.out] at h; omega) B 5 hb'.out (by rw [hn'.out]; omega) (by rw [hn'.out, hT'.out]; omega) ?_; intro w4 hw4; have k2 : w4.cell? ⟨g + 2, 0, none⟩ = some (.int .i64 (A : Int)) := (by rw [cell_of_row _ _ _ _ _ _ (k0.out _ hw4.out)]; rfl); have k3 : w4.frozen? ⟨g + 2, 0, none⟩ = false := (frozen_of_row _ _ 0 _ _ (k0.out _ hw4.out)); rw [hn'.out]))
  all_goals
    go_end0
    refine ⟨⟨_, rfl⟩, ?_, ?_, ?_, ?_⟩
    · rw [hw4.out]
      exact (setCell_rows _ _ _ _ (by omega)).trans (setRow_heap w.drew g _ _ _ _ hb'.out)
    · rw [hw4.out]
      exact (setCell_rows _ _ _ _ (by omega)).trans ((setRow_other w.drew g (g + 1) _ (by omega)).trans hv'.out)
    · exact setCell_row (k0.out _ hw4.out) 0 (.int .i64 ((A : Int) + (n : Int)))
    · rw [hw4.out]
      exact (below_setRow' (below_drewG g w) (Nat.le_refl _) _).setCell (by simp) _
theorem put_any (g A T : Nat) (B : List Int) (rv : Value) (r : List Int) (w : World) (hT : B.length = T) (hb : w.heap[g]? = some (.cells (u8s B) 5 (0, 0)))
    (hv : w.heap[g + 1]? = some (.cells #[.slice (some ⟨g, 0, none⟩) T T] 29 (0, 0))) (ha : w.heap[g + 2]? = some (.cells #[.int .i64 (A : Int)] 3 (0, 0)))
    (hr : RdB w rv r) (hfit : A + r.length ≤ T) (hm : T ≤ 1000000) :
    Calls Try.prog 48 #[rv, .pointer (some ⟨g + 2, 0, none⟩), .pointer (some ⟨g + 1, 0, none⟩)] w fun e w' => IsRet e ∧ w'.heap[g]? = some (.cells (u8s (overlay B A r)) 5 (0, 0)) ∧ w'.heap[g + 1]? = some (.cells #[.slice (some ⟨g, 0, none⟩) T T] 29 (0, 0)) ∧ w'.heap[g + 2]? = some (.cells #[.int .i64 ((A + r.length : Nat) : Int)] 3 (0, 0)) ∧ Below g w w' := by
  rcases Nat.lt_or_ge A T with h | h
  · exact put_some g A T B rv r w hT hb hv ha hr hfit hm h
  · exact put_end g A T B rv r w hT hb hv ha hr hfit hm (by omega)
theorem below_a1 (w : World) (o : Obj) : Below w.heap.size w (w.alloc o) := (Below.refl _ _).alloc (Nat.le_refl _) o
theorem overlay_zero (h : List Int) (n : Nat) : overlay (zerosB (h.length + n)) 0 h = h ++ zerosB n := by
  unfold overlay zerosB
  rw [List.take_zero, List.nil_append, Nat.zero_add, List.drop_replicate, Nat.add_sub_cancel_left]
theorem counted_any (k n : Nat) (hk : k < 9223372036854775808) (hn : n ≤ 900000) (w : World) :
    Calls Try.prog 42 #[.int .i64 (k : Int), .int .i64 (n : Int)] w fun e w' => ∃ g, e = .returned (.tuple #[.slice (some ⟨g, 0, none⟩) (numL k + n) (numL k + n), .func (.func 48) #[] #[.pointer (some ⟨g + 2, 0, none⟩), .pointer (some ⟨g + 1, 0, none⟩)]]) ∧ w.heap.size ≤ g ∧
      w'.heap[g]? = some (.cells (u8s (numB k ++ zerosB n)) 5 (0, 0)) ∧ w'.heap[g + 1]? = some (.cells #[.slice (some ⟨g, 0, none⟩) (numL k + n) (numL k + n)] 29 (0, 0)) ∧ w'.heap[g + 2]? = some (.cells #[.int .i64 (numL k : Nat)] 3 (0, 0)) ∧ Below w.heap.size w w' := by
  have hmf : ∀ (fn : Fn) (first cap : Array Value) (w : World), (Instr.makeFunc fn first cap).run Try.prog w = .ok (.func fn first cap) w := fun _ _ _ _ => rfl
  have hN := Lib.hid (number_any k (by omega) w)
  have hL9 := numL_le k (by omega)
  have hlen := Lib.hid (numB_length k)
  generalize numL k = L at *
  generalize numB k = B at *
  have hmk := fun (wx : World) => run_makeB (P := Try.prog) wx 29 5 Try.underlying29 (by kernel_rfl) (L + n) (L + n) (Nat.le_refl _) (by omega)
  have hmk' : ∀ wx : World, (Instr.makeSlice 29 (.int .i64 ((L : Int) + (n : Int))) (.int .i64 ((L : Int) + (n : Int)))).run Try.prog wx = .ok (.slice (some ⟨wx.heap.size, 0, none⟩) (L + n) (L + n)) (wx.alloc (.cells (u8s (zerosB (L + n))) 5)) := fun wx => by
    have h := hmk wx
    rw [show ((L + n : Nat) : Int) = (L : Int) + (n : Int) by omega] at h
    exact h
  clear hmk
  go_enter Try.func42, Try.ntmps42
  go_wp2_with (go_at_call 30; (with_reducible refine (hN.out).mono ?_); rintro e w1 ⟨rfl, hg, hb⟩; have hg' := Lib.hid hg; have hb' := Lib.hid hb; clear hg hb; refine Stop.go'' _ ?_)
  refine StopP.go ?_
  have hz := hb'.out.size
  have k0 := Lib.hid (fun (W2 : World) (h : W2 = (w1.alloc (.cells (u8s (zerosB (L + n))) 5)).alloc (.cells #[.slice (some ⟨w1.heap.size, 0, none⟩) (L + n) (L + n)] 29)) => (show RdB W2 (.slice (some ⟨w.heap.size, 0, none⟩) L L) B ∧ W2.heap[w1.heap.size]? = some (.cells (u8s (zerosB (L + n))) 5 (0, 0)) ∧ W2.heap[w1.heap.size + 1]? = some (.cells #[.slice (some ⟨w1.heap.size, 0, none⟩) (L + n) (L + n)] 29 (0, 0)) ∧ Below w.heap.size w W2 ∧ W2.heap.size = w1.heap.size + 2 from by
    subst h
    refine ⟨(rdB_row hg'.out L hlen.out (by unfold maxLen; omega)).mono ((below_a1 w1 _).trans ((below_a1 _ _).mono (by simp))), (hp1 _ _ _ (by simp)).trans (heap_alloc_new w1 _), hn2 w1 _ _, hb'.out.trans (((below_a1 w1 _).trans ((below_a1 _ _).mono (by simp))).mono hz), by simp⟩))
  have kA := Lib.hid (k0.out _ rfl)
  have kB := Lib.hid (show overlay (zerosB (L + n)) 0 B = B ++ zerosB n by have h := overlay_zero B n; rw [hlen.out] at h; exact h)
  clear hN hg' hb'
  go_wp2_with (refine copyB rfl _ _ 29 29 rfl 5 Try.underlying29 (by kernel_rfl) w1.heap.size 0 (L + n) (L + n) rfl _ rfl B (kA.out.1) (zerosB (L + n)) 5 (kA.out.2.1) (by rw [hlen.out]; omega) (by rw [hlen.out, zerosB_length]; omega) ?_)
  intro w2 hw2
  have r0 := Lib.hid (show w2.heap[w1.heap.size]? = some (.cells (u8s (B ++ zerosB n)) 5 (0, 0)) by rw [hw2.out, kB.out]; exact setRow_heap _ _ _ _ _ _ kA.out.2.1)
  have r1 := Lib.hid (show w2.heap[w1.heap.size + 1]? = some (.cells #[.slice (some ⟨w1.heap.size, 0, none⟩) (L + n) (L + n)] 29 (0, 0)) by rw [hw2.out]; exact (setRow_other _ _ _ _ (by omega)).trans kA.out.2.2.1)
  have r2 := Lib.hid (show Below w.heap.size w w2 by rw [hw2.out]; exact below_setRow' kA.out.2.2.2.1 hz _)
  have r3 := Lib.hid (show w2.heap.size = w1.heap.size + 2 by rw [hw2.out]; simp only [World.setRow, Array.size_modify]; exact kA.out.2.2.2.2)
  have r4 := Lib.hid (show (w2.alloc (.cells #[.int .i64 (L : Int)] 3)).cell? ⟨w1.heap.size + 1, 0, none⟩ = some (.slice (some ⟨w1.heap.size, 0, none⟩) (L + n) (L + n)) by
    rw [cell_of_row _ _ _ _ _ _ ((hp1 _ _ _ (by rw [r3.out]; omega)).trans r1.out)]; rfl)
  have r5 := Lib.hid hlen.out
  clear hw2 kA kB k0
  refine Stop.go ?_
  rw [hlen.out]
  have r6 := r4.out
  clear r4
  go_wp2
  go_ret2
  refine ⟨w1.heap.size, ?_, hz, ?_, ?_, ?_, ?_⟩
  · rw [r3.out]; rfl
  · exact (hp1 _ _ _ (by rw [r3.out]; omega)).trans r0.out
  · exact (hp1 _ _ _ (by rw [r3.out]; omega)).trans r1.out
  · have h := heap_alloc_new w2 (.cells #[.int .i64 (L : Int)] 3)
    rw [r3.out] at h
    exact h
  · exact r2.out.alloc r2.out.size _
/-- The bytes of a string. -/
def textB (l : List Int) : List Int := numB l.length ++ l
theorem textB_length (l : List Int) : (textB l).length = numL l.length + l.length := by rw [textB, List.length_append, numB_length]
theorem overlay_end (h r : List Int) : overlay (h ++ zerosB r.length) h.length r = h ++ r := by
  unfold overlay
  rw [List.take_left' rfl, List.drop_eq_nil_of_le (by rw [List.length_append, zerosB_length]; omega), List.append_nil]
theorem bytes_any (sv : Value) (l : List Int) (w : World) (hr : RdB w sv l) (hl : l.length ≤ 10000) :
    Calls Try.prog 32 #[sv] w fun e w' => ∃ g, e = .returned (.tuple #[.slice (some ⟨g, 0, none⟩) (textB l).length (textB l).length, .int .i64 0]) ∧ w.heap.size ≤ g ∧ w'.heap[g]? = some (.cells (u8s (textB l)) 5 (0, 0)) ∧ Below w.heap.size w w' := by
  have hc := Lib.hid (counted_any l.length l.length (by omega) (by omega) w)
  have hL9 := numL_le l.length (by omega)
  have hpt := Lib.hid (fun (g : Nat) (w1 : World) (hg : w.heap.size ≤ g) (hB : Below w.heap.size w w1) h1 h2 h3 => put_any g (numL l.length) (numL l.length + l.length) (numB l.length ++ zerosB l.length) sv l w1 (by rw [List.length_append, numB_length, zerosB_length]) h1 h2 h3 (hr.mono hB) (Nat.le_refl _) (by omega))
  have hov := Lib.hid (show overlay (numB l.length ++ zerosB l.length) (numL l.length) l = textB l by have h := overlay_end (numB l.length) l; rw [numB_length] at h; exact h)
  rw [textB_length]
  obtain ⟨a, c, rfl⟩ := hr.slice
  clear hr
  generalize textB l = TB at *
  generalize numB l.length ++ zerosB l.length = B0 at *
  generalize numL l.length = L at *
  generalize l.length = n at *
  go_enter Try.func32, Try.ntmps32
  go_wp2_with (go_at_call 42; (with_reducible refine (hc.out).mono ?_); rintro e w1 ⟨g, rfl, hg, h1, h2, h3, hb⟩; have hp := Lib.hid (hpt.out g w1 hg hb h1 h2 h3); have hb' := Lib.hid hb; clear h1 h2 h3 hb)
  go_wp2_with (go_at_call 48; (with_reducible refine (hp.out).mono ?_); rintro e w2 ⟨⟨v, rfl⟩, r0, r1, r2, hb2⟩; have r0' := Lib.hid r0; have hb2' := Lib.hid hb2; clear r0 r1 r2 hb2)
  go_ret2
  exact ⟨g, rfl, hg, by rw [← hov.out]; exact r0'.out, hb'.out.trans (hb2'.out.mono hg)⟩
end Go.Proofs.Ytfaojjleapenaab
namespace Go.Proofs.Ytfaojjleapenaab
open Go.RowKit Go.Ytfaojjleapenaab
set_option linter.unusedVariables false
/-- What is read of a counted row: how many items, and how many bytes their number has. -/
def readC (l : List Int) (most : Int) (size : Nat) : Option (Nat × Nat) :=
  match readF l with
  | none => none
  | some p => if (p.1 : Int) ≤ most ∧ p.1 ≤ (l.length - p.2) / size then some p else none
theorem readC_some {l : List Int} {most : Int} {size n u : Nat} (h : readC l most size = some (n, u)) : readF l = some (n, u) ∧ (n : Int) ≤ most ∧ n ≤ (l.length - u) / size := by
  unfold readC at h
  split at h
  · cases h
  · split at h
    · rename_i h1 h2
      cases h
      exact ⟨h1, h2.1, h2.2⟩
    · cases h
theorem readCounted_no (l : List Int) (bv : Value) (most : Int) (h0 : 0 ≤ most) (hmx : most ≤ 9223372036854775807) (size : Nat) (hs : 1 ≤ size) (hs2 : size ≤ 1000) (w : World) (hr : RdB w bv l) (hl : Bytes l) (hlm : l.length ≤ 1000000) (h : readC l most size = none) :
    Calls Try.prog 50 #[bv, .int .i64 most, .int .i64 (size : Int)] w fun e w' => e = .returned (.tuple #[.slice none 0 0, .int .i64 0, .int .i64 12]) ∧ w = w' := by
  have hn := readNumber_any l bv w hr hl
  obtain ⟨a, c, rfl⟩ := hr.slice
  obtain ⟨M, rfl⟩ : ∃ M : Nat, most = (M : Int) := ⟨most.toNat, by omega⟩
  cases hre : readF l with
  | none =>
    obtain ⟨e1, e2, e3⟩ := rd_none hre
    rw [e1, e2, e3] at hn
    have hn' := Lib.hid hn
    clear hn hr hl h hre e1 e2 e3
    generalize l.length = L at *
    go_enter Try.func50, Try.ntmps50
    go_wp2_with (go_at_call 44; (with_reducible refine (hn'.out).mono ?_); rintro e w1 ⟨rfl, rfl⟩)
    go_ret3
    exact ⟨rfl, rfl⟩
  | some p =>
    obtain ⟨n, u⟩ := p
    obtain ⟨e1, e2, e3⟩ := rd_some hre
    obtain ⟨hn64, hu, hul, _⟩ := readF_some hl hre
    rw [e1, e2, e3] at hn
    have hn' := Lib.hid hn
    have hcap : l.length ≤ c := by
      rcases hr with ⟨a', c', e, _, e2⟩ | ⟨b', o, c', e, h3, _⟩
      · simp [e2]
      · cases e; exact h3
    have hno : ¬ ((n : Int) ≤ (M : Int) ∧ n ≤ (l.length - u) / size) := by
      intro hc
      unfold readC at h
      rw [hre] at h
      simp only [hc, and_self, if_true] at h
      cases h
    clear hn hr hl h hre e1 e2 e3 hu
    generalize l.length = L at *
    by_cases g1 : (M : Int) < (n : Int)
    · clear hno
      rcases Decidable.em (c = u) with rfl | gc
      all_goals
        go_enter Try.func50, Try.ntmps50
        go_wp2_with (go_at_call 44; (with_reducible refine (hn'.out).mono ?_); rintro e w1 ⟨rfl, rfl⟩)
        go_ret3
        exact ⟨rfl, rfl⟩
    · have g2 : (L - u) / size < n := by
        rcases Nat.lt_or_ge ((L - u) / size) n with h | h
        · exact h
        · exact absurd ⟨by omega, h⟩ hno
      clear hno
      have g3 : (n : Int) ≤ (M : Int) := by omega
      clear g1
      obtain ⟨D, hD⟩ : ∃ D, L - u = D := ⟨_, rfl⟩
      rw [hD] at g2
      obtain ⟨q, hq⟩ : ∃ q, D / size = q := ⟨_, rfl⟩
      have hq' : (D : Int) / (size : Int) = (q : Int) := by rw [← hq]; rfl
      have hqm : q ≤ 1000000 := by rw [← hq]; exact Nat.le_trans (Nat.div_le_self _ _) (by omega)
      rw [hq] at g2
      clear hq
      have hD' : (L : Int) - (u : Int) = (D : Int) := by omega
      rcases Decidable.em (c = u) with rfl | gc
      all_goals
        go_enter Try.func50, Try.ntmps50
        go_wp2_with (go_at_call 44; (with_reducible refine (hn'.out).mono ?_); rintro e w1 ⟨rfl, rfl⟩)
        go_ret3
        exact ⟨rfl, rfl⟩
theorem rdB_sub {w : World} {b o n c : Nat} {l : List Int} (h : RdB w (.slice (some ⟨b, o, none⟩) n c) l) (u k cap : Nat) (hk : u + k ≤ n) (hcap : k ≤ cap) (hc : cap ≤ c) : RdB w (.slice (some ⟨b, o + u, none⟩) k cap) ((l.drop u).take k) := by
  rcases h with ⟨a', c', e, h1, rfl⟩ | ⟨b', o', c', e, h1, h2, h3, h4⟩
  · cases e
    obtain rfl : k = 0 := by omega
    exact .inl ⟨_, _, rfl, (fun h => by cases h), by simp⟩
  · cases e
    have hl : ((l.drop u).take k).length = k := by rw [List.length_take, List.length_drop]; omega
    exact .inr ⟨b, o + u, cap, by rw [hl], by rw [hl]; exact hcap, Nat.le_trans hc h2, h3, fun i hi => by
      rw [hl] at hi
      rw [ith_take _ _ _ hi, ith_drop, Nat.add_assoc]; exact h4 (u + i) (by omega)⟩
theorem readCounted_ok (l : List Int) (bv : Value) (most : Int) (h0 : 0 ≤ most) (hmx : most ≤ 9223372036854775807) (size : Nat) (hs : 1 ≤ size) (hs2 : size ≤ 1000) (w : World) (hr : RdB w bv l) (hl : Bytes l) (hlm : l.length ≤ 1000000) (n u : Nat) (h : readC l most size = some (n, u)) :
    Calls Try.prog 50 #[bv, .int .i64 most, .int .i64 (size : Int)] w fun e w' => ∃ A C, e = .returned (.tuple #[.slice A (n * size) C, .int .i64 ((u + n * size : Nat) : Int), .int .i64 0]) ∧ RdB w (.slice A (n * size) C) ((l.drop u).take (n * size)) ∧ w = w' := by
  have hn := readNumber_any l bv w hr hl
  obtain ⟨hre, g1, g2⟩ := readC_some h
  obtain ⟨e1, e2, e3⟩ := rd_some hre
  obtain ⟨hn64, hu, hul, _⟩ := readF_some hl hre
  have hu1 := numL_pos n
  rw [← hu] at hu1
  rw [e1, e2, e3] at hn
  rcases hr with ⟨a, c, rfl, _, rfl⟩ | ⟨b, o, c, rfl, r1, r2, r3, r4⟩
  · simp at hul; omega
  have hrd : RdB w (.slice (some ⟨b, o, none⟩) l.length c) l := .inr ⟨b, o, c, rfl, r1, r2, r3, r4⟩
  have hmulN : n * size ≤ l.length - u := Nat.le_trans (Nat.mul_le_mul_right _ g2) (Nat.div_mul_le_self _ _)
  obtain ⟨M, rfl⟩ : ∃ M : Nat, most = (M : Int) := ⟨most.toNat, by omega⟩
  obtain ⟨K, hK⟩ : ∃ K, n * size = K := ⟨_, rfl⟩
  have hmul : (n : Int) * (size : Int) = (K : Int) := by rw [← hK]; exact (Int.natCast_mul _ _).symm
  obtain ⟨q, hq⟩ : ∃ q, (l.length - u) / size = q := ⟨_, rfl⟩
  have hq' : ((l.length - u : Nat) : Int) / (size : Int) = (q : Int) := by rw [← hq]; rfl
  have hqm : q ≤ 1000000 := by rw [← hq]; exact Nat.le_trans (Nat.div_le_self _ _) (by omega)
  obtain ⟨D, hD⟩ : ∃ D, l.length - u = D := ⟨_, rfl⟩
  have hD' : (l.length : Int) - (u : Int) = (D : Int) := by omega
  rw [hq] at g2
  rw [hD] at hq'
  rw [hK] at hmulN ⊢
  rw [hD] at hmulN
  have hn' := Lib.hid hn
  have hfin := Lib.hid (fun cap (h1 : K ≤ cap) (h2 : cap ≤ c) => rdB_sub hrd u K cap (by omega) h1 h2)
  have hempty := Lib.hid (fun (h : K = 0) (A : Option Addr) (C : Nat) (hA : A ≠ none) => (show RdB w (.slice A K C) ((l.drop u).take K) from .inl ⟨A, C, by rw [h], fun h => absurd h hA, by rw [h]; simp⟩))
  have hn0 := Lib.hid (fun (h : K = 0) => (show n = 0 from by have := Nat.le_mul_of_pos_right n hs; omega))
  unfold maxLen at r2
  clear hn hl h hre e1 e2 e3 hu hrd r4 hK hq
  generalize l.length = L at *
  have hDle : D + u = L := by omega
  rcases Decidable.em (c = u) with rfl | gc
  · obtain rfl : K = 0 := by omega
    obtain rfl : D = 0 := by omega
    obtain rfl := hn0.out rfl
    have he := Lib.hid (hempty.out rfl)
    clear hempty hn0 hfin
    go_enter Try.func50, Try.ntmps50
    go_wp2_with (go_at_call 44; (with_reducible refine (hn'.out).mono ?_); rintro e w1 ⟨rfl, rfl⟩)
    go_ret3
    exact ⟨some ⟨b, o, none⟩, 0, rfl, he.out _ _ (by simp), rfl⟩
  · go_enter Try.func50, Try.ntmps50
    go_wp2_with (go_at_call 44; (with_reducible refine (hn'.out).mono ?_); rintro e w1 ⟨rfl, rfl⟩)
    go_ret3
    refine ⟨_, _, rfl, hfin.out _ (by omega) (by omega), rfl⟩
theorem readBytes_no (l : List Int) (bv : Value) (most : Int) (h0 : 0 ≤ most) (hmx : most ≤ 9223372036854775807) (w : World) (hr : RdB w bv l) (hl : Bytes l) (hlm : l.length ≤ 1000000) (h : readC l most 1 = none) :
    Calls Try.prog 51 #[bv, .int .i64 most] w fun e w' => e = .returned (.tuple #[.slice none 0 0, .int .i64 0, .int .i64 12]) ∧ w = w' := by
  have hc0 := readCounted_no l bv most h0 hmx 1 (by omega) (by omega) w hr hl hlm h
  rw [show ((1 : Nat) : Int) = 1 from rfl] at hc0
  have hc := Lib.hid hc0
  clear hc0
  obtain ⟨a, c, rfl⟩ := hr.slice
  clear hr hl h
  go_enter Try.func51, Try.ntmps51
  go_wp2_with (go_at_call 50; (with_reducible refine (hc.out).mono ?_); rintro e w1 ⟨rfl, rfl⟩)
  go_ret3
  exact ⟨rfl, rfl⟩
theorem overlay_all (r : List Int) : overlay (zerosB r.length) 0 r = r := by
  have h := overlay_zero r 0
  simpa [zerosB] using h
theorem readBytes_ok (l : List Int) (bv : Value) (most : Int) (h0 : 0 ≤ most) (hmx : most ≤ 9223372036854775807) (w : World) (hr : RdB w bv l) (hl : Bytes l) (hlm : l.length ≤ 1000000) (n u : Nat) (h : readC l most 1 = some (n, u)) :
    Calls Try.prog 51 #[bv, .int .i64 most] w fun e w' => e = .returned (.tuple #[.slice (some ⟨w.heap.size, 0, none⟩) n n, .int .i64 ((u + n : Nat) : Int), .int .i64 0]) ∧ w'.heap[w.heap.size]? = some (.cells (u8s ((l.drop u).take n)) 5 (0, 0)) ∧ Below w.heap.size w w' := by
  have hc0 := readCounted_ok l bv most h0 hmx 1 (by omega) (by omega) w hr hl hlm n u h
  rw [Nat.mul_one, show ((1 : Nat) : Int) = 1 from rfl] at hc0
  have hc := Lib.hid hc0
  clear hc0
  obtain ⟨hre, g1, g2⟩ := readC_some h
  have hul := (readF_some hl hre).2.2.1
  rw [Nat.div_one] at g2
  have hlen := Lib.hid (show ((l.drop u).take n).length = n by rw [List.length_take, List.length_drop]; omega)
  have hn6 : n ≤ 1000000 := by omega
  obtain ⟨a, c, rfl⟩ := hr.slice
  clear hr hl h hre g1 g2 hul
  generalize l.length = L at *
  generalize (l.drop u).take n = R at *
  have hmk := fun (wx : World) => run_makeB (P := Try.prog) wx 29 5 Try.underlying29 (by kernel_rfl) n n (Nat.le_refl _) (by omega)
  have hov := Lib.hid (overlay_all R)
  rw [hlen.out] at hov
  go_enter Try.func51, Try.ntmps51
  go_wp2_with (go_at_call 50; (with_reducible refine (hc.out).mono ?_); rintro e w1 ⟨A, C, rfl, hrd, rfl⟩; have hrd' := Lib.hid (hrd.mono (below_a1 w (.cells (u8s (zerosB n)) 5))); clear hrd; refine Stop.go'' _ ?_)
  refine StopP.go ?_
  have hrow := Lib.hid (heap_alloc_new w (.cells (u8s (zerosB n)) 5))
  go_wp2_with (refine copyB rfl _ _ 29 29 rfl 5 Try.underlying29 (by kernel_rfl) w.heap.size 0 n n rfl _ rfl R hrd'.out (zerosB n) 5 hrow.out (by rw [hlen.out]; omega) (by rw [hlen.out, zerosB_length]; omega) ?_)
  intro w2 hw2
  refine Stop.go ?_
  have r0 := Lib.hid (show w2.heap[w.heap.size]? = some (.cells (u8s R) 5 (0, 0)) by rw [hw2.out, hov.out]; exact setRow_heap _ _ _ _ _ _ hrow.out)
  have r1 := Lib.hid (show Below w.heap.size w w2 by rw [hw2.out]; exact below_setRow' (below_a1 w _) (Nat.le_refl _) _)
  clear hw2
  go_wp2
  go_ret3
  exact ⟨rfl, r0.out, r1.out⟩
end Go.Proofs.Ytfaojjleapenaab
namespace Go
namespace Ytfaojjleapenaab
section
variable {P : Program} {ops : Array Oper} {md : Region.Mode} {Q : Exit → Act → World → Prop}
end
end Ytfaojjleapenaab
end Go
namespace Go.Proofs.Ytfaojjleapenaab
open Go.RowKit Go.Ytfaojjleapenaab
set_option linter.unusedVariables false
theorem own_slice {base : Nat} {E : TypeId} {w : World} {v : Value} {l : List Int} (h : OwnB base E w v l) (k : Nat) (hk : l.length = k) : ∃ a c, v = .slice a k c := by
  obtain ⟨a, c, rfl⟩ := h.rd.slice
  exact ⟨a, c, by rw [hk]⟩
theorem text_part (s b : List Int) : ((textB s ++ b).drop (numL s.length)).take s.length = s := by
  have h : (textB s ++ b).drop (numL s.length) = s ++ b := by
    unfold textB
    rw [List.append_assoc, List.drop_left' (numB_length _)]
  rw [h, List.take_left' rfl]
theorem bytes_take (l : List Int) (k : Nat) (hl : Bytes l) : Bytes (l.take k) := fun i => by
  rcases Nat.lt_or_ge i k with hi | hi
  · rw [ith_take _ _ _ hi]; exact hl i
  · rw [ith_over _ _ (by rw [List.length_take]; omega)]; omega
theorem rdB_cap {w : World} {a : Option Addr} {n c : Nat} {l : List Int} (h : RdB w (.slice a n c) l) : n ≤ c := by
  rcases h with ⟨a', c', e, _, _⟩ | ⟨b, o, c', e, h1, _⟩
  · cases e; exact Nat.zero_le _
  · cases e; exact h1
end Go.Proofs.Ytfaojjleapenaab
namespace Go.Proofs.Ytfaojjleapenaab
open Go.RowKit Go.Ytfaojjleapenaab
set_option linter.unusedVariables false
variable {Tg Tf : TypeId}
end Go.Proofs.Ytfaojjleapenaab
namespace Go.Proofs.Ytfaojjleapenaab
open Go.RowKit Go.Ytfaojjleapenaab
set_option linter.unusedVariables false
end Go.Proofs.Ytfaojjleapenaab
namespace Go.Proofs.Ytfaojjleapenaab
open Go.RowKit Go.Ytfaojjleapenaab
set_option linter.unusedVariables false
variable {Tg Tf : TypeId}
end Go.Proofs.Ytfaojjleapenaab
namespace Go.Proofs.Ytfaojjleapenaab
open Go.RowKit Go.Ytfaojjleapenaab
set_option linter.unusedVariables false
variable {Tg Tf : TypeId}
end Go.Proofs.Ytfaojjleapenaab
namespace Go.Proofs.Ytfaojjleapenaab
open Go.RowKit Go.Ytfaojjleapenaab
set_option linter.unusedVariables false
theorem rd_row {w : World} {g : Nat} {cs : List Int} {E : TypeId} (hg : w.heap[g]? = some (.cells (u8s cs) E (0, 0))) (n c : Nat) (hn : cs.length = n) (hc : n ≤ c) (hm : c ≤ maxLen) :
    RdB w (.slice (some ⟨g, 0, none⟩) n c) cs :=
  .inr ⟨g, 0, c, by rw [hn], by omega, hm, (Array.getElem?_eq_some_iff.1 hg).1, fun i hi => by rw [Nat.zero_add, cell_of_row _ _ _ _ _ _ hg]; exact u8s_get _ _ hi⟩
end Go.Proofs.Ytfaojjleapenaab
namespace Go.Proofs.Ytfaojjleapenaab
open Go.RowKit Go.Ytfaojjleapenaab
set_option linter.unusedVariables false
variable {Tg Tf : TypeId}
end Go.Proofs.Ytfaojjleapenaab
namespace Go.Proofs.Ytfaojjleapenaab
open Go.RowKit Go.Ytfaojjleapenaab
set_option linter.unusedVariables false
variable {Tg Tf : TypeId}
end Go.Proofs.Ytfaojjleapenaab
namespace Go.Proofs.Ytfaojjleapenaab
open Go.RowKit Go.Ytfaojjleapenaab
set_option linter.unusedVariables false
variable {Tg Tf : TypeId}
end Go.Proofs.Ytfaojjleapenaab
namespace Go.Proofs.Ytfaojjleapenaab
open Go.RowKit Go.Ytfaojjleapenaab
set_option linter.unusedVariables false
theorem ext_compare (va vb : Value) (a b : List Int) (w : World) (ha : RdB w va a) (hb : RdB w vb b) (h1 : Bytes a) (h2 : Bytes b) :
    (callFunc 49 #[va, vb]).run Try.prog w = .ok (.value (.int .i64 (cmpF a b))) w := by
  rw [run_callFunc_extern (fn := Try.f49) (e := Extern.BytealgCompare.compare) Try.func49 (by decide) rfl (by kernel_rfl) (by kernel_rfl), run_compareB ha hb h1 h2]
  rfl
theorem compare_any (va vb : Value) (a b : List Int) (w : World) (ha : RdB w va a) (hb : RdB w vb b) (h1 : Bytes a) (h2 : Bytes b) :
    Calls Try.prog 43 #[va, vb] w fun e w' => e = .returned (.int .i64 (cmpF a b)) ∧ w = w' := by
  have hx := ext_compare va vb a b w ha hb h1 h2
  clear ha hb h1 h2
  go_enter Try.func43, Try.ntmps43
  go_wp2
  go_ret
  exact ⟨rfl, rfl⟩
set_option maxRecDepth 100000 in
set_option maxHeartbeats 400000 in
theorem cmp_any (a b : List Int) (w : World) (ha : a.length = 32) (hb : b.length = 32) (h1 : Bytes a) (h2 : Bytes b) :
    Calls Try.prog 36 #[.agg (u8s a), .agg (u8s b)] w fun e w' => e = .returned (.int .i64 (cmpF a b)) ∧ Below w.heap.size w w' := by
  have hs1 := fun wx => run_sliceAt_full (P := Try.prog) Try.underlying47 (by kernel_rfl) w.heap.size wx
  have hs2 := fun wx => run_sliceAt_full (P := Try.prog) Try.underlying47 (by kernel_rfl) (w.heap.size + 1) wx
  have hr1 : RdB ((w.alloc (.cells (u8s a) 47)).alloc (.cells (u8s b) 47)) (.slice (some ⟨w.heap.size, 0, none⟩) 32 32) a := by
    exact rd_row (E := 47) ((hp1 _ _ _ (by simp)).trans (heap_alloc_new w _)) 32 32 ha (Nat.le_refl _) (by unfold maxLen; omega)
  have hr2 : RdB ((w.alloc (.cells (u8s a) 47)).alloc (.cells (u8s b) 47)) (.slice (some ⟨w.heap.size + 1, 0, none⟩) 32 32) b := by
    exact rd_row (E := 47) (hn2 w _ _) 32 32 hb (Nat.le_refl _) (by unfold maxLen; omega)
  have hr1' := Lib.hid hr1; have hr2' := Lib.hid hr2; have h1' := Lib.hid h1; have h2' := Lib.hid h2
  clear hr1 hr2 ha hb h1 h2
  go_enter Try.func36, Try.ntmps36
  go_wp2
  go_region_with (go_at_call 43; refine (compare_any _ _ a b _ ?_ ?_ h1'.out h2'.out).mono ?_; (exact hr1'.out); (exact hr2'.out); rintro e w' ⟨rfl, rfl⟩)
  all_goals
    go_wp2
    go_ret
    exact ⟨rfl, (((Below.refl _ _).alloc (Nat.le_refl _) _).alloc (by simp) _).drew⟩
end Go.Proofs.Ytfaojjleapenaab
namespace Go.Proofs.Ytfaojjleapenaab
open Go.RowKit Go.Ytfaojjleapenaab
set_option linter.unusedVariables false
variable {Tg Tf : TypeId}
end Go.Proofs.Ytfaojjleapenaab
namespace Go.Proofs.Ytfaojjleapenaab
open Go.RowKit Go.Ytfaojjleapenaab
set_option linter.unusedVariables false
end Go.Proofs.Ytfaojjleapenaab
namespace Go.Proofs.Ytfaojjleapenaab
open Go.RowKit Go.Ytfaojjleapenaab
set_option linter.unusedVariables false
end Go.Proofs.Ytfaojjleapenaab
namespace Go.Proofs.Ytfaojjleapenaab
open Go.RowKit Go.Ytfaojjleapenaab
set_option linter.unusedVariables false
end Go.Proofs.Ytfaojjleapenaab
namespace Go.Proofs.Ytfaojjleapenaab
open Go.RowKit Go.Ytfaojjleapenaab
set_option linter.unusedVariables false
end Go.Proofs.Ytfaojjleapenaab
namespace Go
namespace Ytfaojjleapenaab
theorem run_partB {P : Program} (w : World) (e : TypeId) (he : P.underlying e = some (.int .u8)) (l : List Int) (i : Nat) (h : i < l.length) : (part e (u8s l) i).run P w = .ok (.int .u8 (ith l i)) w := by
  simp [part, isAgg, run_underlying he, u8s_get l i h]
theorem eqLoop {P : Program} (w : World) (d elem : Nat) (he : P.underlying elem = some (.int .u8)) (a b : List Int) (n : Nat) (ha : a.length = n) (hb : b.length = n) : ∀ m i, i + m = n →
    (forIn (List.range' i m) ((none, ()) : Option Bool × Unit) fun i __s => do
              let __do_lift ← part elem (u8s a) (i * 1)
              let __do_lift_1 ← part elem (u8s b) (i * 1)
              let __do_lift ← Op.equalIn (d + 1) elem __do_lift __do_lift_1
              if __do_lift = false then (pure (ForInStep.done (some false, ())) : Sem _) else pure (ForInStep.yield (none, ()))).run P w
      = .ok (if a.drop i = b.drop i then (none, ()) else (some false, ())) w := by
  intro m
  induction m with
  | zero => intro i hi; simp [List.drop_eq_nil_of_le, ha, hb, ← hi]
  | succ m ih =>
    intro i hi
    have h1 : i < a.length := by omega
    have h2 : i < b.length := by omega
    rw [List.range'_succ, List.forIn_cons]
    simp only [Nat.mul_one, Sem.run_bind, run_partB w elem he a i h1, run_partB w elem he b i h2, Result.andThen_ok, run_equalIn_int w d elem .u8 .u8 _ _ he]
    have key : (a.drop i = b.drop i) = (a[i] = b[i] ∧ a.drop (i + 1) = b.drop (i + 1)) := by rw [List.drop_eq_getElem_cons h1, List.drop_eq_getElem_cons h2, List.cons.injEq]
    simp only [key]
    have e1 : ith a i = a[i] := by simp [ith, h1]
    have e2 : ith b i = b[i] := by simp [ith, h2]
    rw [e1, e2]
    by_cases h : a[i] = b[i]
    · have ih' := ih (i + 1) (by omega)
      simp only [Nat.mul_one] at ih'
      simp only [h, true_and, beq_self_eq_true, Bool.true_eq_false, if_false, Sem.run_pure, Result.andThen_ok]
      exact ih'
    · simp [h]
theorem run_equalArr {P : Program} (w : World) (d t elem n : Nat) (ht : P.underlying t = some (.array n elem)) (he : P.underlying elem = some (.int .u8)) (hs : (P.info? elem).map (·.size) = some 1)
    (a b : List Int) (ha : a.length = n) (hb : b.length = n) :
    (Op.equalIn (d + 2) t (.agg (u8s a)) (.agg (u8s b))).run P w = .ok (decide (a = b)) w := by
  have hinfo : ∃ i, P.info? elem = some i ∧ i.size = 1 := by
    cases h : P.info? elem with
    | none => simp [h] at hs
    | some i => exact ⟨i, rfl, by simpa [h] using hs⟩
  obtain ⟨i, hi, h1⟩ := hinfo
  have hsz : (sizeOf elem).run P w = .ok 1 w := by simp [sizeOf, typeInfo, hi, h1]
  rw [Op.equalIn]
  simp only [Sem.run_bind, run_underlying ht, Result.andThen_ok, hsz]
  have h := eqLoop w d elem he a b n ha hb n 0 (by omega)
  simp at h ⊢
  rw [h]
  by_cases hab : a = b <;> simp [hab]
end Ytfaojjleapenaab
end Go
namespace Go
namespace Ytfaojjleapenaab
end Ytfaojjleapenaab
end Go
namespace Go
namespace Ytfaojjleapenaab
open RowKit
/-- A slice value that reads as' these numbers of 32 bits. -/
def RdW (w : World) (v : Value) (l : List Int) : Prop :=
  (∃ a c, v = .slice a 0 c ∧ (a = none → c = 0) ∧ l = []) ∨ ∃ b o c, v = .slice (some ⟨b, o, none⟩) l.length c ∧ l.length ≤ c ∧ c ≤ maxLen ∧ b < w.heap.size ∧ ∀ i, i < l.length → w.cell? ⟨b, o + i, none⟩ = some (.int .u32 (ith l i))
theorem RdW.slice {w : World} {v : Value} {l : List Int} (h : RdW w v l) : ∃ a c, v = .slice a l.length c := by
  rcases h with ⟨a, c, rfl, _, rfl⟩ | ⟨b, o, c, hv, _⟩
  · exact ⟨a, c, rfl⟩
  · exact ⟨_, c, hv⟩
def u32v (l : List Int) : List Value := l.map (Value.int .u32)
theorem u32v_get (l : List Int) (j : Nat) (h : j < l.length) : (u32v l)[j]? = some (.int .u32 (ith l j)) := by simp [u32v, ith, h]
/-- The slice value 'v' is the call's own (blocks from 'base' on), and reads as' the numbers 'l'. -/
def OwnW (base : Nat) (E : TypeId) (w : World) (v : Value) (l : List Int) : Prop := w.ownsRow base E 1 v l.length (u32v l)
theorem OwnW.nil (w : World) (base : Nat) (E : TypeId) : OwnW base E w (.slice none 0 0) [] := World.ownsRow_nil w base E 1
theorem OwnW.rd {base : Nat} {E : TypeId} {w : World} {v : Value} {l : List Int} (h : OwnW base E w v l) : RdW w v l := by
  rcases h.2 with ⟨rfl, h0⟩ | ⟨g, cap, cur, rfl, hb, hg, hn, hm, hs, ht⟩
  · exact .inl ⟨none, 0, rfl, fun _ => rfl, List.eq_nil_of_length_eq_zero h0⟩
  · refine .inr ⟨g, 0, cap, rfl, hn, hm, (Array.getElem?_eq_some_iff.1 hg).1, fun i hi => ?_⟩
    have hcell := World.ownsRow.cells (g := g) h rfl i _ (u32v_get l i hi)
    rw [addr_add] at hcell
    exact hcell
theorem OwnW.kept {base : Nat} {E : TypeId} {w w' : World} {v : Value} {l : List Int} (h : OwnW base E w v l) (hb : Below w.heap.size w w') : OwnW base E w' v l := by
  refine ⟨h.1, ?_⟩
  rcases h.2 with hn | ⟨g, cap, cur, rfl, hbg, hg, rest⟩
  · exact .inl hn
  · exact .inr ⟨g, cap, cur, rfl, hbg, (hb.block g (Array.getElem?_eq_some_iff.1 hg).1).trans hg, rest⟩
theorem RdW.src {w : World} {b o : Nat} {l : List Int} (h : ∀ i, i < l.length → w.cell? ⟨b, o + i, none⟩ = some (.int .u32 (ith l i))) :
    ∀ j u, (u32v l)[j]? = some u → w.cell? ((⟨b, o, none⟩ : Addr).add j) = some u := by
  intro j u hu
  have hj : j < l.length := by
    rcases Nat.lt_or_ge j l.length with h' | h'
    · exact h'
    · simp [u32v, List.getElem?_eq_none h'] at hu
  rw [u32v_get l j hj] at hu
  rw [addr_add, h j hj]; exact hu
theorem OwnW.below {base : Nat} {E : TypeId} {w w' : World} {v : Value} {l : List Int} (h : OwnW base E w v l) (hg : w.grownBy w' v.ownBlock) (hb : base ≤ w.heap.size) : Below base w w' :=
  Below.grown (Below.refl base w) hg hb (fun k hk => (World.ownsRow.lt h k hk).1)
theorem OwnW.mono {base B : Nat} {E : TypeId} {w : World} {v : Value} {l : List Int} (h : OwnW base E w v l) (hB : B ≤ base) : OwnW B E w v l := by
  refine ⟨h.1, ?_⟩
  rcases h.2 with hn | ⟨g, cap, cur, rfl, hbg, rest⟩
  · exact .inl hn
  · exact .inr ⟨g, cap, cur, rfl, Nat.le_trans hB hbg, rest⟩
section
variable {P : Program}
end
end Ytfaojjleapenaab
end Go

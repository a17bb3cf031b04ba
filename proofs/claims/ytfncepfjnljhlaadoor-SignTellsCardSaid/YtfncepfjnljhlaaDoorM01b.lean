/- Plain mathematics of layer 1: blocks, endings, digests as lists of bytes. No program. -/
import Derived.Test.YtfncepfjnljhlaaDoorM01
import Derived.Test.YtfncepfjnljhlaaDoorLib
namespace Go
namespace YtfncepfjnljhlaaDoor
theorem results_row_tmp {P : Program} {fn : Func} {p u : Tmp} {ty : TypeId} (h : fn.results = #[.cell p ty, .tmp u]) (tmps : Array Value) (w : World) (g : Nat) (t : TypeId) (cs : Array Value) (fr : Nat × Nat) (d : TypeDesc)
    (hp : tmps.getD p undef = .pointer (some ⟨g, 0, none⟩)) (hg : w.heap[g]? = some (.cells cs t fr))
    (hu : P.underlying ty = some d) (hd : (match d with | .struct _ | .array _ _ => true | _ => false) = true) (hi : (P.info? ty).map (·.size) = some cs.size) :
    (results fn tmps).run P w = .ok (.tuple #[.agg cs, tmps.getD u undef]) w := by
  rw [results_cell_tmp h, hp]
  have hl := run_loadVar_row (P := P) w g t ty cs fr d hg hu hd hi
  simp [asAddr, hl]
theorem slice_eq {a b : Option Addr} {n m c d : Nat} (h1 : a = b) (h2 : n = m) (h3 : c = d) : Value.slice a n c = Value.slice b m d := by subst h1 h2 h3; rfl
theorem set8_world {w : World} {g : Nat} {V X : V8} {T : TypeId} (hg : w.heap[g]? = some (.cells (u32s V.list) T (0, 0))) :
    ((((((((w.setCell ⟨g, 0, none⟩ (.int .u32 X.a)).setCell ⟨g, 1, none⟩ (.int .u32 X.b)).setCell ⟨g, 2, none⟩ (.int .u32 X.c)).setCell ⟨g, 3, none⟩ (.int .u32 X.d)).setCell ⟨g, 4, none⟩ (.int .u32 X.e)).setCell ⟨g, 5, none⟩ (.int .u32 X.f)).setCell ⟨g, 6, none⟩ (.int .u32 X.g)).setCell ⟨g, 7, none⟩ (.int .u32 X.h)) = w.setRow g (u32s X.list) := by
  have h := fun l => setRow_heap w g (u32s V.list) (u32s l) T (0, 0) hg
  rw [setCell_eq hg, u32s_set]
  rw [setCell_eq (h _), u32s_set, setRow2 hg]
  rw [setCell_eq (h _), u32s_set, setRow2 hg]
  rw [setCell_eq (h _), u32s_set, setRow2 hg]
  rw [setCell_eq (h _), u32s_set, setRow2 hg]
  rw [setCell_eq (h _), u32s_set, setRow2 hg]
  rw [setCell_eq (h _), u32s_set, setRow2 hg]
  rw [setCell_eq (h _), u32s_set, setRow2 hg]
  rfl
def grindN (v : V8) (l : List Int) : Nat → V8
  | 0 => v
  | k + 1 => groundF (grindN v l k) (l.drop (64 * k))
def blocksF (v : V8) (l : List Int) : V8 := grindN v l (l.length / 64)
def restF (l : List Int) : List Int := l.drop (64 * (l.length / 64))
theorem restF_length (l : List Int) : (restF l).length = l.length % 64 := by simp [restF]; omega
theorem grindN_ok (v : V8) (l : List Int) (k : Nat) (hv : v.ok) : (grindN v l k).ok := by
  cases k with
  | zero => exact hv
  | succ k => exact groundF_ok _ _
theorem blocksF_ok (v : V8) (l : List Int) (hv : v.ok) : (blocksF v l).ok := grindN_ok _ _ _ hv
theorem wordsOf_congr (a b : List Int) (n : Nat) (h : ∀ i, i < 4 * n → ith a i = ith b i) : wordsOf a n = wordsOf b n := by
  induction n with
  | zero => rfl
  | succ n ih => rw [wordsOf, wordsOf, ih (fun i hi => h i (by omega)), h (4 * n) (by omega), h (4 * n + 1) (by omega), h (4 * n + 2) (by omega), h (4 * n + 3) (by omega)]
theorem groundF_congr (v : V8) (a b : List Int) (h : ∀ i, i < 64 → ith a i = ith b i) : groundF v a = groundF v b := by
  unfold groundF spreadF; rw [wordsOf_congr a b 16 h]
theorem ith_drop (l : List Int) (k i : Nat) : ith (l.drop k) i = ith l (k + i) := by simp [ith]
theorem ith_take (l : List Int) (k i : Nat) (h : i < k) : ith (l.take k) i = ith l i := by simp [ith, h]
theorem grindN_add (v : V8) (l : List Int) (q m : Nat) : grindN v l (q + m) = grindN (grindN v l q) (l.drop (64 * q)) m := by
  induction m with
  | zero => rfl
  | succ m ih => rw [Nat.add_succ, grindN, grindN, ih, List.drop_drop, Nat.mul_add]
theorem grindN_append (v : V8) (a b : List Int) (q : Nat) (h : 64 * q ≤ a.length) : grindN v (a ++ b) q = grindN v a q := by
  induction q with
  | zero => rfl
  | succ q ih =>
    rw [grindN, grindN, ih (by omega)]
    refine groundF_congr _ _ _ fun i hi => ?_
    rw [ith_drop, ith_drop, ith_append, if_pos (by omega)]
theorem blocksF_append (v : V8) (a b : List Int) : blocksF v (a ++ b) = blocksF (blocksF v a) (restF a ++ b) := by
  have h1 : 64 * (a.length / 64) ≤ a.length := by omega
  have h2 : (a ++ b).drop (64 * (a.length / 64)) = restF a ++ b := by rw [restF, List.drop_append_of_le_length h1]
  have h3 : (a ++ b).length / 64 = a.length / 64 + (restF a ++ b).length / 64 := by
    rw [List.length_append, List.length_append, restF_length]; omega
  unfold blocksF
  rw [h3, grindN_add, h2, grindN_append v a b _ h1]
theorem restF_append (a b : List Int) : restF (a ++ b) = restF (restF a ++ b) := by
  have h1 : 64 * (a.length / 64) ≤ a.length := by omega
  have h2 : (a ++ b).drop (64 * (a.length / 64)) = restF a ++ b := by unfold restF; rw [List.drop_append_of_le_length h1]
  have h3 : (a ++ b).length / 64 = a.length / 64 + (restF a ++ b).length / 64 := by
    rw [List.length_append, List.length_append, restF_length]; omega
  conv => lhs; unfold restF
  rw [h3, Nat.mul_add, ← List.drop_drop, h2]
  rfl
theorem restF_small (l : List Int) (h : l.length < 64) : restF l = l := by
  unfold restF; rw [Nat.div_eq_of_lt h]; rfl
theorem blocksF_small (v : V8) (l : List Int) (h : l.length < 64) : blocksF v l = v := by
  unfold blocksF; rw [Nat.div_eq_of_lt h]; rfl
theorem bytes_append (a b : List Int) (ha : Bytes a) (hb : Bytes b) : Bytes (a ++ b) := by
  intro i; rw [ith_append]; split
  · exact ha _
  · exact hb _
theorem bytes_drop (a : List Int) (k : Nat) (ha : Bytes a) : Bytes (a.drop k) := by intro i; rw [ith_drop]; exact ha _
theorem bytes_nil : Bytes [] := by intro i; simp [ith]
def be4 (x : Int) : List Int := [x / 16777216, x / 65536 % 256, x / 256 % 256, x % 256]
def endSize (n : Nat) : Nat := if n + 9 > 64 then 128 else 64
def endingF (r : List Int) (n : Nat) : List Int := r ++ [128] ++ List.replicate (endSize r.length - 4 - (r.length + 1)) 0 ++ be4 (8 * (n : Int))
def writtenN (l : List Int) : Nat → List Int
  | 0 => []
  | k + 1 => writtenN l k ++ be4 (ith l k)
def writtenF (v : V8) : List Int := writtenN v.list 8
theorem writtenN_length (l : List Int) (k : Nat) : (writtenN l k).length = 4 * k := by
  induction k with
  | zero => rfl
  | succ k ih => simp [writtenN, ih, be4]; omega
theorem be4_bytes (x : Int) (hx : In32 x) : Bytes (be4 x) := by
  obtain ⟨h1, h2⟩ := hx
  intro i
  unfold ith be4
  match i with
  | 0 => simp; omega
  | 1 => simp; omega
  | 2 => simp; omega
  | 3 => simp; omega
  | i + 4 => simp
theorem bytes_replicate (n : Nat) : Bytes (List.replicate n 0) := by
  intro i; unfold ith; rw [List.getElem?_replicate]; split <;> simp
theorem bytes_one (x : Int) (h : 0 ≤ x ∧ x < 256) : Bytes [x] := by
  intro i; rw [ith_single]; split <;> omega
theorem endingF_bytes (r : List Int) (n : Nat) (h : Bytes r) (hn : n ≤ 200000) : Bytes (endingF r n) :=
  bytes_append _ _ (bytes_append _ _ (bytes_append _ _ h (bytes_one _ (by omega))) (bytes_replicate _)) (be4_bytes _ ⟨by omega, by omega⟩)
theorem endingF_length (r : List Int) (n : Nat) (h : r.length < 64) : (endingF r n).length = endSize r.length := by
  unfold endingF endSize; simp [be4]; split <;> omega
theorem writtenN_bytes (l : List Int) (k : Nat) (h : All32 l) : Bytes (writtenN l k) := by
  induction k with
  | zero => exact bytes_nil
  | succ k ih => exact bytes_append _ _ ih (be4_bytes _ (h _))
/-- The digest of the bytes of a mill. -/
def endF (v : V8) (r : List Int) (n : Nat) : List Int := writtenF (blocksF v (endingF r n))
/-- The digest of bytes. -/
def shaF (l : List Int) : List Int := endF (blocksF firstW l) (restF l) l.length
end YtfncepfjnljhlaaDoor
end Go

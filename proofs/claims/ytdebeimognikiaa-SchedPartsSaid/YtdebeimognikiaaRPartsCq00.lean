/- Texts that the row stands on, part 0. -/
import Derived.WalkKit
import Derived.WalkSpells
import Derived.WalkLawsBesides
import Derived.Lib.Hide
import Derived.Deep.QuietTactic
import Derived.Laws.CopyOwn
import Derived.Deep.WholeRow
import Derived.Laws.AppendOwnNone
import Derived.Deep.RegionLaw
import Derived.Deep.Quiet
import Derived.StillTail
import Derived.Deep.RegionHeld3
import Derived.Lib.BytesEntry
import Derived.Lib.Bytealg
import Derived.Handy
import Derived.ProofKit
import Derived.Deep.DeepCutAuto
import Derived.Deep.MidRow
import Derived.Deep.CutBlock
import Derived.BigQuiet
import Derived.StillTailTactics
import Derived.Test.YtdebeimognikiaaRows
namespace Go
namespace Ytdebeimognikiaa
section
variable {P : Program}
theorem hn2 (w : World) (o1 o2 : Obj) : ((w.alloc o1).alloc o2).heap[w.heap.size + 1]? = some o2 := heap_alloc2_new w o1 o2
end
end Ytdebeimognikiaa
end Go
namespace Go
namespace Ytdebeimognikiaa
theorem ret_bool {a b : Bool} (h : a = b) : Ending.returned (.bool a) = .returned (.bool b) := by rw [h]
theorem ret_int {k : IntKind} {a b : Int} (h : a = b) : Ending.returned (.int k a) = .returned (.int k b) := by rw [h]
/-- 'b' is 'a' after some draws. -/
def Draws (a b : World) : Prop := ∃ n, b = a.drewN n
theorem Draws.refl (a : World) : Draws a a := ⟨0, rfl⟩
theorem Draws.drewN {a b : World} (h : Draws a b) (n : Nat) : Draws a (b.drewN n) := by
  obtain ⟨m, rfl⟩ := h; exact ⟨m + n, by rw [World.drewN_drewN]⟩
theorem Draws.heap {a b : World} (h : Draws a b) : b.heap = a.heap := by obtain ⟨m, rfl⟩ := h; rfl
theorem Draws.cell {a b : World} (h : Draws a b) (p : Addr) : b.cell? p = a.cell? p := by obtain ⟨m, rfl⟩ := h; rfl
theorem Draws.frozen {a b : World} (h : Draws a b) (p : Addr) : b.frozen? p = a.frozen? p := by obtain ⟨m, rfl⟩ := h; rfl
theorem Draws.below {a b w : World} {B : Nat} (h : Draws a b) (hb : RowKit.Below B w a) : RowKit.Below B w b := by obtain ⟨m, rfl⟩ := h; exact ⟨hb.os, hb.tape, hb.output, hb.size, hb.block⟩
end Ytdebeimognikiaa
end Go
namespace Go
namespace Ytdebeimognikiaa
/-- What became of the row 'g', and that no other block turned. -/
theorem setCell_row {w : World} {g : Nat} {cs : Array Value} {t : TypeId} (hg : w.heap[g]? = some (.cells cs t (0, 0))) (i : Nat) (v : Value) :
    (w.setCell ⟨g, i, none⟩ v).heap[g]? = some (.cells (cs.setIfInBounds i v) t (0, 0)) := heap_setCell_same w g i cs t v hg
theorem setCell_rows {w : World} (g i : Nat) (v : Value) (k : Nat) (h : k ≠ g) : (w.setCell ⟨g, i, none⟩ v).heap[k]? = w.heap[k]? := heap_setCell_other w ⟨g, i, none⟩ k v h
theorem below_setRow' {B g : Nat} {w0 w : World} (hb : RowKit.Below B w0 w) (hBg : B ≤ g) (cs : Array Value) : RowKit.Below B w0 (w.setRow g cs) := below_setRow hb hBg cs
end Ytdebeimognikiaa
end Go
namespace Go
namespace Ytdebeimognikiaa
end Ytdebeimognikiaa
end Go
namespace Go
namespace Ytdebeimognikiaa
def In32 (x : Int) : Prop := 0 ≤ x ∧ x < 4294967296
def ith (l : List Int) (i : Nat) : Int := l[i]?.getD 0
structure V8 where
  (a b c d e f g h : Int)
def V8.ok (v : V8) : Prop := In32 v.a ∧ In32 v.b ∧ In32 v.c ∧ In32 v.d ∧ In32 v.e ∧ In32 v.f ∧ In32 v.g ∧ In32 v.h
def V8.add (x y : V8) : V8 :=
  ⟨(x.a + y.a) % 4294967296, (x.b + y.b) % 4294967296, (x.c + y.c) % 4294967296, (x.d + y.d) % 4294967296, (x.e + y.e) % 4294967296, (x.f + y.f) % 4294967296, (x.g + y.g) % 4294967296, (x.h + y.h) % 4294967296⟩
def V8.cells (v : V8) : Array Value := #[.int .u32 v.a, .int .u32 v.b, .int .u32 v.c, .int .u32 v.d, .int .u32 v.e, .int .u32 v.f, .int .u32 v.g, .int .u32 v.h]
def Bytes (l : List Int) : Prop := ∀ i, 0 ≤ ith l i ∧ ith l i < 256
theorem ith_append (l m : List Int) (i : Nat) : ith (l ++ m) i = if i < l.length then ith l i else ith m (i - l.length) := by
  unfold ith
  split
  · rename_i h; rw [List.getElem?_append_left h]
  · rename_i h; rw [List.getElem?_append_right (by omega)]
theorem ith_single (x : Int) (i : Nat) : ith [x] i = if i = 0 then x else 0 := by
  unfold ith; cases i <;> simp
/-- The value 'v' is a slice that reads as' the bytes 'l' in the world 'w'. -/
def RdB (w : World) (v : Value) (l : List Int) : Prop :=
  (∃ a c, v = .slice a 0 c ∧ (a = none → c = 0) ∧ l = []) ∨ ∃ b o c, v = .slice (some ⟨b, o, none⟩) l.length c ∧ l.length ≤ c ∧ c ≤ maxLen ∧ b < w.heap.size ∧ ∀ i, i < l.length → w.cell? ⟨b, o + i, none⟩ = some (.int .u8 (ith l i))
theorem RdB.mono {w w' : World} {v : Value} {l : List Int} (h : RdB w v l) (hb : RowKit.Below w.heap.size w w') : RdB w' v l := by
  rcases h with h | ⟨b, o, c, hv, h1, h2, h3, h4⟩
  · exact .inl h
  · exact .inr ⟨b, o, c, hv, h1, h2, Nat.lt_of_lt_of_le h3 hb.size, fun i hi => by rw [hb.cell (p := (⟨b, o + i, none⟩ : Addr)) h3]; exact h4 i hi⟩
theorem RdB.slice {w : World} {v : Value} {l : List Int} (h : RdB w v l) : ∃ a c, v = .slice a l.length c := by
  rcases h with ⟨a, c, rfl, _, rfl⟩ | ⟨b, o, c, hv, _⟩
  · exact ⟨a, c, rfl⟩
  · exact ⟨_, c, hv⟩
end Ytdebeimognikiaa
end Go
namespace Go
namespace Ytdebeimognikiaa
theorem ith_drop (l : List Int) (k i : Nat) : ith (l.drop k) i = ith l (k + i) := by simp [ith]
theorem ith_take (l : List Int) (k i : Nat) (h : i < k) : ith (l.take k) i = ith l i := by simp [ith, h]
end Ytdebeimognikiaa
end Go
namespace Go
namespace Ytdebeimognikiaa
set_option maxRecDepth 100000
end Ytdebeimognikiaa
end Go
namespace Go.Proofs.Ytdebeimognikiaa.con
open Go.RowKit Go.Ytdebeimognikiaa
set_option linter.unusedVariables false
/-- Valid tasks. -/
structure OkT (L A : List Int) : Prop where
  lo : 1 ≤ L.length
  hi : L.length ≤ 12
  na : A.length = L.length
  el : ∀ i, i < L.length → (0 ≤ ith L i ∧ ith L i ≤ 60) ∧ -1 ≤ ith A i ∧ ith A i < (i : Int)
def elB (L A : List Int) (i : Nat) : Bool := decide (0 ≤ ith L i ∧ ith L i ≤ 60) && decide (-1 ≤ ith A i ∧ ith A i < (i : Int))
def okT (L A : List Int) : Bool := decide (1 ≤ L.length ∧ L.length ≤ 12 ∧ A.length = L.length) && (List.range L.length).all (elB L A)
theorem el_iff {L A : List Int} {i : Nat} : elB L A i = true ↔ (0 ≤ ith L i ∧ ith L i ≤ 60) ∧ -1 ≤ ith A i ∧ ith A i < (i : Int) := by
  unfold elB; rw [Bool.and_eq_true, decide_eq_true_iff, decide_eq_true_iff]
theorem okT_iff {L A : List Int} : okT L A = true ↔ OkT L A := by
  unfold okT
  rw [Bool.and_eq_true, decide_eq_true_iff, List.all_eq_true]
  constructor
  · rintro ⟨⟨a, b, c⟩, h⟩
    exact ⟨a, b, c, fun i hi => el_iff.1 (h i (List.mem_range.2 hi))⟩
  · rintro ⟨a, b, c, d⟩
    exact ⟨⟨a, b, c⟩, fun i hi => el_iff.2 (d i (List.mem_range.1 hi))⟩
theorem okT_no {L A : List Int} (h : ¬ OkT L A) : okT L A = false := by
  cases e : okT L A with
  | false => rfl
  | true => exact absurd (okT_iff.1 e) h
def chkT (L A : List Int) : Int := if okT L A then 0 else 8
theorem chkT_ok {L A : List Int} (h : OkT L A) : chkT L A = 0 := by unfold chkT; rw [okT_iff.2 h]; rfl
theorem chkT_no {L A : List Int} (h : ¬ OkT L A) : chkT L A = 8 := by unfold chkT; rw [okT_no h]; rfl
/-- Is the task i runnable? -/
def can (L A : List Int) (i : Nat) : Bool := !decide (ith L i = 0) && (decide (ith A i < 0) || decide (ith L (ith A i).toNat = 0))
def stepL (L A : List Int) (i : Nat) : List Int := if can L A i then L.set i (ith L i - 1) else L
def pk (P : List Int) (k : Nat) : Nat := (ith P k).toNat
def runN (L A P : List Int) : Nat → List Int
  | 0 => L
  | k + 1 => stepL (runN L A P k) A (pk P k)
def didN (L A P : List Int) : Nat → List Int
  | 0 => []
  | k + 1 => if can (runN L A P k) A (pk P k) then didN L A P k ++ [(k : Int)] else didN L A P k
def allN (L A : List Int) : Nat → List Int
  | 0 => []
  | k + 1 => if can L A k then allN L A k ++ [(k : Int)] else allN L A k
def okP (n : Nat) (P : List Int) : Bool := (List.range P.length).all fun i => decide (0 ≤ ith P i ∧ ith P i < (n : Int))
theorem okP_iff {n : Nat} {P : List Int} : okP n P = true ↔ ∀ i, i < P.length → 0 ≤ ith P i ∧ ith P i < (n : Int) := by
  unfold okP
  rw [List.all_eq_true]
  exact ⟨fun h i hi => of_decide_eq_true (h i (List.mem_range.2 hi)), fun h i hi => decide_eq_true (h i (List.mem_range.1 hi))⟩
theorem okP_no {n : Nat} {P : List Int} (i : Nat) (hi : i < P.length) (h : ¬ (0 ≤ ith P i ∧ ith P i < (n : Int))) : okP n P = false := by
  cases e : okP n P with
  | false => rfl
  | true => exact absurd (okP_iff.1 e i hi) h
def pckE (L A P : List Int) : Int := if okT L A then (if 300 < P.length then 4 else if okP L.length P then 0 else 2) else 8
theorem pckE_bad {L A P : List Int} (h : ¬ OkT L A) : pckE L A P = 8 := by unfold pckE; rw [okT_no h]; rfl
theorem pckE_many {L A P : List Int} (h : OkT L A) (hp : 300 < P.length) : pckE L A P = 4 := by unfold pckE; rw [okT_iff.2 h, if_pos rfl, if_pos hp]
theorem pckE_arg {L A P : List Int} (h : OkT L A) (hp : ¬ 300 < P.length) (i : Nat) (hi : i < P.length) (hx : ¬ (0 ≤ ith P i ∧ ith P i < (L.length : Int))) : pckE L A P = 2 := by
  unfold pckE; rw [okT_iff.2 h, if_pos rfl, if_neg hp, okP_no i hi hx]; rfl
theorem pckE_ok {L A P : List Int} (h : OkT L A) (hp : ¬ 300 < P.length) (hx : ∀ i, i < P.length → 0 ≤ ith P i ∧ ith P i < (L.length : Int)) : pckE L A P = 0 := by
  unfold pckE; rw [okT_iff.2 h, if_pos rfl, if_neg hp, okP_iff.2 hx]; rfl
/-- Valid tasks and picks. -/
structure OkP (L A P : List Int) : Prop where
  t : OkT L A
  many : P.length ≤ 300
  el : ∀ i, i < P.length → 0 ≤ ith P i ∧ ith P i < (L.length : Int)
theorem pckE_zero {L A P : List Int} (h : pckE L A P = 0) : OkP L A P := by
  rcases Classical.em (OkT L A) with g | g
  · rcases Classical.em (300 < P.length) with g1 | g1
    · rw [pckE_many g g1] at h; omega
    · refine ⟨g, by omega, fun i hi => ?_⟩
      rcases Classical.em (0 ≤ ith P i ∧ ith P i < (L.length : Int)) with g2 | g2
      · exact g2
      · rw [pckE_arg g g1 i hi g2] at h; omega
  · rw [pckE_bad g] at h; omega
theorem pckE_of {L A P : List Int} (h : OkP L A P) : pckE L A P = 0 := pckE_ok h.t (by have := h.many; omega) h.el
theorem ith_set (L : List Int) (i j : Nat) (x : Int) : ith (L.set i x) j = if i = j ∧ j < L.length then x else ith L j := by
  unfold ith
  rw [List.getElem?_set]
  by_cases h : i = j
  · subst h
    by_cases h2 : i < L.length
    · simp [h2]
    · simp [h2]
  · simp [h]
theorem stepL_length (L A : List Int) (i : Nat) : (stepL L A i).length = L.length := by unfold stepL; split <;> simp
theorem can_false {L A : List Int} {i : Nat} (h : can L A i = false) : stepL L A i = L := by unfold stepL; rw [h]; rfl
theorem can_true {L A : List Int} {i : Nat} (h : can L A i = true) : stepL L A i = L.set i (ith L i - 1) := by unfold stepL; rw [h]; rfl
theorem can_iff {L A : List Int} {i : Nat} : can L A i = true ↔ ith L i ≠ 0 ∧ (ith A i < 0 ∨ ith L (ith A i).toNat = 0) := by
  unfold can; simp
theorem stepL_ok {L A : List Int} (h : OkT L A) (i : Nat) : OkT (stepL L A i) A := by
  refine ⟨by rw [stepL_length]; exact h.lo, by rw [stepL_length]; exact h.hi, by rw [stepL_length]; exact h.na, fun j hj => ?_⟩
  rw [stepL_length] at hj
  refine ⟨?_, (h.el j hj).2⟩
  cases e : can L A i with
  | false => rw [can_false e]; exact (h.el j hj).1
  | true =>
    rw [can_true e, ith_set]
    split
    · rename_i g
      have h0 := (can_iff.1 e).1
      have h1 := (h.el j hj).1
      rw [g.1] at h0
      rw [g.1]
      omega
    · exact (h.el j hj).1
theorem runN_length (L A P : List Int) (k : Nat) : (runN L A P k).length = L.length := by
  induction k with
  | zero => rfl
  | succ k ih => rw [runN, stepL_length, ih]
theorem runN_ok {L A P : List Int} (h : OkT L A) (k : Nat) : OkT (runN L A P k) A := by
  induction k with
  | zero => exact h
  | succ k ih => exact stepL_ok ih _
theorem didN_length (L A P : List Int) (k : Nat) : (didN L A P k).length ≤ k := by
  induction k with
  | zero => exact Nat.le_refl _
  | succ k ih => unfold didN; split <;> (try simp) <;> omega
theorem allN_length (L A : List Int) (k : Nat) : (allN L A k).length ≤ k := by
  induction k with
  | zero => exact Nat.le_refl _
  | succ k ih => unfold allN; split <;> (try simp) <;> omega
/-- The first runnable task from a number on, going around. -/
def nextF (L A : List Int) (n fr : Nat) : Int :=
  match (List.range n).find? (fun k => can L A ((fr + k) % n)) with
  | some k => (((fr + k) % n : Nat) : Int)
  | none => -1
theorem nextF_no {L A : List Int} {n fr : Nat} (h : ∀ k, k < n → can L A ((fr + k) % n) = false) : nextF L A n fr = -1 := by
  have e : (List.range n).find? (fun k => can L A ((fr + k) % n)) = none := by
    rw [List.find?_eq_none]
    intro k hk
    rw [h k (List.mem_range.1 hk)]
    decide
  unfold nextF; rw [e]
theorem nextF_yes {L A : List Int} {n fr k : Nat} (hk : k < n) (hc : can L A ((fr + k) % n) = true) (h : ∀ j, j < k → can L A ((fr + j) % n) = false) : nextF L A n fr = (((fr + k) % n : Nat) : Int) := by
  have e : (List.range n).find? (fun k => can L A ((fr + k) % n)) = some k := by
    rw [List.find?_range_eq_some]
    exact ⟨hc, by simpa using hk, fun j hj => by rw [h j hj]; rfl⟩
  unfold nextF; rw [e]
theorem nextF_cases (L A : List Int) (n fr : Nat) : (nextF L A n fr = -1 ∧ ∀ k, k < n → can L A ((fr + k) % n) = false) ∨
    ∃ k, k < n ∧ nextF L A n fr = (((fr + k) % n : Nat) : Int) ∧ can L A ((fr + k) % n) = true ∧ ∀ j, j < k → can L A ((fr + j) % n) = false := by
  cases e : (List.range n).find? (fun k => can L A ((fr + k) % n)) with
  | none =>
    rw [List.find?_eq_none] at e
    have h : ∀ k, k < n → can L A ((fr + k) % n) = false := fun k hk => by
      have := e k (List.mem_range.2 hk)
      cases g : can L A ((fr + k) % n) with
      | false => rfl
      | true => rw [g] at this; exact absurd rfl this
    exact .inl ⟨nextF_no h, h⟩
  | some k =>
    rw [List.find?_range_eq_some] at e
    obtain ⟨h1, h2, h3⟩ := e
    have h2' : k < n := by simpa using h2
    have h4 : ∀ j, j < k → can L A ((fr + j) % n) = false := fun j hj => by
      have := h3 j hj
      cases g : can L A ((fr + j) % n) with
      | false => rfl
      | true => rw [g] at this; exact absurd this (by decide)
    exact .inr ⟨k, h2', nextF_yes h2' h1 h4, h1, h4⟩
/-- The state of a round behind k picks: what is left, where the next search begins, the picks. -/
structure Rn where
  (L : List Int) (fr : Nat) (out : List Int)
def rnd (L A : List Int) (n : Nat) : Nat → Rn
  | 0 => ⟨L, 0, []⟩
  | k + 1 => if nextF (rnd L A n k).L A n (rnd L A n k).fr < 0 then rnd L A n k
    else ⟨stepL (rnd L A n k).L A (nextF (rnd L A n k).L A n (rnd L A n k).fr).toNat, (nextF (rnd L A n k).L A n (rnd L A n k).fr).toNat + 1, (rnd L A n k).out ++ [nextF (rnd L A n k).L A n (rnd L A n k).fr]⟩
theorem rnd_stop {L A : List Int} {n k : Nat} (h : nextF (rnd L A n k).L A n (rnd L A n k).fr < 0) : ∀ d, rnd L A n (k + d) = rnd L A n k := by
  intro d
  induction d with
  | zero => rfl
  | succ d ih => rw [Nat.add_succ, rnd, ih, if_pos h]
theorem rnd_go {L A : List Int} {n k : Nat} {i : Nat} (h : nextF (rnd L A n k).L A n (rnd L A n k).fr = (i : Int)) : rnd L A n (k + 1) = ⟨stepL (rnd L A n k).L A i, i + 1, (rnd L A n k).out ++ [(i : Int)]⟩ := by
  rw [rnd, h, if_neg (by omega), Int.toNat_natCast]
theorem rnd_ok {L A : List Int} (h : OkT L A) (n k : Nat) : OkT (rnd L A n k).L A := by
  induction k with
  | zero => exact h
  | succ k ih =>
    rw [rnd]
    split
    · exact ih
    · exact stepL_ok ih _
theorem rnd_length (L A : List Int) (n k : Nat) : (rnd L A n k).L.length = L.length := by
  induction k with
  | zero => rfl
  | succ k ih =>
    rw [rnd]
    split
    · exact ih
    · rw [stepL_length]; exact ih
theorem rnd_fr (L A : List Int) (n k : Nat) (hn : 0 < n) : (rnd L A n k).fr ≤ n := by
  induction k with
  | zero => exact Nat.zero_le _
  | succ k ih =>
    rw [rnd]
    split
    · exact ih
    · rename_i g
      rcases nextF_cases (rnd L A n k).L A n (rnd L A n k).fr with ⟨h, _⟩ | ⟨j, hj, h, _⟩
      · rw [h] at g; omega
      · show (nextF _ _ _ _).toNat + 1 ≤ n
        rw [h, Int.toNat_natCast]
        exact Nat.mod_lt _ hn
theorem rnd_out_length (L A : List Int) (n k : Nat) : (rnd L A n k).out.length ≤ k := by
  induction k with
  | zero => exact Nat.le_refl _
  | succ k ih =>
    rw [rnd]
    split
    · omega
    · simp; omega
/-- Does task i wait at pick j: runnable ahead of it, and not picked? -/
def stay (L A P : List Int) (i j : Nat) : Bool := can (runN L A P j) A i && !decide (pk P j = i)
def fairB (L A P : List Int) (w : Nat) : Bool := (List.range L.length).all fun i => (List.range (P.length + 1 - w)).all fun s => !((List.range w).all fun d => stay L A P i (s + d))
theorem fair_iff {L A P : List Int} {w : Nat} (hw : 1 ≤ w) : fairB L A P w = true ↔ ∀ i, i < L.length → ∀ s, s + w ≤ P.length → ∃ d, d < w ∧ stay L A P i (s + d) = false := by
  unfold fairB
  simp only [List.all_eq_true, List.mem_range]
  constructor
  · intro h i hi s hs
    have h1 := h i hi s (by omega)
    rcases Classical.em (∃ d, d < w ∧ stay L A P i (s + d) = false) with g | g
    · exact g
    · have h2 : (List.range w).all (fun d => stay L A P i (s + d)) = true := by
        rw [List.all_eq_true]
        intro d hd
        cases e : stay L A P i (s + d) with
        | true => rfl
        | false => exact absurd ⟨d, List.mem_range.1 hd, e⟩ g
      rw [h2] at h1; exact absurd h1 (by decide)
  · intro h i hi s hs
    obtain ⟨d, hd, h1⟩ := h i hi s (by omega)
    cases e : (List.range w).all (fun d => stay L A P i (s + d)) with
    | false => rfl
    | true =>
      rw [List.all_eq_true] at e
      have := e d (List.mem_range.2 hd)
      rw [h1] at this; exact absurd this (by decide)
/-- How long task i has waited behind k picks. -/
def wt (L A P : List Int) : Nat → Nat → Nat
  | 0, _ => 0
  | k + 1, i => if stay L A P i k then wt L A P k i + 1 else 0
theorem wt_step (L A P : List Int) (k i : Nat) : wt L A P (k + 1) i = if stay L A P i k then wt L A P k i + 1 else 0 := rfl
theorem wt_le (L A P : List Int) (k i : Nat) : wt L A P k i ≤ k := by
  induction k with
  | zero => exact Nat.le_refl _
  | succ k ih => unfold wt; split <;> omega
theorem wt_stay (L A P : List Int) (k i : Nat) : ∀ j, j < k → k - wt L A P k i ≤ j → stay L A P i j = true := by
  induction k with
  | zero => intro j hj; omega
  | succ k ih =>
    intro j hj h
    have hle := wt_le L A P k i
    cases e : stay L A P i k with
    | false => rw [wt_step, e] at h; simp at h; omega
    | true =>
      rw [wt_step, e] at h
      simp at h
      rcases Nat.lt_or_ge j k with g | g
      · exact ih j g (by omega)
      · obtain rfl : j = k := by omega
        exact e
theorem wt_ge (L A P : List Int) (i s : Nat) : ∀ m, (∀ d, d < m → stay L A P i (s + d) = true) → m ≤ wt L A P (s + m) i := by
  intro m
  induction m with
  | zero => intro _; exact Nat.zero_le _
  | succ m ih =>
    intro h
    have h1 := ih (fun d hd => h d (by omega))
    rw [show s + (m + 1) = (s + m) + 1 from rfl, wt_step, h m (by omega), if_pos rfl]
    omega
/-- M is the longest wait behind k picks (and, of one pick more, of the tasks below i). -/
structure Longest (L A P : List Int) (n k i M : Nat) : Prop where
  le : ∀ k' i', i' < n → (k' ≤ k ∨ (k' = k + 1 ∧ i' < i)) → wt L A P k' i' ≤ M
  at' : M = 0 ∨ ∃ k' i', i' < n ∧ (k' ≤ k ∨ (k' = k + 1 ∧ i' < i)) ∧ wt L A P k' i' = M
theorem longest_zero (L A P : List Int) (n : Nat) : Longest L A P n 0 0 0 := by
  refine ⟨fun k' i' _ h => ?_, .inl rfl⟩
  rcases h with h | ⟨_, h⟩
  · obtain rfl : k' = 0 := by omega
    exact Nat.le_refl _
  · omega
theorem longest_step {L A P : List Int} {n k i M : Nat} (h : Longest L A P n k i M) (hi : i < n) : Longest L A P n k (i + 1) (max M (wt L A P (k + 1) i)) := by
  refine ⟨fun k' i' h1 h2 => ?_, ?_⟩
  · rcases h2 with h2 | ⟨h2, h3⟩
    · exact Nat.le_trans (h.le k' i' h1 (.inl h2)) (Nat.le_max_left _ _)
    · rcases Nat.lt_or_ge i' i with g | g
      · exact Nat.le_trans (h.le k' i' h1 (.inr ⟨h2, g⟩)) (Nat.le_max_left _ _)
      · obtain rfl : i' = i := by omega
        subst h2
        exact Nat.le_max_right _ _
  · rcases Nat.le_total (wt L A P (k + 1) i) M with g | g
    · rw [Nat.max_eq_left g]
      rcases h.at' with h0 | ⟨k', i', h1, h2, h3⟩
      · exact .inl h0
      · refine .inr ⟨k', i', h1, ?_, h3⟩
        rcases h2 with h2 | ⟨h2, h4⟩
        · exact .inl h2
        · exact .inr ⟨h2, by omega⟩
    · rw [Nat.max_eq_right g]
      exact .inr ⟨k + 1, i, hi, .inr ⟨rfl, by omega⟩, rfl⟩
theorem longest_next {L A P : List Int} {n k M : Nat} (h : Longest L A P n k n M) : Longest L A P n (k + 1) 0 M := by
  refine ⟨fun k' i' h1 h2 => ?_, ?_⟩
  · rcases h2 with h2 | ⟨_, h2⟩
    · rcases Nat.lt_or_ge k k' with g | g
      · exact h.le k' i' h1 (.inr ⟨by omega, h1⟩)
      · exact h.le k' i' h1 (.inl g)
    · omega
  · rcases h.at' with h0 | ⟨k', i', h1, h2, h3⟩
    · exact .inl h0
    · exact .inr ⟨k', i', h1, .inl (by omega), h3⟩
theorem longest_fair {L A P : List Int} {M w : Nat} (h : Longest L A P L.length P.length 0 M) (hw : 1 ≤ w) : fairB L A P w = decide (M < w) := by
  rcases Nat.lt_or_ge M w with g | g
  · rw [decide_eq_true g, fair_iff hw]
    intro i hi s hs
    rcases Classical.em (∃ d, d < w ∧ stay L A P i (s + d) = false) with e | e
    · exact e
    · have h1 := wt_ge L A P i s w (fun d hd => by
        cases e2 : stay L A P i (s + d) with
        | true => rfl
        | false => exact absurd ⟨d, hd, e2⟩ e)
      have h2 := h.le (s + w) i hi (.inl hs)
      omega
  · rw [decide_eq_false (by omega)]
    cases e : fairB L A P w with
    | false => rfl
    | true =>
      rw [fair_iff hw] at e
      rcases h.at' with h0 | ⟨k', i', h1, h2, h3⟩
      · omega
      · have hk : k' ≤ P.length := by rcases h2 with h2 | ⟨_, h2⟩ <;> omega
        have hle := wt_le L A P k' i'
        obtain ⟨d, hd, h4⟩ := e i' h1 (k' - M) (by omega)
        have h5 := wt_stay L A P k' i' (k' - M + d) (by omega) (by omega)
        rw [h4] at h5; exact absurd h5 (by decide)
end Go.Proofs.Ytdebeimognikiaa.con
namespace Go
namespace Ytdebeimognikiaa
open RowKit
def u8v (l : List Int) : List Value := l.map (Value.int .u8)
theorem u8v_get (l : List Int) (j : Nat) (h : j < l.length) : (u8v l)[j]? = some (.int .u8 (ith l j)) := by simp [u8v, ith, h]
theorem addr_add (b o j : Nat) : (⟨b, o, none⟩ : Addr).add j = ⟨b, o + j, none⟩ := by unfold Addr.add; split <;> simp_all
/-- The slice value 'v' is the call's own (blocks from 'base' on), and reads as' the bytes 'l'. -/
def OwnB (base : Nat) (E : TypeId) (w : World) (v : Value) (l : List Int) : Prop := w.ownsRow base E 1 v l.length (u8v l)
theorem OwnB.nil (w : World) (base : Nat) (E : TypeId) : OwnB base E w (.slice none 0 0) [] := World.ownsRow_nil w base E 1
theorem OwnB.rd {base : Nat} {E : TypeId} {w : World} {v : Value} {l : List Int} (h : OwnB base E w v l) : RdB w v l := by
  rcases h.2 with ⟨rfl, h0⟩ | ⟨g, cap, cur, rfl, hb, hg, hn, hm, hs, ht⟩
  · exact .inl ⟨none, 0, rfl, fun _ => rfl, List.eq_nil_of_length_eq_zero h0⟩
  · refine .inr ⟨g, 0, cap, rfl, hn, hm, (Array.getElem?_eq_some_iff.1 hg).1, fun i hi => ?_⟩
    have hcell := World.ownsRow.cells (g := g) h rfl i _ (u8v_get l i hi)
    rw [addr_add] at hcell
    exact hcell
theorem OwnB.kept {base : Nat} {E : TypeId} {w w' : World} {v : Value} {l : List Int} (h : OwnB base E w v l) (hb : Below w.heap.size w w') : OwnB base E w' v l := by
  refine ⟨h.1, ?_⟩
  rcases h.2 with hn | ⟨g, cap, cur, rfl, hbg, hg, rest⟩
  · exact .inl hn
  · exact .inr ⟨g, cap, cur, rfl, hbg, (hb.block g (Array.getElem?_eq_some_iff.1 hg).1).trans hg, rest⟩
theorem RdB.src {w : World} {b o : Nat} {l : List Int} (h : ∀ i, i < l.length → w.cell? ⟨b, o + i, none⟩ = some (.int .u8 (ith l i))) :
    ∀ j u, (u8v l)[j]? = some u → w.cell? ((⟨b, o, none⟩ : Addr).add j) = some u := by
  intro j u hu
  have hj : j < l.length := by
    rcases Nat.lt_or_ge j l.length with h' | h'
    · exact h'
    · simp [u8v, List.getElem?_eq_none h'] at hu
  rw [u8v_get l j hj] at hu
  rw [addr_add, h j hj]; exact hu
/-- A place at which the walk stops, so that facts on the new world can be laid. -/
def Stop (p : Prop) : Prop := p
theorem Stop.go {p : Prop} (h : p) : Stop p := h
theorem Stop.out {p : Prop} (h : Stop p) : p := h
theorem OwnB.below {base : Nat} {E : TypeId} {w w' : World} {v : Value} {l : List Int} (h : OwnB base E w v l) (hg : w.grownBy w' v.ownBlock) (hb : base ≤ w.heap.size) : Below base w w' :=
  Below.grown (Below.refl base w) hg hb (fun k hk => (World.ownsRow.lt h k hk).1)
theorem OwnB.mono {base B : Nat} {E : TypeId} {w : World} {v : Value} {l : List Int} (h : OwnB base E w v l) (hB : B ≤ base) : OwnB B E w v l := by
  refine ⟨h.1, ?_⟩
  rcases h.2 with hn | ⟨g, cap, cur, rfl, hbg, rest⟩
  · exact .inl hn
  · exact .inr ⟨g, cap, cur, rfl, Nat.le_trans hB hbg, rest⟩
section
variable {P : Program}
end
end Ytdebeimognikiaa
end Go
namespace Go
namespace Ytdebeimognikiaa
open RowKit
end Ytdebeimognikiaa
end Go
namespace Go
namespace Ytdebeimognikiaa
set_option linter.unusedVariables false
section
variable {P : Program} {ops : Array Oper} {md : Region.Mode} {C : World → Prop} {Q : Exit → Act → World → Prop} {n : Nat} {pl : List Nat}
def Closed (md : Region.Mode) (ops : Array Oper) (listed : Array Bool) : Prop :=
  listed.size = ops.size ∧ ∀ j oj, ops[j]? = some oj → listed.getD j false = true → ∀ e ∈ oj.after, Region.binds md e = true → listed.getD e.on false = true
theorem Closed.set {i : Nat} {listed : Array Bool} (inv : Closed md ops listed) (hi : i ∈ Region.ready md ops listed) : Closed md ops (listed.setIfInBounds i true) := by
  obtain ⟨_, oi, hoi, hall⟩ := mem_ready.1 hi
  refine ⟨by simp [inv.1], fun j oj hj hl e he hb => ?_⟩
  by_cases hij : i = j
  · subst hij
    have : oj = oi := Option.some.inj (hj.symm.trans hoi)
    subst this
    exact getD_set_true (hall e he hb)
  · rw [getD_set_ne false hij] at hl
    exact getD_set_true (inv.2 j oj hj hl e he hb)
end
end Ytdebeimognikiaa
end Go
namespace Go
namespace Ytdebeimognikiaa
open RowKit
theorem RdB.load {P : Program} {w : World} {v : Value} {l : List Int} (h : RdB w v l) : (Extern.Bytes.bytesOf v).run P w = .ok ⟨(Lib.bytesOf l).toArray⟩ w := by
  rcases h with ⟨sa, sc, rfl, hsn, rfl⟩ | ⟨b, o, c, rfl, h1, h2, h3, h4⟩
  · cases sa with
    | none => obtain rfl := hsn rfl; rfl
    | some sa => rfl
  · have h := Lib.run_loadBytesX (P := P) (w := w) l ⟨b, o, none⟩ .empty (fun j x hx => by
      have hj : j < l.length := by
        rcases Nat.lt_or_ge j l.length with h' | h'
        · exact h'
        · rw [List.getElem?_eq_none h'] at hx; cases hx
      have : ith l j = x := by simp [ith, hx]
      rw [addr_add, h4 j hj, this])
    change (Extern.Bytes.loadBytes _ _ _).run P w = _
    rw [h]
    simp
def nthL (L : List (List Int)) (i : Nat) : List Int := L[i]?.getD []
/-- The value 'v' is a slice of slices of bytes that reads as' 'L'. -/
def RdL (w : World) (v : Value) (L : List (List Int)) : Prop :=
  (v = .slice none 0 0 ∧ L = []) ∨ ∃ b o c, v = .slice (some ⟨b, o, none⟩) L.length c ∧ L.length ≤ c ∧ c ≤ maxLen ∧ b < w.heap.size ∧ ∀ i, i < L.length → ∃ s, w.cell? ⟨b, o + i, none⟩ = some s ∧ RdB w s (nthL L i)
theorem RdL.mono {w w' : World} {v : Value} {L : List (List Int)} (h : RdL w v L) (hb : Below w.heap.size w w') : RdL w' v L := by
  rcases h with h | ⟨b, o, c, hv, h1, h2, h3, h4⟩
  · exact .inl h
  · refine .inr ⟨b, o, c, hv, h1, h2, Nat.lt_of_lt_of_le h3 hb.size, fun i hi => ?_⟩
    obtain ⟨s, hs, hr⟩ := h4 i hi
    exact ⟨s, (hb.cell (p := (⟨b, o + i, none⟩ : Addr)) h3).trans hs, hr.mono hb⟩
theorem RdL.slice {w : World} {v : Value} {L : List (List Int)} (h : RdL w v L) : ∃ a c, v = .slice a L.length c := by
  rcases h with ⟨rfl, rfl⟩ | ⟨b, o, c, hv, _⟩
  · exact ⟨none, 0, rfl⟩
  · exact ⟨_, c, hv⟩
end Ytdebeimognikiaa
end Go
namespace Go.Proofs.Ytdebeimognikiaa
open Go.RowKit Go.Ytdebeimognikiaa
set_option linter.unusedVariables false
theorem wpList_load_row_g {P : Program} {ops : Array Oper} {rest : List Oper} {o : Oper} {a : Act} {w : World} {Q : Exit → Act → World → Prop} (hw : Region.wanted o (yielded ops a.tmps) = true) (ty : TypeId) (x : Operand) (ho : o.op = .load ty x)
    (g : Nat) (hx : a.eval x = .pointer (some ⟨g, 0, none⟩)) (t : TypeId) (cs : Array Value) (fr : Nat × Nat) (d : TypeDesc) (hg : w.heap[g]? = some (.cells cs t fr))
    (hu : P.underlying ty = some d) (hd : (match d with | .struct _ | .array _ _ => true | _ => false) = true) (hi : (P.info? ty).map (·.size) = some cs.size)
    (h : wpList P ops Q rest (a.put o.dst (.agg cs)) w) : wpList P ops Q (o :: rest) a w :=
  wpList_step fun K hK => by rw [if_pos hw]; exact wp_load_row ty x ho g hx t cs fr d hg hu hd hi (hK _ _ h)
end Go.Proofs.Ytdebeimognikiaa
namespace Go.Proofs.Ytdebeimognikiaa
open Go.RowKit Go.Ytdebeimognikiaa
set_option linter.unusedVariables false
section
variable {P : Program} {ops : Array Oper} {C : World → Prop} {Q : Act → Prop} {o : Oper} {rest : List Oper} {a : Act}
theorem wpq {D : Option Tmp} (v : Value) (hw : Region.wanted o (yielded ops a.tmps) = true) (h1 : ∀ w, C w → o.quietAt P a C w v) (hD : o.dst = D) (h2 : ∀ K : Act → Prop, (∀ a, wpQuiet P ops C Q rest a → K a) → K (a.put D v)) : wpQuiet P ops C Q (o :: rest) a := by
  subst hD
  unfold wpQuiet
  rw [if_pos hw]
  exact ⟨v, h1, h2 _ fun _ h => h⟩
theorem qa_ok {w : World} {v : Value} (h : (execOp a.eval o).run P w = .ok (.value v) w) : o.quietAt P a C w v := by
  unfold Oper.quietAt; rw [h]; exact ⟨rfl, rfl⟩
theorem qa_call {T : Array TypeId} {f : FuncId} {fn : Func} {c : Code} {xs : Array Operand} {us : Array Value} {v : Value} (ho : o.op = .call { callee := .value (.func f), args := xs, argTypes := T })
    (hf : P.funcs[f]? = some fn) (hname : (fn.name == "runtime.NumGoroutine") = false) (hb : fn.body = some c) (hx : xs.map a.eval = us) (h3 : a.eval (.func f) = .func (.func f) #[] #[])
    (hc : ∀ w, C w → Calls P f us w fun e w' => e = .returned v ∧ C w') : ∀ w, C w → o.quietAt P a C w v := by
  intro w hw
  have hn : fn.name ≠ "runtime.NumGoroutine" := by simpa using hname
  unfold Oper.quietAt execOp
  generalize a.eval = ev at *
  have hr : (callFunc f us).run P w = .ok (.enter f us) w := by simp [callFunc, hf, hn, hb]
  simp only [ho]
  simp [go_sem, hx, h3]
  rw [hr]
  exact ⟨rfl, hc w hw⟩
theorem qa_call1 {T : Array TypeId} {f : FuncId} {fn : Func} {c : Code} {x : Operand} (u1 : Value) {v : Value} (ho : o.op = .call { callee := .value (.func f), args := #[x], argTypes := T })
    (hf : P.funcs[f]? = some fn) (hname : (fn.name == "runtime.NumGoroutine") = false) (hb : fn.body = some c) (h1 : a.eval x = u1) (h4 : a.eval (.func f) = .func (.func f) #[] #[])
    (hc : ∀ w, C w → Calls P f #[u1] w fun e w' => e = .returned v ∧ C w') : ∀ w, C w → o.quietAt P a C w v :=
  qa_call ho hf hname hb (by subst h1; simp) h4 hc
end
end Go.Proofs.Ytdebeimognikiaa
namespace Go.Proofs.Ytdebeimognikiaa
open Go.RowKit Go.Ytdebeimognikiaa
set_option linter.unusedVariables false
end Go.Proofs.Ytdebeimognikiaa
namespace Go.Proofs.Ytdebeimognikiaa.con
open Go.RowKit Go.Ytdebeimognikiaa
set_option linter.unusedVariables false
def iV (l : List Int) : List Value := l.map (Value.int .i64)
theorem iV_length (l : List Int) : (iV l).length = l.length := by simp [iV]
theorem iV_append (l m : List Int) : iV (l ++ m) = iV l ++ iV m := by simp [iV]
theorem iV_get (l : List Int) (j : Nat) (h : j < l.length) : (iV l)[j]? = some (.int .i64 (ith l j)) := by simp [iV, h, ith]
theorem iV_one (l : List Int) : ∀ u ∈ iV l, u.oneCell' = true := by
  intro u hu
  obtain ⟨n, _, rfl⟩ := List.mem_map.1 hu
  rfl
/-- The value 'v' is a slice that reads as' the ints 'l' in the world 'w'. -/
def RdN (w : World) (v : Value) (l : List Int) : Prop :=
  (∃ a c, v = .slice a 0 c ∧ (a = none → c = 0) ∧ l = []) ∨ ∃ b o c, v = .slice (some ⟨b, o, none⟩) l.length c ∧ l.length ≤ c ∧ c ≤ maxLen ∧ b < w.heap.size ∧ ∀ i, i < l.length → w.cell? ⟨b, o + i, none⟩ = some (.int .i64 (ith l i))
theorem RdN.nil (w : World) : RdN w (.slice none 0 0) [] := .inl ⟨none, 0, rfl, fun _ => rfl, rfl⟩
theorem RdN.mono {w w' : World} {v : Value} {l : List Int} (h : RdN w v l) (hb : Below w.heap.size w w') : RdN w' v l := by
  rcases h with h | ⟨b, o, c, hv, h1, h2, h3, h4⟩
  · exact .inl h
  · exact .inr ⟨b, o, c, hv, h1, h2, Nat.lt_of_lt_of_le h3 hb.size, fun i hi => by rw [hb.cell (p := (⟨b, o + i, none⟩ : Addr)) h3]; exact h4 i hi⟩
theorem RdN.slice {w : World} {v : Value} {l : List Int} (h : RdN w v l) : ∃ a c, v = .slice a l.length c := by
  rcases h with ⟨a, c, rfl, _, rfl⟩ | ⟨b, o, c, hv, _⟩
  · exact ⟨a, c, rfl⟩
  · exact ⟨_, c, hv⟩
/-- Where an element lies, whatever came behind. -/
theorem rdN_at {w : World} {a : Option Addr} {n c : Nat} {l : List Int} (h : RdN w (.slice a n c) l) (j : Nat) (hj : j < l.length) : ∃ b o, a = some ⟨b, o, none⟩ ∧ b < w.heap.size ∧ ∀ w', Below w.heap.size w w' → w'.cell? ⟨b, o + j, none⟩ = some (.int .i64 (ith l j)) := by
  rcases h with ⟨a, c, hv, _, rfl⟩ | ⟨b, o, c, hv, h1, h2, h3, h4⟩
  · simp at hj
  · injection hv with e1 e2 e3
    exact ⟨b, o, e1, h3, fun w' hb => by rw [hb.cell (p := (⟨b, o + j, none⟩ : Addr)) h3]; exact h4 j hj⟩
theorem RdN.fit {w : World} {v : Value} {l : List Int} (h : RdN w v l) : l.length ≤ 9223372036854775807 := by
  rcases h with ⟨a, c, _, _, rfl⟩ | ⟨b, o, c, hv, h1, h2, _⟩
  · simp
  · unfold maxLen at h2; omega
theorem RdN.src {w : World} {b o : Nat} {l : List Int} (h : ∀ i, i < l.length → w.cell? ⟨b, o + i, none⟩ = some (.int .i64 (ith l i))) :
    ∀ j u, (iV l)[j]? = some u → w.cell? ((⟨b, o, none⟩ : Addr).add j) = some u := by
  intro j u hu
  have hj : j < l.length := by
    have := (List.getElem?_eq_some_iff.1 hu).1
    rwa [iV_length] at this
  rw [addr_add, h j hj, ← iV_get l j hj, hu]
/-- A slice of ints of the call's own. -/
def OwnN (base : Nat) (E : TypeId) (w : World) (v : Value) (l : List Int) : Prop := w.ownsRow base E 1 v l.length (iV l)
theorem OwnN.nil (w : World) (base : Nat) (E : TypeId) : OwnN base E w (.slice none 0 0) [] := World.ownsRow_nil w base E 1
theorem OwnN.kept {base : Nat} {E : TypeId} {w w' : World} {v : Value} {l : List Int} (h : OwnN base E w v l) (hb : Below w.heap.size w w') : OwnN base E w' v l := by
  refine ⟨h.1, ?_⟩
  rcases h.2 with hn | ⟨k, cap, cur, rfl, hbk, hk, rest⟩
  · exact .inl hn
  · exact .inr ⟨k, cap, cur, rfl, hbk, (hb.block k (Array.getElem?_eq_some_iff.1 hk).1).trans hk, rest⟩
theorem OwnN.below {base : Nat} {E : TypeId} {w w' : World} {v : Value} {l : List Int} (h : OwnN base E w v l) (hg : w.grownBy w' v.ownBlock) (hb : base ≤ w.heap.size) : Below base w w' :=
  Below.grown (Below.refl base w) hg hb (fun k hk => (World.ownsRow.lt h k hk).1)
theorem OwnN.mono {base B : Nat} {E : TypeId} {w : World} {v : Value} {l : List Int} (h : OwnN base E w v l) (hB : B ≤ base) : OwnN B E w v l := by
  refine ⟨h.1, ?_⟩
  rcases h.2 with hn | ⟨k, cap, cur, rfl, hbk, rest⟩
  · exact .inl hn
  · exact .inr ⟨k, cap, cur, rfl, by omega, rest⟩
theorem OwnN.slice {base : Nat} {E : TypeId} {w : World} {v : Value} {l : List Int} (h : OwnN base E w v l) : ∃ a c, v = .slice a l.length c := by
  rcases h.2 with ⟨rfl, h0⟩ | ⟨k, cap, cur, rfl, _⟩
  · rw [h0]; exact ⟨_, _, rfl⟩
  · exact ⟨_, _, rfl⟩
/-- A row of ints that may be stored into: block g begins with them. -/
def IRow (E : TypeId) (w : World) (g : Nat) (l : List Int) : Prop := ∃ ex : List Value, w.heap[g]? = some (.cells (iV l ++ ex).toArray E (0, 0))
theorem IRow.lt {E : TypeId} {w : World} {g : Nat} {l : List Int} (h : IRow E w g l) : g < w.heap.size := by obtain ⟨ex, h⟩ := h; exact (Array.getElem?_eq_some_iff.1 h).1
theorem IRow.to {E : TypeId} {w w' : World} {g : Nat} {l : List Int} (h : IRow E w g l) (he : w'.heap[g]? = w.heap[g]?) : IRow E w' g l := by obtain ⟨ex, h⟩ := h; exact ⟨ex, he.trans h⟩
theorem IRow.below {E : TypeId} {w w' : World} {g : Nat} {l : List Int} (h : IRow E w g l) (hb : Below w.heap.size w w') : IRow E w' g l := h.to (hb.block g h.lt)
theorem IRow.cell {E : TypeId} {w : World} {g : Nat} {l : List Int} (h : IRow E w g l) (i : Nat) (hi : i < l.length) : w.cell? ⟨g, i, none⟩ = some (.int .i64 (ith l i)) := by
  obtain ⟨ex, h⟩ := h
  rw [cell_of_row _ _ _ _ _ _ h, List.getElem?_toArray, List.getElem?_append_left (by rw [iV_length]; exact hi), iV_get l i hi]
theorem IRow.frozen {E : TypeId} {w : World} {g : Nat} {l : List Int} (h : IRow E w g l) (i : Nat) : w.frozen? ⟨g, i, none⟩ = false := by
  obtain ⟨ex, h⟩ := h
  exact frozen_of_row _ _ i _ _ h
theorem iV_set (l : List Int) (k : Nat) (x : Int) : (iV l).set k (.int .i64 x) = iV (l.set k x) := by simp [iV, List.map_set]
theorem IRow.set {E : TypeId} {w : World} {g : Nat} {l : List Int} (h : IRow E w g l) (i : Nat) (hi : i < l.length) (x : Int) : IRow E (w.setCell ⟨g, i, none⟩ (.int .i64 x)) g (l.set i x) := by
  obtain ⟨ex, h⟩ := h
  refine ⟨ex, ?_⟩
  rw [setCell_row h i]
  congr 2
  apply Array.ext'
  rw [Array.toList_setIfInBounds, List.set_append_left _ _ (by rw [iV_length]; exact hi), iV_set]
theorem IRow.rd {E : TypeId} {w : World} {g c : Nat} {l : List Int} (h : IRow E w g l) (hc : l.length ≤ c) (hm : c ≤ 1000000) : RdN w (.slice (some ⟨g, 0, none⟩) l.length c) l :=
  .inr ⟨g, 0, c, rfl, hc, by unfold maxLen; omega, h.lt, fun i hi => by rw [Nat.zero_add]; exact h.cell i hi⟩
theorem IRow.rd2 {E : TypeId} {w : World} {g c : Nat} {l : List Int} (h : IRow E w g l) (hc : l.length ≤ c) (hm : c ≤ maxLen) : RdN w (.slice (some ⟨g, 0, none⟩) l.length c) l :=
  .inr ⟨g, 0, c, rfl, hc, hm, h.lt, fun i hi => by rw [Nat.zero_add]; exact h.cell i hi⟩
theorem OwnN.row {base : Nat} {E : TypeId} {w : World} {v : Value} {l : List Int} (h : OwnN base E w v l) (hl : 0 < l.length) : ∃ g c, v = .slice (some ⟨g, 0, none⟩) l.length c ∧ base ≤ g ∧ l.length ≤ c ∧ c ≤ maxLen ∧ IRow E w g l := by
  rcases h.2 with ⟨_, h0⟩ | ⟨k, cap, cur, rfl, hbk, hk, hnc, hcm, hcs, hct⟩
  · omega
  · refine ⟨k, cap, rfl, hbk, hnc, hcm, cur.toList.drop l.length, ?_⟩
    rw [Nat.mul_one] at hct
    rw [← hct, List.take_append_drop, Array.toArray_toList]
    exact hk
theorem OwnN.rd {base : Nat} {E : TypeId} {w : World} {v : Value} {l : List Int} (h : OwnN base E w v l) : RdN w v l := by
  rcases Nat.eq_zero_or_pos l.length with h0 | h0
  · obtain rfl := List.eq_nil_of_length_eq_zero h0
    rcases h.2 with ⟨rfl, _⟩ | ⟨k, cap, cur, rfl, _⟩
    · exact RdN.nil w
    · exact .inl ⟨_, _, rfl, (fun h => by cases h), rfl⟩
  · obtain ⟨g, c, rfl, _, h2, h3, h4⟩ := h.row h0
    exact h4.rd2 h2 h3
/-- All blocks but g stay. -/
def ElsN (g : Nat) (w w' : World) : Prop := w.grownBy w' (some g)
theorem ElsN.refl (gl : Nat) (w : World) : ElsN gl w w := ⟨rfl, rfl, rfl, Nat.le_refl _, fun _ _ _ => rfl⟩
theorem ElsN.row {gl : Nat} {w w' : World} (h : ElsN gl w w') {j : Nat} (hne : j ≠ gl) (hl : j < w.heap.size) : w'.heap[j]? = w.heap[j]? := h.block j hl (fun e => hne (by cases e; rfl))
theorem ElsN.trans {gl : Nat} {a b c : World} (h1 : ElsN gl a b) (h2 : ElsN gl b c) : ElsN gl a c :=
  ⟨h2.os.trans h1.os, h2.tape.trans h1.tape, h2.output.trans h1.output, Nat.le_trans h1.size h2.size, fun j h3 h4 => (h2.block j (Nat.lt_of_lt_of_le h3 h1.size) h4).trans (h1.block j h3 h4)⟩
theorem elsN_below {gl : Nat} {a b : World} (h : Below a.heap.size a b) : ElsN gl a b := ⟨h.os, h.tape, h.output, h.size, fun j h4 _ => h.block j h4⟩
theorem elsN_set (gl i : Nat) (w : World) (x : Value) : ElsN gl w (w.setCell ⟨gl, i, none⟩ x) := ⟨rfl, rfl, rfl, by simp [World.setCell], fun j _ h => setCell_rows gl i x j (fun e => h (by rw [e]))⟩
theorem ElsN.cell {gl : Nat} {w w' : World} (h : ElsN gl w w') (b o : Nat) (hb : b ≠ gl) (hl : b < w.heap.size) : w'.cell? ⟨b, o, none⟩ = w.cell? ⟨b, o, none⟩ := by
  have e := h.row hb hl
  simp [World.cell?, e]
theorem ElsN.to {gl B : Nat} {w0 w w' : World} (h : ElsN gl w w') (hb : Below B w0 w) (hB : B ≤ w.heap.size) (hg : B ≤ gl) : Below B w0 w' := Below.grown hb h hB (fun k hk => by cases hk; exact hg)
theorem OwnN.els {base gl : Nat} {E : TypeId} {w w' : World} {v : Value} {l : List Int} (h : OwnN base E w v l) (he : ElsN gl w w') (hg : gl < base) : OwnN base E w' v l := by
  refine ⟨h.1, ?_⟩
  rcases h.2 with hn | ⟨k, cap, cur, rfl, hbk, hk, rest⟩
  · exact .inl hn
  · exact .inr ⟨k, cap, cur, rfl, hbk, (he.row (by omega) (Array.getElem?_eq_some_iff.1 hk).1).trans hk, rest⟩
theorem ElsN.ob {gl : Nat} {w w' : World} (h : ElsN gl w w') {j : Nat} {ob : Obj} (hr : w.heap[j]? = some ob) (hne : j ≠ gl) : w'.heap[j]? = some ob := (h.row hne (Array.getElem?_eq_some_iff.1 hr).1).trans hr
/-- What an append leaves of a block below the base. -/
theorem OwnN.low {base : Nat} {E : TypeId} {w w' : World} {v : Value} {l : List Int} (h : OwnN base E w v l) (hg : w.grownBy w' v.ownBlock) {j : Nat} (hj : j < base) (hl : j < w.heap.size) : w'.heap[j]? = w.heap[j]? :=
  hg.block j hl (fun e => by have := (World.ownsRow.lt h j e.symm).1; omega)
/-- The slice reads as' l, whatever becomes of the block g. -/
def HeldN (g : Nat) (w : World) (v : Value) (l : List Int) : Prop := ∀ wx : World, ElsN g w wx → RdN wx v l
theorem HeldN.mono {g : Nat} {w w' : World} {v : Value} {l : List Int} (h : HeldN g w v l) (hb : ElsN g w w') : HeldN g w' v l := fun wx hx => h wx (hb.trans hx)
theorem HeldN.now {g : Nat} {w : World} {v : Value} {l : List Int} (h : HeldN g w v l) : RdN w v l := h w (ElsN.refl g w)
theorem heldN_row {E : TypeId} {w : World} {g c : Nat} {l : List Int} {gl : Nat} (h : IRow E w g l) (hne : g ≠ gl) (hc : l.length ≤ c) (hm : c ≤ maxLen) : HeldN gl w (.slice (some ⟨g, 0, none⟩) l.length c) l := fun wx hx =>
  (h.to (hx.row hne h.lt)).rd2 hc hm
theorem run_appendN {P : Program} (w : World) (base : Nat) (t ty e : TypeId) (ht : P.underlying t = some (.slice e)) (hinfo : (P.info? e).map (fun i => (i.zero, i.size, i.bytes)) = some (some (.int .i64 0), 1, 8))
    (v : Value) (l : List Int) (hown : OwnN base e w v l) (sv : Value) (r : List Int) (hr : RdN w sv r) (hlen : l.length + r.length ≤ 1000000) (hbase : base ≤ w.heap.size) :
    ∃ v' w', (Builtin.append_ #[t, t] ty #[v, sv]).run P w = .ok v' w' ∧ OwnN base e w' v' (l ++ r) ∧ w.grownBy w' v.ownBlock := by
  obtain ⟨i, hi, hz, hs, hb⟩ := info_parts hinfo
  rcases hr with ⟨sa, sc, rfl, hsn, rfl⟩ | ⟨b, o, c, rfl, h1, h2, h3, h4⟩
  · cases sa with
    | some sa =>
      obtain ⟨v', w', hrun, ho, hg, _⟩ := run_append_own (P := P) w base t ty e i (.int .i64 0) 1 8 ht hi hz hs hb rfl (by omega) v l.length (iV l) hown sa 0 sc (iV [])
        (by rw [iV_length]; rfl) (fun k x hx => by cases hx) (iV_one []) (by unfold maxLen; simp at hlen ⊢; omega) (by simp at hlen ⊢; omega) hbase
      refine ⟨v', w', hrun, ?_, hg⟩
      unfold OwnN
      rw [List.append_nil]
      simpa [iV] using ho
    | none =>
    obtain rfl := hsn rfl
    refine ⟨v, w, run_append_owned_none (P := P) (w := w) base t ty e i 1 ht hi v l.length (iV l) hown, ?_, ⟨rfl, rfl, rfl, Nat.le_refl _, fun _ _ _ => rfl⟩⟩
    rw [List.append_nil]; exact hown
  · obtain ⟨v', w', hrun, ho, hg, _⟩ := run_append_own (P := P) w base t ty e i (.int .i64 0) 1 8 ht hi hz hs hb rfl (by omega) v l.length (iV l) hown ⟨b, o, none⟩ r.length c (iV r)
      (by rw [iV_length]; omega) (RdN.src h4) (iV_one r) (by unfold maxLen; omega) (by omega) hbase
    refine ⟨v', w', hrun, ?_, hg⟩
    unfold OwnN
    rw [List.length_append, iV_append]; exact ho
theorem appendN {P : Program} {ops : Array Oper} {rest : List Oper} {o : Oper} {a : Act} {w : World} {Q : Exit → Act → World → Prop} (hgd : o.guard = none) (s x : Operand) (t : TypeId)
    (ho : o.op = .call { callee := .builtin .append, args := #[s, x], argTypes := #[t, t] })
    (base : Nat) (e : TypeId) (ht : P.underlying t = some (.slice e)) (hinfo : (P.info? e).map (fun i => (i.zero, i.size, i.bytes)) = some (some (.int .i64 0), 1, 8))
    (v : Value) (hs : a.eval s = v) (l : List Int) (hown : OwnN base e w v l) (sv : Value) (hx : a.eval x = sv) (r : List Int) (hr : RdN w sv r) (hlen : l.length + r.length ≤ 1000000) (hbase : base ≤ w.heap.size)
    (h : ∀ v' w', OwnN base e w' v' (l ++ r) → w.grownBy w' v.ownBlock → Stop (wpList P ops Q rest (a.put o.dst v') w')) : wpList P ops Q (o :: rest) a w := by
  refine wpList_plain hgd fun K hK => ?_
  obtain ⟨v', w', hrun, h2, h3⟩ := run_appendN (P := P) w base t o.type e ht hinfo v l hown sv r hr hlen hbase
  unfold Oper.wp execOp
  simp only [ho, resolve, invoke, builtin, Sem.run_bind, Sem.run_pure, Result.andThen_ok, List.map_toArray, List.map_cons, List.map_nil, hs, hx, hrun]
  exact hK _ _ (h v' w' h2 h3).out
/-- One element: a row of one cell, as' it is made for 'append(l, x)'. -/
theorem rdN_one {w : World} {g c : Nat} {x : Int} {E : TypeId} (h : w.heap[g]? = some (.cells #[.int .i64 x] E (0, 0))) (hc : 1 ≤ c) (hm : c ≤ 1000) : RdN w (.slice (some ⟨g, 0, none⟩) 1 c) [x] :=
  IRow.rd (E := E) (l := [x]) ⟨[], h⟩ hc (by omega)
theorem RdN.take {w : World} {a : Option Addr} {n c : Nat} {l : List Int} (h : RdN w (.slice a n c) l) (k : Nat) (hk : k ≤ l.length) : RdN w (.slice a k c) (l.take k) := by
  rcases h with ⟨a', c', hv, h0, rfl⟩ | ⟨b, o, c', hv, h1, h2, h3, h4⟩
  · injection hv with e1 e2 e3
    subst e1 e3
    obtain rfl : k = 0 := by simpa using hk
    exact .inl ⟨_, _, rfl, h0, by simp⟩
  · injection hv with e1 e2 e3
    subst e1 e3
    have hl : (l.take k).length = k := by rw [List.length_take]; omega
    refine .inr ⟨b, o, c, by rw [hl], by rw [hl]; omega, h2, h3, fun i hi => ?_⟩
    rw [hl] at hi
    rw [h4 i (by omega), ith_take l k i hi]
def zerosN (n : Nat) : List Int := List.replicate n 0
theorem zerosN_length (n : Nat) : (zerosN n).length = n := by simp [zerosN]
theorem ith_zerosN (n i : Nat) : ith (zerosN n) i = 0 := by unfold ith zerosN; rw [List.getElem?_replicate]; split <;> rfl
theorem madeCells_ints (n : Nat) : madeCells #[Value.int .i64 0] n = (iV (zerosN n)).toArray := by
  apply Array.ext'
  rw [toList_madeCells_one]
  simp [iV, zerosN]
theorem run_makeN {P : Program} (w : World) (t e : TypeId) (ht : P.underlying t = some (.slice e)) (hinfo : (P.info? e).map (fun i => (i.zero, i.size, i.bytes)) = some (some (.int .i64 0), 1, 8)) (n : Nat) (hn : n ≤ 1000000) :
    (Instr.makeSlice t (.int .i64 (n : Int)) (.int .i64 (n : Int))).run P w = .ok (.slice (some ⟨w.heap.size, 0, none⟩) n n) (w.alloc (.cells (iV (zerosN n)).toArray e)) := by
  obtain ⟨i, hi, hz, hs, hb⟩ := info_parts hinfo
  have h := run_make (P := P) w t e i (.int .i64 0) ht hi hz .i64 .i64 (n : Int) (n : Int) (by omega) (by omega) (by rw [hb]; omega) (by omega)
  rw [h, hs]
  simp only [Int.toNat_natCast, Nat.mul_one, Value.cells]
  rw [madeCells_ints]
theorem storeNew {P : Program} {ops : Array Oper} {rest : List Oper} {o : Oper} {a : Act} {Q : Exit → Act → World → Prop} {old : Array Value} (w1 : World) (hgd : o.guard = none) (ty : TypeId) (x y : Operand) (ho : o.op = .store ty x y)
    (cells : Array Value) (t : TypeId) (hx : a.eval x = .pointer (some ⟨w1.heap.size, 0, none⟩)) (hy : a.eval y = .agg cells)
    (hi : (P.info? ty).map (·.size) = some cells.size) (hold : old.size = cells.size) (h1 : cells.all (·.oneCell') = true)
    (h : ∀ wx, wx.heap[w1.heap.size]? = some (.cells cells t (0, 0)) → Below w1.heap.size w1 wx → wpList P ops Q rest (a.put o.dst undef) wx) :
    wpList P ops Q (o :: rest) a (w1.alloc (.cells old t)) := by
  have hg := heap_alloc_new w1 (.cells old t)
  refine wpList_store_row hgd ty x y ho w1.heap.size cells hx hy t old hg hi hold h1 (h _ (setRow_heap _ _ _ _ _ _ hg) ?_)
  exact below_setRow' ((Below.refl _ _).alloc (Nat.le_refl _) _) (Nat.le_refl _) _
/-- A row in a later world. -/
theorem rowB {B : Nat} {w w' : World} {g : Nat} {b : Obj} (h : w.heap[g]? = some b) (hb : Below B w w') (hg : g < B) : w'.heap[g]? = some b := by
  rw [hb.block g hg]; exact h
theorem below_a (w : World) (o : Obj) : Below w.heap.size w (w.alloc o) := (Below.refl _ _).alloc (Nat.le_refl _) o
theorem quiet_cell {P : Program} {C : World → Prop} {o : Oper} {a : Act} (ty : TypeId) (x : Operand) (ho : o.op = .load ty x) (g k : Nat) (hx : a.eval x = .pointer (some ⟨g, k, none⟩)) (v : Value)
    (hC : ∀ w, C w → w.cell? ⟨g, k, none⟩ = some v) (hu : ∀ w, (isAgg ty).run P w = .ok false w) : ∀ w, C w → o.quietAt P a C w v := by
  intro w hw
  have hc := hC w hw
  unfold Oper.quietAt execOp
  generalize a.eval = ev at *
  simp only [ho]
  simp [go_sem, hx, hu, hc]
theorem drewN_below {B : Nat} {w W : World} (h : Below B w W) (n : Nat) : Below B w (W.drewN n) := ⟨h.os, h.tape, h.output, h.size, h.block⟩
theorem results_row_tmp2 {P : Program} {fn : Func} {p u v : Tmp} {ty : TypeId} (h : fn.results = #[.cell p ty, .tmp u, .tmp v]) (tmps : Array Value) (w : World) (g : Nat) (t : TypeId) (cs : Array Value) (fr : Nat × Nat) (d : TypeDesc)
    (hp : tmps.getD p undef = .pointer (some ⟨g, 0, none⟩)) (hg : w.heap[g]? = some (.cells cs t fr))
    (hu : P.underlying ty = some d) (hd : (match d with | .struct _ | .array _ _ => true | _ => false) = true) (hi : (P.info? ty).map (·.size) = some cs.size) :
    (results fn tmps).run P w = .ok (.tuple #[.agg cs, tmps.getD u undef, tmps.getD v undef]) w := by
  have hc : (results fn tmps).run P w =
      ((asAddr (tmps.getD p undef)).run P w).andThen fun a w₁ => ((loadVar ty a).run P w₁).andThen fun x w₂ => .ok (.tuple #[x, tmps.getD u undef, tmps.getD v undef]) w₂ := by
    simp only [results, h]
    simp [Sem.run_bind, Result.andThen]
  rw [hc, hp]
  have hl := run_loadVar_row (P := P) w g t ty cs fr d hg hu hd hi
  simp [asAddr, hl]
end Go.Proofs.Ytdebeimognikiaa.con
namespace Go.Proofs.Ytdebeimognikiaa.con
open Go.RowKit Go.Ytdebeimognikiaa
set_option linter.unusedVariables false
abbrev tkC (lv av : Value) : Array Value := #[lv, av]
set_option maxHeartbeats 4000000 in
set_option maxRecDepth 100000 in
theorem sCheck_any (L A : List Int) (lv av : Value) (w : World) (hL : RdN w lv L) (hA : RdN w av A) :
    Calls Try.prog 21 #[.agg (tkC lv av)] w fun e w' => e = .returned (.int .i64 (chkT L A)) ∧ Below w.heap.size w w' := by
  have f1 := hL.fit
  have f2 := hA.fit
  obtain ⟨la, lc, rfl⟩ := hL.slice
  obtain ⟨aa, ac, rfl⟩ := hA.slice
  obtain ⟨n, hn⟩ : ∃ n, L.length = n := ⟨_, rfl⟩
  obtain ⟨m, hm⟩ : ∃ m, A.length = m := ⟨_, rfl⟩
  have hn' := Lib.hid hn; have hm' := Lib.hid hm
  rw [hn] at hL f1 ⊢
  rw [hm] at hA f2 ⊢
  obtain ⟨W, hW⟩ : ∃ W, W = w.alloc (.cells (tkC (.slice la n lc) (.slice aa m ac)) 24) := ⟨_, rfl⟩
  have hS := Lib.hid (show Below w.heap.size w W by rw [hW]; exact below_a _ _)
  have r0 : W.heap[w.heap.size]? = some (.cells (tkC (.slice la n lc) (.slice aa m ac)) 24 (0, 0)) := by rw [hW]; exact heap_alloc_new w _
  have c0 : W.cell? ⟨w.heap.size, 0, none⟩ = some (.slice la n lc) := by rw [cell_of_row _ _ _ _ _ _ r0]; rfl
  have c1 : W.cell? ⟨w.heap.size, 1, none⟩ = some (.slice aa m ac) := by rw [cell_of_row _ _ _ _ _ _ r0]; rfl
  have hbad := Lib.hid (fun h : ¬ OkT L A => chkT_no h)
  have hgood := Lib.hid (fun h : OkT L A => chkT_ok h)
  have hL' := Lib.hid hL; have hA' := Lib.hid hA
  clear hL hA r0 hn hm
  generalize hR : chkT L A = R at *
  clear hR
  go_enter Try.func21, Try.ntmps21
  go_upto_region 1 with fail
  rw [← hW]
  clear hW
  by_cases h1 : n < 1
  · have h1' : (n : Int) < 1 := by omega
    have hx := Lib.hid (hbad.out (fun h => by have := h.lo; have := hn'.out; omega))
    go_wp2
    go_ret
    exact ⟨ret_int hx.out.symm, hS.out⟩
  have h1' : ¬ (n : Int) < 1 := by omega
  by_cases h2 : 12 < n
  · have h2' : (12 : Int) < n := by omega
    have hx := Lib.hid (hbad.out (fun h => by have := h.hi; have := hn'.out; omega))
    go_wp2
    go_ret
    exact ⟨ret_int hx.out.symm, hS.out⟩
  have h2' : ¬ (12 : Int) < n := by omega
  by_cases h3 : m = n
  · subst h3
    go_wp2
    go_loopw [22] (fun i wr => ∃ k : Nat, k ≤ m ∧ i = .int .i64 (k : Int) ∧ wr = W ∧ ∀ j, j < k → elB L A j = true) (fun i _ => m - (intOf i).toNat)
    case atStart => exact ⟨0, Nat.zero_le _, rfl, rfl, fun j hj => absurd hj (Nat.not_lt_zero _)⟩
    case round =>
      obtain ⟨k, hk, rfl, rfl, he⟩ := hrel
      have he' := Lib.hid he
      clear he
      by_cases hlt : k < m
      · obtain ⟨b, o, rfl, hbw, q1⟩ := rdN_at hL'.out k (by rw [hn'.out]; exact hlt)
        obtain ⟨b2, o2, rfl, hbw2, q2⟩ := rdN_at hA'.out k (by rw [hm'.out]; exact hlt)
        have d0 := q1 _ hS.out
        have d1 := q2 _ hS.out
        have hkI : (k : Int) < (m : Int) := by omega
        have hel := Lib.hid (fun h : ¬ ((0 ≤ ith L k ∧ ith L k ≤ 60) ∧ -1 ≤ ith A k ∧ ith A k < (k : Int)) => hbad.out (fun g => h (g.el k (by rw [hn'.out]; exact hlt))))
        have hst := Lib.hid (fun h : ((0 ≤ ith L k ∧ ith L k ≤ 60) ∧ -1 ≤ ith A k ∧ ith A k < (k : Int)) => (show ∀ j, j < k + 1 → elB L A j = true from fun j hj => by
          rcases Nat.lt_or_ge j k with g | g
          · exact he'.out j g
          · obtain rfl : j = k := by omega
            exact el_iff.2 h))
        clear q1 q2
        generalize ith L k = x at *
        generalize ith A k = y at *
        by_cases g1 : x < 0
        · have hx := Lib.hid (hel.out (fun h => by omega))
          go_wp2
          go_ret
          exact ⟨ret_int hx.out.symm, hS.out⟩
        by_cases g2 : 60 < x
        · have hx := Lib.hid (hel.out (fun h => by omega))
          go_wp2
          go_ret
          exact ⟨ret_int hx.out.symm, hS.out⟩
        by_cases g3 : y < -1
        · have hx := Lib.hid (hel.out (fun h => by omega))
          go_wp2
          go_ret
          exact ⟨ret_int hx.out.symm, hS.out⟩
        by_cases g4 : (k : Int) ≤ y
        · have hx := Lib.hid (hel.out (fun h => by omega))
          go_wp2
          go_ret
          exact ⟨ret_int hx.out.symm, hS.out⟩
        have hnew := Lib.hid (hst.out (by omega))
        go_wp2
        go_roundw
        case rel => exact ⟨k + 1, by omega, by go_num, (by first | rfl | trivial), hnew.out⟩
        case measure => simp [intOf]; omega
      · obtain rfl : k = m := by omega
        have hx := Lib.hid (hgood.out ⟨by have := hn'.out; omega, by have := hn'.out; omega, by rw [hm'.out, hn'.out], fun i hi => el_iff.1 (he'.out i (by rw [← hn'.out]; exact hi))⟩)
        go_wp2
        go_ret
        exact ⟨ret_int hx.out.symm, hS.out⟩
  · have h3' : ¬ ((m : Int) = (n : Int)) := by omega
    have hx := Lib.hid (hbad.out (fun h => by have := h.na; have := hn'.out; have := hm'.out; omega))
    go_wp2
    go_ret
    exact ⟨ret_int hx.out.symm, hS.out⟩
set_option maxHeartbeats 4000000 in
set_option maxRecDepth 100000 in
theorem rCheck_any (L A : List Int) (lv av : Value) (w : World) (hL : RdN w lv L) (hA : RdN w av A) :
    Calls Try.prog 22 #[.agg (tkC lv av)] w fun e w' => e = .returned (.int .i64 (chkT L A)) ∧ Below w.heap.size w w' := by
  have f1 := hL.fit
  have f2 := hA.fit
  obtain ⟨la, lc, rfl⟩ := hL.slice
  obtain ⟨aa, ac, rfl⟩ := hA.slice
  obtain ⟨n, hn⟩ : ∃ n, L.length = n := ⟨_, rfl⟩
  obtain ⟨m, hm⟩ : ∃ m, A.length = m := ⟨_, rfl⟩
  have hn' := Lib.hid hn; have hm' := Lib.hid hm
  rw [hn] at hL f1 ⊢
  rw [hm] at hA f2 ⊢
  obtain ⟨W, hW⟩ : ∃ W, W = w.alloc (.cells (tkC (.slice la n lc) (.slice aa m ac)) 24) := ⟨_, rfl⟩
  have hS := Lib.hid (show Below w.heap.size w W by rw [hW]; exact below_a _ _)
  have r0 : W.heap[w.heap.size]? = some (.cells (tkC (.slice la n lc) (.slice aa m ac)) 24 (0, 0)) := by rw [hW]; exact heap_alloc_new w _
  have c0 : W.cell? ⟨w.heap.size, 0, none⟩ = some (.slice la n lc) := by rw [cell_of_row _ _ _ _ _ _ r0]; rfl
  have c1 : W.cell? ⟨w.heap.size, 1, none⟩ = some (.slice aa m ac) := by rw [cell_of_row _ _ _ _ _ _ r0]; rfl
  have hbad := Lib.hid (fun h : ¬ OkT L A => chkT_no h)
  have hgood := Lib.hid (fun h : OkT L A => chkT_ok h)
  have hL' := Lib.hid hL; have hA' := Lib.hid hA
  clear hL hA r0 hn hm
  generalize hR : chkT L A = R at *
  clear hR
  go_enter Try.func22, Try.ntmps22
  go_upto_region 1 with fail
  rw [← hW]
  clear hW
  by_cases h1 : n < 1
  · have h1' : (n : Int) < 1 := by omega
    have hx := Lib.hid (hbad.out (fun h => by have := h.lo; have := hn'.out; omega))
    go_wp2
    go_ret
    exact ⟨ret_int hx.out.symm, hS.out⟩
  have h1' : ¬ (n : Int) < 1 := by omega
  by_cases h2 : 12 < n
  · have h2' : (12 : Int) < n := by omega
    have hx := Lib.hid (hbad.out (fun h => by have := h.hi; have := hn'.out; omega))
    go_wp2
    go_ret
    exact ⟨ret_int hx.out.symm, hS.out⟩
  have h2' : ¬ (12 : Int) < n := by omega
  by_cases h3 : m = n
  · subst h3
    go_wp2
    go_loopw [3] (fun i wr => ∃ k : Nat, k ≤ m ∧ i = .int .i64 (k : Int) ∧ wr = W ∧ ∀ j, j < k → elB L A j = true) (fun i _ => m - (intOf i).toNat)
    case atStart => exact ⟨0, Nat.zero_le _, rfl, rfl, fun j hj => absurd hj (Nat.not_lt_zero _)⟩
    case round =>
      obtain ⟨k, hk, rfl, rfl, he⟩ := hrel
      have he' := Lib.hid he
      clear he
      by_cases hlt : k < m
      · obtain ⟨b, o, rfl, hbw, q1⟩ := rdN_at hL'.out k (by rw [hn'.out]; exact hlt)
        obtain ⟨b2, o2, rfl, hbw2, q2⟩ := rdN_at hA'.out k (by rw [hm'.out]; exact hlt)
        have d0 := q1 _ hS.out
        have d1 := q2 _ hS.out
        have hkI : (k : Int) < (m : Int) := by omega
        have hel := Lib.hid (fun h : ¬ ((0 ≤ ith L k ∧ ith L k ≤ 60) ∧ -1 ≤ ith A k ∧ ith A k < (k : Int)) => hbad.out (fun g => h (g.el k (by rw [hn'.out]; exact hlt))))
        have hst := Lib.hid (fun h : ((0 ≤ ith L k ∧ ith L k ≤ 60) ∧ -1 ≤ ith A k ∧ ith A k < (k : Int)) => (show ∀ j, j < k + 1 → elB L A j = true from fun j hj => by
          rcases Nat.lt_or_ge j k with g | g
          · exact he'.out j g
          · obtain rfl : j = k := by omega
            exact el_iff.2 h))
        clear q1 q2
        generalize ith L k = x at *
        generalize ith A k = y at *
        by_cases g1 : x < 0
        · have hx := Lib.hid (hel.out (fun h => by omega))
          go_wp2
          go_ret
          exact ⟨ret_int hx.out.symm, hS.out⟩
        by_cases g2 : 60 < x
        · have hx := Lib.hid (hel.out (fun h => by omega))
          go_wp2
          go_ret
          exact ⟨ret_int hx.out.symm, hS.out⟩
        by_cases g3 : y < -1
        · have hx := Lib.hid (hel.out (fun h => by omega))
          go_wp2
          go_ret
          exact ⟨ret_int hx.out.symm, hS.out⟩
        by_cases g4 : (k : Int) ≤ y
        · have hx := Lib.hid (hel.out (fun h => by omega))
          go_wp2
          go_ret
          exact ⟨ret_int hx.out.symm, hS.out⟩
        have hnew := Lib.hid (hst.out (by omega))
        go_wp2
        go_roundw
        case rel => exact ⟨k + 1, by omega, by go_num, (by first | rfl | trivial), hnew.out⟩
        case measure => simp [intOf]; omega
      · obtain rfl : k = m := by omega
        have hx := Lib.hid (hgood.out ⟨by have := hn'.out; omega, by have := hn'.out; omega, by rw [hm'.out, hn'.out], fun i hi => el_iff.1 (he'.out i (by rw [← hn'.out]; exact hi))⟩)
        go_wp2
        go_ret
        exact ⟨ret_int hx.out.symm, hS.out⟩
  · have h3' : ¬ ((m : Int) = (n : Int)) := by omega
    have hx := Lib.hid (hbad.out (fun h => by have := h.na; have := hn'.out; have := hm'.out; omega))
    go_wp2
    go_ret
    exact ⟨ret_int hx.out.symm, hS.out⟩
end Go.Proofs.Ytdebeimognikiaa.con
namespace Go
namespace Ytdebeimognikiaa
set_option linter.unusedVariables false
section
variable {P : Program} {ops : Array Oper} {md : Region.Mode} {Q : Exit → Act → World → Prop}
/-- What an operation that ends well leaves: a value and a world, of which R is true. -/
def fxUpon (P : Program) (R : Value → World → Prop) : Result Next → Prop
  | .ok (.value v) w' => R v w'
  | .ok .skip w' => R undef w'
  | .ok (.enter f args) w' => Calls P f args w' fun e w'' => ∃ v, e = .returned v ∧ R v w''
  | _ => False
def FxStep (P : Program) (ops : Array Oper) (o : Oper) (a : Act) (w : World) (R : Value → World → Prop) : Prop :=
  if Region.wanted o (yielded ops a.tmps) = true then fxUpon P R ((execOp a.eval o).run P w) else R undef w
theorem fx_wpOp {i : Nat} {o : Oper} {a : Act} {w : World} {R : Value → World → Prop} {K : Act → World → Prop} (hi : ops[i]? = some o) (h : FxStep P ops o a w R) (hK : ∀ v w', R v w' → K (a.put o.dst v) w') : wpOp P ops Q i K a w := by
  unfold wpOp
  simp only [hi]
  unfold FxStep at h
  split
  · rename_i hw
    rw [if_pos hw] at h
    refine .inl ?_
    unfold Oper.wp
    generalize (execOp a.eval o).run P w = r at h
    cases r with
    | halt x w' => cases x <;> exact h.elim
    | ok nx w' =>
      cases nx with
      | value v => exact hK v w' h
      | skip => exact hK undef w' h
      | defer d => exact h.elim
      | row r a => exact h.elim
      | enter f args =>
        refine Calls.mono h fun e w'' he => ?_
        obtain ⟨v, rfl, hR⟩ := he
        exact hK v w'' hR
      | _ => exact h.elim
  · rename_i hw
    rw [if_neg hw] at h
    exact hK undef w h
/-- The frame: those of the first k operations that L names have put their values. -/
def fxF (ops : Array Oper) (vs : Nat → Value) (L : Nat → Bool) (a0 : Act) : Nat → Act
  | 0 => a0
  | k + 1 => if L k = true then (fxF ops vs L a0 k).put ((ops[k]?).bind (·.dst)) (vs k) else fxF ops vs L a0 k
abbrev fxT : Nat → Bool := fun _ => true
theorem put_tmps_ne (a : Act) (x : Option Tmp) (v : Value) (t : Tmp) (h : x ≠ some t) : (a.put x v).tmps[t]? = a.tmps[t]? := by
  cases x with
  | none => rfl
  | some d =>
    have hne : d ≠ t := fun e => h (by rw [e])
    simp [Act.put, Array.getElem?_setIfInBounds_ne hne]
theorem put_tmps_congr (a b : Act) (x : Option Tmp) (v : Value) (t : Tmp) (h : a.tmps[t]? = b.tmps[t]?) : (a.put x v).tmps[t]? = (b.put x v).tmps[t]? := by
  cases x with
  | none => exact h
  | some d =>
    by_cases e : d = t
    · subst e
      simp only [Act.put, Array.getElem?_setIfInBounds, if_true]
      have h1 : d < a.tmps.size ↔ d < b.tmps.size := by
        constructor
        · intro hl
          rw [Array.getElem?_eq_getElem hl] at h
          exact (Array.getElem?_eq_some_iff.1 h.symm).1
        · intro hl
          rw [Array.getElem?_eq_getElem hl] at h
          exact (Array.getElem?_eq_some_iff.1 h).1
      by_cases hl : d < a.tmps.size
      · rw [if_pos hl, if_pos (h1.1 hl)]
      · rw [if_neg hl, if_neg (fun h2 => hl (h1.2 h2))]
    · simp only [Act.put, Array.getElem?_setIfInBounds_ne e]; exact h
theorem eval_tmps (a b : Act) (x : Operand) (h : ∀ t, x = .tmp t → a.tmps[t]? = b.tmps[t]?) : a.eval x = b.eval x := by
  cases x with
  | tmp t => simp only [Act.eval, Array.getD_eq_getD_getElem?, h t rfl]
  | _ => rfl
/-- A slot that the operation i looks at: it has what the lexical order gives. -/
theorem fxF_look (vs : Nat → Value) (L : Nat → Bool) (a0 : Act) (n i : Nat) (hi : i ≤ n) (t : Tmp) (hl : ∀ j, j < n → (ops[j]?).bind (·.dst) = some t → (j < i → L j = true) ∧ (i ≤ j → L j = false)) :
    (fxF ops vs L a0 n).tmps[t]? = (fxF ops vs fxT a0 i).tmps[t]? := by
  have h1 : ∀ k, k ≤ i → (fxF ops vs L a0 k).tmps[t]? = (fxF ops vs fxT a0 k).tmps[t]? := by
    intro k
    induction k with
    | zero => intro _; rfl
    | succ k ih =>
      intro hk
      have ih := ih (by omega)
      simp only [fxF, fxT, if_true]
      by_cases hd : (ops[k]?).bind (·.dst) = some t
      · rw [if_pos ((hl k (by omega) hd).1 (by omega))]
        exact put_tmps_congr _ _ _ _ _ ih
      · rw [put_tmps_ne _ _ _ _ hd]
        split
        · rw [put_tmps_ne _ _ _ _ hd]; exact ih
        · exact ih
  have h2 : ∀ d, i + d ≤ n → (fxF ops vs L a0 (i + d)).tmps[t]? = (fxF ops vs L a0 i).tmps[t]? := by
    intro d
    induction d with
    | zero => intro _; rfl
    | succ d ih =>
      intro hk
      rw [← ih (by omega)]
      show (fxF ops vs L a0 (i + d + 1)).tmps[t]? = _
      simp only [fxF]
      split
      · rename_i hL
        refine put_tmps_ne _ _ _ _ fun hd => ?_
        rw [(hl (i + d) (by omega) hd).2 (by omega)] at hL; cases hL
      · rfl
  have := h2 (n - i) (by omega)
  rw [show i + (n - i) = n by omega] at this
  rw [this, h1 i (Nat.le_refl _)]
theorem fxF_agree (vs vs' : Nat → Value) (L L' : Nat → Bool) (a0 : Act) (k : Nat) (h : ∀ j, j < k → L j = L' j ∧ (L j = true → vs j = vs' j)) : fxF ops vs L a0 k = fxF ops vs' L' a0 k := by
  induction k with
  | zero => rfl
  | succ k ih =>
    have h1 := h k (Nat.lt_succ_self _)
    simp only [fxF]
    rw [ih fun j hj => h j (by omega), ← h1.1]
    split
    · rename_i hL; rw [h1.2 hL]
    · rfl
theorem fxF_put (vs : Nat → Value) (L : Nat → Bool) (a0 : Act) (n i : Nat) (v : Value) (hin : i < n) (hL : L i = false) (hd : ∀ k, i < k → k < n → L k = true → ∀ d, (ops[i]?).bind (·.dst) = some d → (ops[k]?).bind (·.dst) ≠ some d) :
    (fxF ops vs L a0 n).put ((ops[i]?).bind (·.dst)) v = fxF ops (fun j => if j = i then v else vs j) (fun j => if j = i then true else L j) a0 n := by
  have key : ∀ d, i + 1 + d ≤ n → (fxF ops vs L a0 (i + 1 + d)).put ((ops[i]?).bind (·.dst)) v = fxF ops (fun j => if j = i then v else vs j) (fun j => if j = i then true else L j) a0 (i + 1 + d) := by
    intro d
    induction d with
    | zero =>
      intro _
      simp only [fxF, Nat.add_zero, if_true, hL]
      rw [if_neg (by decide)]
      congr 1
      exact fxF_agree _ _ _ _ _ _ fun j hj => by
        have hne : j ≠ i := by omega
        simp [hne]
    | succ d ih =>
      intro hk
      have ih := ih (by omega)
      have hne : i + 1 + d ≠ i := by omega
      show (fxF ops vs L a0 (i + 1 + d + 1)).put _ v = fxF ops _ _ a0 (i + 1 + d + 1)
      simp only [fxF, if_neg hne]
      by_cases hLk : L (i + 1 + d) = true
      · rw [if_pos hLk, if_pos hLk, ← ih]
        exact (Act.put_comm _ _ _ fun d' hd' hd2 => hd (i + 1 + d) (by omega) (by omega) hLk d' hd2 hd').trans rfl
      · rw [if_neg hLk, if_neg hLk]; exact ih
  have := key (n - (i + 1)) (by omega)
  rwa [show i + 1 + (n - (i + 1)) = n by omega] at this
/-- The waiting of the operations, and the frames, as' they are to be; A names for each operation all that must come before it. -/
def fxB (ops : Array Oper) (n : Nat) (A : List (List Nat)) : Bool :=
  Region.noSelect ops && decide (n ≤ ops.size) &&
  ((List.range ops.size).all fun i => match ops[i]? with
    | none => true
    | some o => (o.after.all fun e => !Region.binds .any e || decide (e.on < i)) && ((A.getD i []).all fun j => decide (j < i) && o.after.any fun e => Region.binds .any e && (e.on == j || (A.getD e.on []).contains j))) &&
  ((List.range ops.size).all fun i => decide (i < n) || (List.range n).all fun j => (A.getD i []).contains j) &&
  ((List.range n).all fun i => match ops[i]? with
    | none => true
    | some o => (List.range n).all fun j => match (ops[j]?).bind (·.dst) with
      | none => true
      | some d => (!(o.looksAt ops).contains d || (decide (j < i) && (A.getD i []).contains j) || (decide (i < j) && (A.getD j []).contains i) || decide (j = i)) &&
        (!(o.dst == some d) || decide (j ≤ i) || (A.getD j []).contains i)) &&
  Region.seqB .any ops (ops.size - n) n ((Array.replicate n true) ++ (Array.replicate (ops.size - n) false))
structure FxOk (ops : Array Oper) (n : Nat) (A : List (List Nat)) : Prop where
  sel : Region.noSelect ops = true
  le : n ≤ ops.size
  aft : ∀ i o, ops[i]? = some o → ∀ e ∈ o.after, Region.binds .any e = true → e.on < i
  anc : ∀ i o, ops[i]? = some o → ∀ j ∈ A.getD i [], j < i ∧ ∃ e ∈ o.after, Region.binds .any e = true ∧ (e.on = j ∨ j ∈ A.getD e.on [])
  tail : ∀ i, n ≤ i → i < ops.size → ∀ j, j < n → j ∈ A.getD i []
  look : ∀ i o j d, i < n → j < n → ops[i]? = some o → (ops[j]?).bind (·.dst) = some d → d ∈ o.looksAt ops → (j < i ∧ j ∈ A.getD i []) ∨ (i < j ∧ i ∈ A.getD j []) ∨ j = i
  dst : ∀ i o j d, i < n → j < n → ops[i]? = some o → (ops[j]?).bind (·.dst) = some d → o.dst = some d → i < j → i ∈ A.getD j []
  seq : Region.seqB .any ops (ops.size - n) n ((Array.replicate n true) ++ (Array.replicate (ops.size - n) false)) = true
theorem fxB_ok {n : Nat} {A : List (List Nat)} (h : fxB ops n A = true) : FxOk ops n A := by
  unfold fxB at h
  simp only [Bool.and_eq_true, decide_eq_true_eq] at h
  obtain ⟨⟨⟨⟨⟨h1, h2⟩, h3⟩, h4⟩, h5⟩, h6⟩ := h
  refine ⟨h1, h2, fun i o ho e he hb => ?_, fun i o ho j hj => ?_, fun i hi hs j hj => ?_, fun i o j d hi hj ho hd hl => ?_, fun i o j d hi hj ho hd hl hij => ?_, h6⟩
  · have hi := (Array.getElem?_eq_some_iff.1 ho).1
    have k := List.all_eq_true.1 h3 i (List.mem_range.2 hi)
    simp only [ho, Bool.and_eq_true] at k
    have k1 := Array.all_eq_true'.1 k.1 e he
    simpa [hb] using k1
  · have hi := (Array.getElem?_eq_some_iff.1 ho).1
    have k := List.all_eq_true.1 h3 i (List.mem_range.2 hi)
    simp only [ho, Bool.and_eq_true] at k
    have k1 := List.all_eq_true.1 k.2 j hj
    simp only [Bool.and_eq_true, decide_eq_true_eq] at k1
    refine ⟨k1.1, ?_⟩
    obtain ⟨e, he, hb⟩ := Array.any_eq_true'.1 k1.2
    simp only [Bool.and_eq_true, Bool.or_eq_true, beq_iff_eq, List.contains_iff_mem] at hb
    exact ⟨e, he, hb.1, hb.2⟩
  · have k := List.all_eq_true.1 h4 i (List.mem_range.2 hs)
    rw [Bool.or_eq_true, decide_eq_true_eq] at k
    rcases k with k | k
    · omega
    · have := List.all_eq_true.1 k j (List.mem_range.2 hj)
      simpa using this
  · have k := List.all_eq_true.1 h5 i (List.mem_range.2 hi)
    simp only [ho] at k
    have k1 := List.all_eq_true.1 k j (List.mem_range.2 hj)
    simp only [hd, Bool.and_eq_true] at k1
    have k2 := k1.1
    simp only [Bool.or_eq_true, Bool.and_eq_true, decide_eq_true_eq, List.contains_iff_mem, Bool.not_eq_true'] at k2
    rcases k2 with ((k2 | k2) | k2) | k2
    · have : (o.looksAt ops).contains d = true := by simpa using hl
      rw [this] at k2; cases k2
    · exact .inl k2
    · exact .inr (.inl k2)
    · exact .inr (.inr k2)
  · have k := List.all_eq_true.1 h5 i (List.mem_range.2 hi)
    simp only [ho] at k
    have k1 := List.all_eq_true.1 k j (List.mem_range.2 hj)
    simp only [hd, Bool.and_eq_true] at k1
    have k2 := k1.2
    simp only [Bool.or_eq_true, decide_eq_true_eq, List.contains_iff_mem, Bool.not_eq_true'] at k2
    rcases k2 with (k2 | k2) | k2
    · rw [hl] at k2; simp at k2
    · omega
    · exact k2
theorem looks_tmp {o : Oper} {t : Tmp} (h : .tmp t ∈ o.op.operands) : t ∈ o.looksAt ops := by
  unfold Oper.looksAt
  rw [List.mem_append]
  refine .inl ?_
  rw [List.mem_filterMap]
  exact ⟨.tmp t, by simpa using h, rfl⟩
theorem looks_guard {o : Oper} {g : Nat} {b : Bool} (h : o.guard = some (g, b)) {t : Tmp} (ht : (ops[g]?).bind (·.dst) = some t) : t ∈ o.looksAt ops := by
  unfold Oper.looksAt
  rw [List.mem_append]
  refine .inr ?_
  simp [h, ht]
theorem fx_same {o : Oper} (hs : ∀ cs b, o.op ≠ .select cs b) (a b : Act) (h : ∀ t, t ∈ o.looksAt ops → a.tmps[t]? = b.tmps[t]?) (w : World) (R : Value → World → Prop) : FxStep P ops o a w R = FxStep P ops o b w R := by
  have h1 : execOp a.eval o = execOp b.eval o := execOp_congr o hs fun x hx => eval_tmps a b x fun t ht => h t (looks_tmp (by rw [← ht]; exact hx))
  have h2 : Region.wanted o (yielded ops a.tmps) = Region.wanted o (yielded ops b.tmps) := by
    unfold Region.wanted
    cases hg : o.guard with
    | none => rfl
    | some gw =>
      obtain ⟨g, wnt⟩ := gw
      simp only
      have h3 : yielded ops a.tmps g = yielded ops b.tmps g := by
        unfold yielded
        cases hd : (ops[g]?).bind (·.dst) with
        | none => rfl
        | some t => simp only [Option.bind_some, h t (looks_guard hg hd)]
      rw [h3]
  unfold FxStep
  rw [h1, h2]
theorem anc_listed {n : Nat} {A : List (List Nat)} (hB : FxOk ops n A) {listed : Array Bool} (cl : Closed .any ops listed) :
    ∀ i o, ops[i]? = some o → (∀ e ∈ o.after, Region.binds .any e = true → listed.getD e.on false = true) → ∀ j ∈ A.getD i [], listed.getD j false = true := by
  intro i
  induction i using Nat.strongRecOn with
  | _ i ih =>
    intro o ho hall j hj
    obtain ⟨_, e, he, hb, h | h⟩ := hB.anc i o ho j hj
    · rw [← h]; exact hall e he hb
    · have hon := hB.aft i o ho e he hb
      have hlt : e.on < ops.size := Nat.lt_trans hon (Array.getElem?_eq_some_iff.1 ho).1
      exact ih e.on hon _ (Array.getElem?_eq_getElem hlt) (fun e2 he2 hb2 => cl.2 _ _ (Array.getElem?_eq_getElem hlt) (hall e he hb) e2 he2 hb2) j h
/-- How many of the first n are not listed. -/
def fxLeft (listed : Array Bool) (n : Nat) : Nat := ((List.range n).filter fun j => !listed.getD j false).length
theorem fxLeft_set {listed : Array Bool} {n i : Nat} (hi : i < n) (hs : i < listed.size) (h : listed.getD i false = false) : fxLeft (listed.setIfInBounds i true) n + 1 = fxLeft listed n := by
  have gi : (listed.setIfInBounds i true).getD i false = true := by simp [hs]
  have go : ∀ j, j ≠ i → (listed.setIfInBounds i true).getD j false = listed.getD j false := fun j hj => getD_set_ne false (fun e => hj e.symm)
  have key : ∀ m, fxLeft (listed.setIfInBounds i true) m + (if i < m then 1 else 0) = fxLeft listed m := by
    intro m
    induction m with
    | zero => rfl
    | succ m ih =>
      unfold fxLeft at ih ⊢
      rw [List.range_succ, List.filter_append, List.filter_append, List.length_append, List.length_append, ← ih]
      by_cases e : m = i
      · subst e
        rw [if_neg (Nat.lt_irrefl m), if_pos (Nat.lt_succ_self m)]
        simp only [List.filter_cons, List.filter_nil, gi, h, Bool.not_true, Bool.not_false, if_true, Bool.false_eq_true, if_false, List.length_nil, List.length_cons]
      · rw [show (if i < m + 1 then 1 else 0) = (if i < m then 1 else 0) by
          by_cases h1 : i < m
          · rw [if_pos h1, if_pos (by omega)]
          · rw [if_neg h1, if_neg (by omega)]]
        simp only [List.filter_cons, List.filter_nil, go m e]
        omega
  have := key n
  rw [if_pos hi] at this
  exact this
theorem fxLeft_zero {listed : Array Bool} {n : Nat} (h : fxLeft listed n = 0) : ∀ j, j < n → listed.getD j false = true := fun j hj => by
  have h1 := List.eq_nil_of_length_eq_zero h
  rw [List.filter_eq_nil_iff] at h1
  simpa using h1 j (List.mem_range.2 hj)
theorem fxLeft_pos {listed : Array Bool} {n : Nat} (h : fxLeft listed n ≠ 0) : ∃ j, j < n ∧ listed.getD j false = false := by
  refine Classical.byContradiction fun hn => h ?_
  unfold fxLeft
  rw [List.length_eq_zero_iff, List.filter_eq_nil_iff]
  intro j hj
  have hj := List.mem_range.1 hj
  cases hb : listed.getD j false with
  | true => simp
  | false => exact absurd ⟨j, hj, hb⟩ hn
/-- The operation i may come behind j, if j does not have to come behind i. -/
def fxAfter (A : List (List Nat)) (i j : Nat) : Bool := decide (i ≠ j) && !(A.getD j []).contains i
section
variable {n : Nat} {A : List (List Nat)} {Ψ : Nat → World → Prop} {Φ : Nat → Value → World → Prop} {G : Nat → World → World → Prop} {Inv : World → Prop} {a0 : Act}
end
/-- The last of the first i operations that puts its value into the slot t. -/
def fxLast (ops : Array Oper) (t : Tmp) : Nat → Option Nat
  | 0 => none
  | k + 1 => if ((ops[k]?).bind (·.dst) == some t) = true then some k else fxLast ops t k
theorem fx_old {vs : Nat → Value} {a0 : Act} {t : Tmp} : ∀ i, fxLast ops t i = none → (fxF ops vs fxT a0 i).eval (.tmp t) = a0.eval (.tmp t)
  | 0, _ => rfl
  | k + 1, h => by
    unfold fxLast at h
    split at h
    · cases h
    · rename_i hd
      simp only [fxF, fxT, if_true]
      rw [eval_tmps _ (fxF ops vs fxT a0 k) (.tmp t) (fun t' e => by
        injection e with e
        subst e
        exact put_tmps_ne _ _ _ _ (by simpa using hd))]
      exact fx_old k h
theorem fxF_size {vs : Nat → Value} {a0 : Act} (k : Nat) : (fxF ops vs fxT a0 k).tmps.size = a0.tmps.size := by
  induction k with
  | zero => rfl
  | succ k ih =>
    simp only [fxF, fxT, if_true]
    cases (ops[k]?).bind (·.dst) with
    | none => exact ih
    | some d => simp [Act.put, ih]
theorem fx_new {vs : Nat → Value} {a0 : Act} {t : Tmp} {j : Nat} (ht : t < a0.tmps.size) : ∀ i, fxLast ops t i = some j → (fxF ops vs fxT a0 i).eval (.tmp t) = vs j
  | 0, h => by cases h
  | k + 1, h => by
    unfold fxLast at h
    simp only [fxF, fxT, if_true]
    split at h
    · rename_i hd
      injection h with h
      subst h
      rw [show (ops[k]?).bind (·.dst) = some t by simpa using hd]
      have hs : t < (fxF ops vs fxT a0 k).tmps.size := by rw [fxF_size]; exact ht
      simp [Act.eval, Act.put, Array.getD_eq_getD_getElem?, hs]
    · rename_i hd
      rw [eval_tmps _ (fxF ops vs fxT a0 k) (.tmp t) (fun t' e => by
        injection e with e
        subst e
        exact put_tmps_ne _ _ _ _ (by simpa using hd))]
      exact fx_new ht k h
section
variable {o : Oper} {a : Act} {w : World} {R : Value → World → Prop}
theorem fx_val {v : Value} {w' : World} (hw : Region.wanted o (yielded ops a.tmps) = true) (h : (execOp a.eval o).run P w = .ok (.value v) w') (hR : R v w') : FxStep P ops o a w R := by
  unfold FxStep
  rw [if_pos hw, h]
  exact hR
theorem fx_move (x : Operand) (hg : o.guard = none) (ho : o.op = .move x) (hR : R (a.eval x) w) : FxStep P ops o a w R :=
  fx_val (v := a.eval x) (w' := w) (by simp [Region.wanted, hg]) (by unfold execOp; simp [ho, go_sem]) hR
theorem fx_call {T : Array TypeId} {f : FuncId} {fn : Func} {c : Code} {xs : Array Operand} (us : Array Value) (hw : Region.wanted o (yielded ops a.tmps) = true) (ho : o.op = .call { callee := .value (.func f), args := xs, argTypes := T })
    (hf : P.funcs[f]? = some fn) (hname : (fn.name == "runtime.NumGoroutine") = false) (hb : fn.body = some c) (hx : xs.map a.eval = us) (h3 : a.eval (.func f) = .func (.func f) #[] #[])
    (hc : Calls P f us w fun e w'' => ∃ v, e = .returned v ∧ R v w'') : FxStep P ops o a w R := by
  have hn : fn.name ≠ "runtime.NumGoroutine" := by simpa using hname
  unfold FxStep
  rw [if_pos hw]
  unfold execOp
  generalize a.eval = ev at *
  have hr : (callFunc f us).run P w = .ok (.enter f us) w := by simp [callFunc, hf, hn, hb]
  simp only [ho]
  simp [go_sem, hx, h3]
  rw [hr]
  exact hc
end
end
end Ytdebeimognikiaa
end Go
namespace Go
namespace Ytdebeimognikiaa
set_option linter.unusedVariables false
section
variable {P : Program} {ops : Array Oper} {md : Region.Mode} {Q : Exit → Act → World → Prop}
/-- Behind the operation i, another one than i that uses j may come, or the end uses it. -/
def fxNeed (n : Nat) (A U : List (List Nat)) (Uf : List Nat) (i j : Nat) : Bool := Uf.contains j || (List.range n).any fun k => decide (k ≠ i) && !(A.getD i []).contains k && (U.getD k []).contains j
def fxLive (n : Nat) (U : List (List Nat)) (Uf : List Nat) (listed : Array Bool) (j : Nat) : Prop := j ∈ Uf ∨ ∃ k, k < n ∧ listed.getD k false = false ∧ j ∈ U.getD k []
def fxUses (n : Nat) (A U : List (List Nat)) : Bool := (List.range n).all fun k => (U.getD k []).all fun j => (A.getD k []).contains j
theorem fxUses_mem {n : Nat} {A U : List (List Nat)} (h : fxUses n A U = true) {i j : Nat} (hi : i < n) (hj : j ∈ U.getD i []) : j ∈ A.getD i [] := by
  have h1 := List.all_eq_true.1 (List.all_eq_true.1 h i (List.mem_range.2 hi)) j hj
  simpa using h1
section
variable {n : Nat} {A : List (List Nat)} {Ψ : Nat → World → Prop} {Φ : Nat → (Nat → Value) → World → Prop} {G : Nat → World → World → Prop} {Inv : World → Prop} {a0 : Act}
end
theorem fxu_assign {o : Oper} {a : Act} {w : World} {R : Value → World → Prop} (x : Operand) (hg : o.guard = none) (ho : o.op = .assign x) (hR : R (a.eval x) w) : FxStep P ops o a w R :=
  fx_val (v := a.eval x) (w' := w) (by simp [Region.wanted, hg]) (by unfold execOp; simp [ho, go_sem]) hR
theorem fxu_store {o : Oper} {a : Act} {w : World} {R : Value → World → Prop} (ty : TypeId) (x y : Operand) (hg : o.guard = none) (ho : o.op = .store ty x y)
    (g : Nat) (cells : Array Value) (hx : a.eval x = .pointer (some ⟨g, 0, none⟩)) (hy : a.eval y = .agg cells) (t : TypeId) (old : Array Value) (hr : w.heap[g]? = some (.cells old t (0, 0))) (hi : (P.info? ty).map (·.size) = some cells.size)
    (hold : old.size = cells.size) (h1 : cells.all (·.oneCell') = true) (hR : R undef (w.setRow g cells)) : FxStep P ops o a w R := by
  unfold FxStep
  rw [if_pos (by simp [Region.wanted, hg])]
  unfold execOp
  simp only [ho, hx, hy, Instr.storeAt, Instr.sureAddr, Sem.run_bind, Sem.run_pure, Result.andThen_ok, run_storeVar_row w g t ty old cells hr hi hold h1]
  exact hR
end
end Ytdebeimognikiaa
end Go
namespace Go
namespace Ytdebeimognikiaa
set_option linter.unusedVariables false
section
variable {P : Program} {ops : Array Oper} {md : Region.Mode} {Q : Exit → Act → World → Prop}
/-- Each operation of K made its blocks apart from the others. -/
def fxSep (K : Nat → Prop) (iv : Nat → Nat × Nat) (w : World) : Prop := (∀ k, K k → (iv k).1 ≤ (iv k).2 ∧ (iv k).2 ≤ w.heap.size) ∧ ∀ k l, K k → K l → k ≠ l → (iv k).2 ≤ (iv l).1 ∨ (iv l).2 ≤ (iv k).1
theorem fxSep.sub {K K' : Nat → Prop} {iv : Nat → Nat × Nat} {w : World} (h : fxSep K iv w) (hs : ∀ k, K' k → K k) : fxSep K' iv w := ⟨fun k hk => h.1 k (hs k hk), fun k l hk hl => h.2 k l (hs k hk) (hs l hl)⟩
section
variable {n : Nat} {A : List (List Nat)} {Φ : Nat → (Nat → Value) → (Nat → Nat × Nat) → World → Prop} {G : Nat → (Nat → Value) → (Nat → Nat × Nat) → World → World → Prop} {Inv : World → Prop} {a0 : Act}
theorem fx_anyG {U : List (List Nat)} {Uf : List Nat} (hB : FxOk ops n A) (hU : fxUses n A U = true) (hI : ∀ i vs iv w w', i < n → Inv w → w.heap.size ≤ w'.heap.size → G i vs iv w w' → Inv w')
    (hC : ∀ j vs vs' iv iv' w, j < n → (∀ k, k = j ∨ k ∈ A.getD j [] → vs k = vs' k ∧ iv k = iv' k) → Φ j vs iv w → Φ j vs' iv' w)
    (hG : ∀ i j vs iv w w', i < n → j < n → fxAfter A i j = true → fxNeed n A U Uf i j = true → Inv w → fxSep (fun k => k ∈ A.getD i [] ∨ k = j ∨ k ∈ A.getD j []) iv w → Φ j vs iv w → w.heap.size ≤ w'.heap.size → G i vs iv w w' → Φ j vs iv w')
    (hstep : ∀ i o vs iv w, i < n → ops[i]? = some o → Inv w → fxSep (fun k => k ∈ A.getD i []) iv w → (∀ j, j ∈ U.getD i [] → Φ j vs iv w) → FxStep P ops o (fxF ops vs fxT a0 i) w fun v w' => w.heap.size ≤ w'.heap.size ∧ Φ i (fun j => if j = i then v else vs j) (fun j => if j = i then (w.heap.size, w'.heap.size) else iv j) w' ∧ G i vs iv w w')
    (hdone : ∀ vs iv w, Inv w → fxSep (fun k => k < n) iv w → (∀ j, j < n → j ∈ Uf → Φ j vs iv w) → wpList P ops Q (ops.toList.drop n) (fxF ops vs fxT a0 n) w) :
    ∀ (d : Nat) (listed : Array Bool) (vs : Nat → Value) (iv : Nat → Nat × Nat) (w : World), Closed .any ops listed → (∀ j, n ≤ j → j < ops.size → listed.getD j false = false) → fxLeft listed n = d → Inv w → fxSep (fun k => k < n ∧ listed.getD k false = true) iv w →
      (∀ j, j < n → listed.getD j false = true → fxLive n U Uf listed j → Φ j vs iv w) → wpAny P .any ops Q (d + (ops.size - n)) listed (fxF ops vs (fun j => listed.getD j false) a0 n) w := by
  intro d
  induction d with
  | zero =>
    intro listed vs iv w cl hout hleft hinv hsp hf
    have hall := fxLeft_zero hleft
    have hL : listed = (Array.replicate n true) ++ (Array.replicate (ops.size - n) false) := by
      refine Array.ext (by rw [cl.1]; have := hB.le; simp; omega) fun j hj1 hj2 => ?_
      have e : listed.getD j false = listed[j] := by simp [Array.getD, hj1]
      rw [← e]
      by_cases hjn : j < n
      · rw [hall j hjn, Array.getElem_append_left (by simpa using hjn)]; simp
      · rw [hout j (by omega) (by rw [← cl.1]; exact hj1), Array.getElem_append_right (by simpa using hjn)]; simp
    have hfr : fxF ops vs (fun j => listed.getD j false) a0 n = fxF ops vs fxT a0 n := fxF_agree _ _ _ _ _ _ fun j hj => ⟨hall j hj, fun _ => rfl⟩
    rw [hfr, Nat.zero_add]
    have hlen : (ops.toList.drop n).length = ops.size - n := by simp
    have h := wpAny_of_seq (P := P) (ops := ops) (md := .any) (Q' := Q) (ops.toList.drop n) n listed (fxF ops vs fxT a0 n) w (fun j => by simp [List.getElem?_drop]) (by rw [hlen, hL]; exact hB.seq) (hdone vs iv w hinv (hsp.sub fun k hk => ⟨hk, hall k hk⟩) fun j hj hu => hf j hj (hall j hj) (.inl hu))
    rwa [hlen] at h
  | succ d ih =>
    intro listed vs iv w cl hout hleft hinv hsp hf
    rw [show d + 1 + (ops.size - n) = (d + (ops.size - n)) + 1 by omega]
    refine ⟨fun hnil => ?_, fun i hi => ?_⟩
    · exfalso
      obtain ⟨j, hj, hju⟩ := fxLeft_pos (listed := listed) (n := n) (by omega)
      have hex : ∃ j, j ∈ Region.ready .any ops listed := by
        clear hnil
        induction j using Nat.strongRecOn with
        | _ j jh =>
          have hlt : j < ops.size := Nat.lt_of_lt_of_le hj hB.le
          by_cases ha : ∀ e ∈ ops[j].after, Region.binds .any e = true → listed.getD e.on false = true
          · refine ⟨j, mem_ready.2 ⟨?_, _, Array.getElem?_eq_getElem hlt, ha⟩⟩
            have hjs : j < listed.size := by rw [cl.1]; exact hlt
            simp [Array.getD, hjs] at hju ⊢
            exact hju
          · obtain ⟨e, he⟩ := Classical.not_forall.1 ha
            obtain ⟨he1, he2⟩ := Classical.not_imp.1 he
            obtain ⟨hb, hu⟩ := Classical.not_imp.1 he2
            have hon := hB.aft j _ (Array.getElem?_eq_getElem hlt) e he1 hb
            exact jh e.on hon (by omega) (by simpa using hu)
      obtain ⟨j', hj'⟩ := hex
      rw [hnil] at hj'; cases hj'
    · obtain ⟨hiu, o, ho, hall⟩ := mem_ready.1 hi
      have his : i < ops.size := (Array.getElem?_eq_some_iff.1 ho).1
      have hils : i < listed.size := by rw [cl.1]; exact his
      have hif : listed.getD i false = false := by simp [Array.getD, hils] at hiu ⊢; exact hiu
      have hanc := anc_listed hB cl i o ho hall
      rcases Nat.lt_or_ge i n with hin | hin
      · have hlk : ∀ t, t ∈ o.looksAt ops → (fxF ops vs (fun j => listed.getD j false) a0 n).tmps[t]? = (fxF ops vs fxT a0 i).tmps[t]? := fun t ht =>
          fxF_look vs _ a0 n i (Nat.le_of_lt hin) t fun j hj hd => by
            rcases hB.look i o j t hin hj ho hd ht with ⟨h1, h2⟩ | ⟨h1, h2⟩ | h1
            · exact ⟨fun _ => hanc j h2, fun h => by omega⟩
            · refine ⟨fun h => by omega, fun _ => ?_⟩
              cases hb : listed.getD j false with
              | false => rfl
              | true =>
                have hjs : j < ops.size := Nat.lt_of_lt_of_le hj hB.le
                have := anc_listed hB cl j _ (Array.getElem?_eq_getElem hjs) (fun e he hb2 => cl.2 j _ (Array.getElem?_eq_getElem hjs) hb e he hb2) i h2
                rw [hif] at this; cases this
            · subst h1; exact ⟨fun h => by omega, fun _ => hif⟩
        have hsel : ∀ cs b, o.op ≠ .select cs b := fun cs b => Region.noSelect_spec hB.sel i o cs b ho
        have hst := hstep i o vs iv w hin ho hinv (hsp.sub fun k hk => ⟨by have := (hB.anc i o ho k hk).1; omega, hanc k hk⟩) fun j hj => (have hja := fxUses_mem hU hin hj; hf j (by have := (hB.anc i o ho j hja).1; omega) (hanc j hja) (.inr ⟨i, hin, hif, hj⟩))
        rw [← fx_same hsel _ _ hlk] at hst
        refine fx_wpOp ho hst fun v w' ⟨hgr, hΦ, hg⟩ => ?_
        have hdd : o.dst = (ops[i]?).bind (·.dst) := by rw [ho]; rfl
        have hfp := fxF_put (ops := ops) vs (fun j => listed.getD j false) a0 n i v hin hif fun k hk hkn hLk d' hd' hd2 => by
          have hks : k < ops.size := Nat.lt_of_lt_of_le hkn hB.le
          rw [ho] at hd'
          have h2 := hB.dst i o k d' hin hkn ho hd2 hd' hk
          have := anc_listed hB cl k _ (Array.getElem?_eq_getElem hks) (fun e he hb2 => cl.2 k _ (Array.getElem?_eq_getElem hks) hLk e he hb2) i h2
          rw [hif] at this; cases this
        rw [hdd, hfp]
        have hfr : fxF ops (fun j => if j = i then v else vs j) (fun j => if j = i then true else listed.getD j false) a0 n = fxF ops (fun j => if j = i then v else vs j) (fun j => (listed.setIfInBounds i true).getD j false) a0 n := fxF_agree _ _ _ _ _ _ fun j hj => by
          refine ⟨?_, fun _ => rfl⟩
          by_cases e : j = i
          · subst e; simp [hils]
          · rw [if_neg e, getD_set_ne false (fun h => e h.symm)]
        rw [hfr]
        refine ih _ _ (fun j => if j = i then (w.heap.size, w'.heap.size) else iv j) _ (cl.set hi) (fun j h1 h2 => ?_) ?_ (hI i vs iv w w' hin hinv hgr hg) ?_ fun j hj hjl hlv => ?_
        · rw [getD_set_ne false (by omega)]; exact hout j h1 h2
        · have := fxLeft_set hin hils hif; omega
        · have hold : ∀ k, (k < n ∧ (listed.setIfInBounds i true).getD k false = true) → k ≠ i → (k < n ∧ listed.getD k false = true) := fun k hk hne => by
            rw [getD_set_ne false (fun h => hne h.symm)] at hk; exact hk
          refine ⟨fun k hk => ?_, fun k l hk hl hkl => ?_⟩
          · by_cases e : k = i
            · simp only [if_pos e]; exact ⟨hgr, Nat.le_refl _⟩
            · simp only [if_neg e]
              have := hsp.1 k (hold k hk e)
              exact ⟨this.1, Nat.le_trans this.2 hgr⟩
          · by_cases e : k = i
            · have e2 : l ≠ i := fun h => hkl (e.trans h.symm)
              simp only [if_pos e, if_neg e2]
              exact .inr (hsp.1 l (hold l hl e2)).2
            · by_cases e2 : l = i
              · simp only [if_neg e, if_pos e2]
                exact .inl (hsp.1 k (hold k hk e)).2
              · simp only [if_neg e, if_neg e2]
                exact hsp.2 k l (hold k hk e) (hold l hl e2) hkl
        · by_cases e : j = i
          · subst e; exact hΦ
          · rw [getD_set_ne false (fun h => e h.symm)] at hjl
            have hlv2 : fxLive n U Uf listed j ∧ fxNeed n A U Uf i j = true := by
              rcases hlv with h | ⟨k, hk, hkl, hku⟩
              · exact ⟨.inl h, by unfold fxNeed; simp [h]⟩
              · have hki : k ≠ i := fun h => by subst h; simp [hils] at hkl
                rw [getD_set_ne false (fun h => hki h.symm)] at hkl
                refine ⟨.inr ⟨k, hk, hkl, hku⟩, ?_⟩
                unfold fxNeed
                rw [Bool.or_eq_true, List.any_eq_true]
                refine .inr ⟨k, List.mem_range.2 hk, ?_⟩
                have hnk : k ∉ A.getD i [] := fun hm => by rw [hanc k hm] at hkl; cases hkl
                rw [Bool.and_eq_true, Bool.and_eq_true, decide_eq_true_eq]
                exact ⟨⟨hki, by simpa using hnk⟩, by simpa using hku⟩
            have hjs : j < ops.size := Nat.lt_of_lt_of_le hj hB.le
            have hni : i ∉ A.getD j [] := fun hm => by
              have := anc_listed hB cl j _ (Array.getElem?_eq_getElem hjs) (fun e he hb2 => cl.2 j _ (Array.getElem?_eq_getElem hjs) hjl e he hb2) i hm
              rw [hif] at this; cases this
            refine hC j vs _ iv _ w' hj (fun k hk => ?_) (hG i j vs iv w w' hin hj ?_ hlv2.2 hinv (hsp.sub fun k hk => ?_) (hf j hj hjl hlv2.1) hgr hg)
            · have hki : k ≠ i := by
                rcases hk with rfl | hk
                · exact e
                · exact fun h => hni (h ▸ hk)
              exact ⟨by simp only [if_neg hki], by simp only [if_neg hki]⟩
            · unfold fxAfter
              rw [Bool.and_eq_true, decide_eq_true_eq]
              exact ⟨fun h => e h.symm, by simpa using hni⟩
            · rcases hk with hk | rfl | hk
              · exact ⟨by have := (hB.anc i o ho k hk).1; omega, hanc k hk⟩
              · exact ⟨hj, hjl⟩
              · exact ⟨by have := (hB.anc j _ (Array.getElem?_eq_getElem hjs) k hk).1; omega, anc_listed hB cl j _ (Array.getElem?_eq_getElem hjs) (fun e he hb2 => cl.2 j _ (Array.getElem?_eq_getElem hjs) hjl e he hb2) k hk⟩
      · exfalso
        obtain ⟨j, hj, hju⟩ := fxLeft_pos (listed := listed) (n := n) (by omega)
        have := hanc j (hB.tail i hin his j hj)
        rw [hju] at this; cases this
/-- **A region that draws its order**, its facts used up, with the blocks that each operation makes apart from those of the others (iv): one fact for each of its first n operations, kept by all that may come behind it and ahead of one that uses it; what comes behind them is walked as' a list. -/
theorem wp_region_fxg {id : Nat} {w : World} {l : List Oper} (n : Nat) (A U : List (List Nat)) (Uf : List Nat) (hm : P.follows .mixedOrders = true) (hB : fxB l.toArray n A = true) (hU : fxUses n A U = true)
    (Φ : Nat → (Nat → Value) → (Nat → Nat × Nat) → World → Prop) (G : Nat → (Nat → Value) → (Nat → Nat × Nat) → World → World → Prop) (Inv : World → Prop) (h0 : Inv { w with drawn := w.drawn + 1 })
    (hI : ∀ i vs iv w w', i < n → Inv w → w.heap.size ≤ w'.heap.size → G i vs iv w w' → Inv w')
    (hC : ∀ j vs vs' iv iv' w, j < n → (∀ k, k = j ∨ k ∈ A.getD j [] → vs k = vs' k ∧ iv k = iv' k) → Φ j vs iv w → Φ j vs' iv' w)
    (hG : ∀ i j vs iv w w', i < n → j < n → fxAfter A i j = true → fxNeed n A U Uf i j = true → Inv w → fxSep (fun k => k ∈ A.getD i [] ∨ k = j ∨ k ∈ A.getD j []) iv w → Φ j vs iv w → w.heap.size ≤ w'.heap.size → G i vs iv w w' → Φ j vs iv w')
    (hstep : ∀ i o vs iv w, i < n → l.toArray[i]? = some o → Inv w → fxSep (fun k => k ∈ A.getD i []) iv w → (∀ j, j ∈ U.getD i [] → Φ j vs iv w) → FxStep P l.toArray o (fxF l.toArray vs fxT a0 i) w fun v w' => w.heap.size ≤ w'.heap.size ∧ Φ i (fun j => if j = i then v else vs j) (fun j => if j = i then (w.heap.size, w'.heap.size) else iv j) w' ∧ G i vs iv w w')
    (hdone : ∀ vs iv w, Inv w → fxSep (fun k => k < n) iv w → (∀ j, j < n → j ∈ Uf → Φ j vs iv w) → wpList P l.toArray Q (l.drop n) (fxF l.toArray vs fxT a0 n) w) : (Code.region id l.toArray true).wp P Q a0 w := by
  have hk := fxB_ok hB
  have cl0 : Closed .any l.toArray (Array.replicate l.toArray.size false) := ⟨by simp, fun j oj _ hl => (by rw [getD_replicate_false] at hl; cases hl)⟩
  have hl0 : fxLeft (Array.replicate l.toArray.size false) n = n := by
    unfold fxLeft
    rw [List.filter_eq_self.2 (fun j _ => by rw [getD_replicate_false]; rfl), List.length_range]
  have h := fx_anyG (U := U) (Uf := Uf) (a0 := a0) hk hU hI hC hG hstep (fun vs iv w h1 h2 h3 => by simpa using hdone vs iv w h1 h2 h3) n (Array.replicate l.toArray.size false) (fun _ => undef) (fun _ => (0, 0)) { w with drawn := w.drawn + 1 } cl0 (fun j _ _ => getD_replicate_false _ _) hl0 h0 ⟨fun k hk => (by have h := hk.2; rw [getD_replicate_false] at h; cases h), fun k l hk => (by have h := hk.2; rw [getD_replicate_false] at h; cases h)⟩ (fun j _ hl _ => by rw [getD_replicate_false] at hl; cases hl)
  have hfr : fxF l.toArray (fun _ => undef) (fun j => (Array.replicate l.toArray.size false).getD j false) a0 n = a0 := by
    have : ∀ k, fxF l.toArray (fun _ => undef) (fun j => (Array.replicate l.toArray.size false).getD j false) a0 k = a0 := by
      intro k
      induction k with
      | zero => rfl
      | succ k ih =>
        show (if (Array.replicate l.toArray.size false).getD k false = true then _ else _) = a0
        rw [getD_replicate_false, if_neg (by decide)]; exact ih
    exact this n
  rw [hfr, show n + (l.toArray.size - n) = l.toArray.size by have := hk.le; omega] at h
  exact wp_region_any hm h
end
end
end Ytdebeimognikiaa
end Go

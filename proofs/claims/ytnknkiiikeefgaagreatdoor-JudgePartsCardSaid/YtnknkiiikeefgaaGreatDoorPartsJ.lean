/- JudgeParts: for any list of bytes and any index, the verdicts on the list are those on its elements, whatever others there are, counts add up, and only four verdicts are given (a list that is too great, and an index out of range, are asked nothing but the examples). Conditions: the two listed variables hold their tables, arguments lie in memory that the model can hold -/
import Derived.Test.YtnknkiiikeefgaaGreatDoorK10
import Derived.Test.YtnknkiiikeefgaaGreatDoorK16
import Derived.Test.YtnknkiiikeefgaaGreatDoorRow
import Derived.Lib.SmallJoins
import Derived.ChangeMaps5
import Derived.Deep.Strs
import Derived.Test.YtnknkiiikeefgaaGreatDoorCards
namespace Go.Proofs.YtnknkiiikeefgaaGreatDoor.wir.val
open Go.RowKit Go.YtnknkiiikeefgaaGreatDoor
set_option linter.unusedVariables false
/-- A slice of slices of bytes that reads as L (an empty one may have any address). -/
def RdS (w : World) (v : Value) (L : List (List Int)) : Prop :=
  (∃ a c, v = .slice a 0 c ∧ (a = none → c = 0) ∧ L = []) ∨ ∃ b o c, v = .slice (some ⟨b, o, none⟩) L.length c ∧ L.length ≤ c ∧ c ≤ maxLen ∧ b < w.heap.size ∧ ∀ i, i < L.length → ∃ s, w.cell? ⟨b, o + i, none⟩ = some s ∧ RdB w s (nthL L i)
theorem RdS.mono {w w' : World} {v : Value} {L : List (List Int)} (h : RdS w v L) (hb : Below w.heap.size w w') : RdS w' v L := by
  rcases h with h | ⟨b, o, c, hv, h1, h2, h3, h4⟩
  · exact .inl h
  · refine .inr ⟨b, o, c, hv, h1, h2, Nat.lt_of_lt_of_le h3 hb.size, fun i hi => ?_⟩
    obtain ⟨s, h5, h6⟩ := h4 i hi
    exact ⟨s, by rw [hb.cell (p := (⟨b, o + i, none⟩ : Addr)) h3]; exact h5, h6.mono hb⟩
theorem RdS.slice {w : World} {v : Value} {L : List (List Int)} (h : RdS w v L) : ∃ a c, v = .slice a L.length c := by
  rcases h with ⟨a, c, rfl, _, rfl⟩ | ⟨b, o, c, hv, _⟩
  · exact ⟨a, c, rfl⟩
  · exact ⟨_, c, hv⟩
theorem vd_range (l : List Int) : 0 ≤ vd l ∧ vd l ≤ 4 := by
  unfold vd
  split
  · omega
  · split
    · omega
    · split <;> omega
/-- The verdicts on the first k of n. -/
def vP (L : List (List Int)) (n k : Nat) : List Int := (L.take k).map vd ++ zerosB (n - k)
theorem vP_length (L : List (List Int)) (k : Nat) (hk : k ≤ L.length) : (vP L L.length k).length = L.length := by
  unfold vP
  rw [List.length_append, List.length_map, List.length_take, zerosB_length]; omega
theorem vP_zero (L : List (List Int)) (n : Nat) : vP L n 0 = zerosB n := by simp [vP]
theorem vP_all (L : List (List Int)) : vP L L.length L.length = L.map vd := by
  unfold vP
  rw [List.take_length, Nat.sub_self]
  simp [zerosB]
theorem vP_set (L : List (List Int)) (k : Nat) (hk : k < L.length) : (vP L L.length k).set k (vd (nthL L k)) = vP L L.length (k + 1) := by
  unfold vP
  have h1 : ((L.take k).map vd).length = k := by rw [List.length_map, List.length_take]; omega
  have h2 : zerosB (L.length - k) = 0 :: zerosB (L.length - (k + 1)) := by
    unfold zerosB
    rw [show L.length - k = (L.length - (k + 1)) + 1 by omega, List.replicate_succ]
  rw [h2, List.set_append_right _ _ (by omega), h1, Nat.sub_self, List.set_cons_zero, List.take_add_one, List.map_append, List.append_assoc]
  congr 1
  unfold nthL
  rw [List.getElem?_eq_getElem hk]
  rfl
theorem vdL_bytes (L : List (List Int)) : Bytes (L.map vd) := fun i => by
  unfold ith
  rw [List.getElem?_map]
  cases L[i]? with
  | none => simp
  | some l => have := vd_range l; simp; omega
theorem u8s_setX (l : List Int) (k : Nat) (x : Int) : (u8s l).setIfInBounds k (.int .u8 x) = u8s (l.set k x) := by
  unfold u8s
  apply Array.ext'
  simp [List.map_set]
theorem vP_cell (L : List (List Int)) (k : Nat) (hk : k < L.length) : (u8s (vP L L.length k))[k]? = some (.int .u8 (ith (vP L L.length k) k)) := by
  have h := vP_length L k (by omega)
  unfold u8s
  rw [List.getElem?_toArray, List.getElem?_map]
  unfold ith
  rw [List.getElem?_eq_getElem (by omega)]
  rfl
set_option maxHeartbeats 4000000 in
set_option maxRecDepth 100000 in
theorem verdicts_any (L : List (List Int)) (v : Value) (w : World) (hr : RdS w v L) (hb : ∀ i, Bytes (nthL L i)) (hn : L.length ≤ 60) (hG0 : GlobW w) :
    Calls Tryz.prog 82 #[v] w fun e w' => e = .returned (.slice (some ⟨w.heap.size, 0, none⟩) L.length L.length) ∧ w'.heap[w.heap.size]? = some (.cells (u8s (L.map vd)) 5 (0, 0)) ∧ Below w.heap.size w w' := by
  obtain ⟨sa, sc, rfl⟩ := hr.slice
  have hrw := Lib.hid hr
  have hG := Lib.hid hG0
  have hB0 := Lib.hid (below_a1 w (.cells (u8s (zerosB L.length)) 5))
  have hrow := Lib.hid (heap_alloc_new w (.cells (u8s (zerosB L.length)) 5))
  rw [← vP_zero L L.length] at hrow
  have hz0 := Lib.hid (vP_zero L L.length)
  have hall := Lib.hid (vP_all L)
  have hset := Lib.hid (fun k hk => vP_set L k hk)
  have hcl := Lib.hid (fun k hk => vP_cell L k hk)
  have hbs := Lib.hid hb
  have hmk : ∀ wz : World, (Instr.makeSlice 83 (.int .i64 (L.length : Int)) (.int .i64 (L.length : Int))).run Tryz.prog wz = .ok (.slice (some ⟨wz.heap.size, 0, none⟩) L.length L.length) (wz.alloc (.cells (u8s (zerosB L.length)) 5)) := fun wz => run_makeB (P := Tryz.prog) wz 83 5 Tryz.underlying83 (by kernel_rfl) L.length L.length (Nat.le_refl _) (by omega)
  clear hr hb hG0
  obtain ⟨n, hnL⟩ : ∃ n, L.length = n := ⟨_, rfl⟩
  have hnh := Lib.hid hnL
  rw [hnL] at hmk hn hB0 hrow hz0 hall hset hcl ⊢
  clear hnL
  go_enter Tryz.func82, Tryz.ntmps82
  go_wp2
  go_loopw [10] (fun i wr => ∃ k : Nat, k ≤ n ∧ i = .int .i64 k ∧ Below w.heap.size w wr ∧ wr.heap[w.heap.size]? = some (.cells (u8s (vP L n k)) 5 (0, 0))) (fun i _ => n - (intOf i).toNat)
  case atStart => exact ⟨0, Nat.zero_le _, rfl, hB0.out, hrow.out⟩
  case round =>
    obtain ⟨k, hk, rfl, hbk, hrk⟩ := hrel
    have hbk' := Lib.hid hbk; have hrk' := Lib.hid hrk
    clear hbk hrk
    by_cases hlt : k < n
    · have hat : ∃ b o s, sa = some ⟨b, o, none⟩ ∧ wr.cell? ⟨b, o + k, none⟩ = some s ∧ RdB wr s (nthL L k) := by
        rcases hrw.out.mono hbk'.out with ⟨_, _, _, _, rfl⟩ | ⟨b, o, c', hv, h1, h2, h3, h4⟩
        · have := hnh.out; simp at this; omega
        · obtain ⟨e1, _, _⟩ := Value.slice.inj hv
          subst e1
          obtain ⟨s, h5, h6⟩ := h4 k (by have := hnh.out; omega)
          exact ⟨b, o, s, rfl, h5, h6⟩
      obtain ⟨b, o, s, rfl, cs, rs⟩ := hat
      obtain ⟨xa, xc, rfl⟩ := rs.slice
      have hO := Lib.hid (judgeOf_w (nthL L k) _ wr rs (hbs.out k) (hG.out.mono hbk'.out))
      have hst := Lib.hid (hset.out k (by have := hnh.out; omega))
      have hcc := Lib.hid (hcl.out k (by have := hnh.out; omega))
      have hlt0 := Lib.hid (Array.getElem?_eq_some_iff.1 hrk'.out).1
      clear rs
      generalize vd (nthL L k) = V at *
      generalize (nthL L k).length = M at *
      have hkI : (k : Int) < (n : Int) := by omega
      go_wp2_with (go_at_call 45; (with_reducible refine (hO.out).mono ?_); rintro e w2 ⟨oo, qa, qn, qc, D, hD, rfl, h2⟩; have hb2 := Lib.hid h2; have hr2 := Lib.hid (rowB hrk'.out h2 hlt0.out); have c2 : w2.cell? ⟨w.heap.size, k, none⟩ = some (.int .u8 (ith (vP L n k) k)) := (by rw [cell_of_row _ _ _ _ _ _ hr2.out]; exact hcc.out); have f2 := frozen_of_row _ _ k _ _ hr2.out; clear h2)
      go_roundw
      case rel => exact ⟨k + 1, by omega, by go_num, (hbk'.out.trans (hb2.out.mono hbk'.out.size)).setCell (p := ⟨w.heap.size, k, none⟩) (Nat.le_refl _) _, by rw [← hst.out, ← u8s_setX]; exact setCell_row hr2.out k _⟩
      case measure => simp [intOf]; omega
    · obtain rfl : k = n := by omega
      go_wp2
      go_ret
      exact ⟨rfl, by rw [← hall.out]; exact hrk'.out, hbk'.out⟩
set_option maxHeartbeats 2000000 in
set_option maxRecDepth 100000 in
theorem many_any (L : List (List Int)) (v : Value) (w : World) (hr : RdS w v L) (hb : ∀ i, Bytes (nthL L i)) (hn : L.length ≤ 60) (hG0 : GlobW w) :
    Calls Tryz.prog 42 #[v] w fun e w' => e = .returned (.tuple #[.slice (some ⟨w.heap.size, 0, none⟩) L.length L.length, .int .i64 0]) ∧ w'.heap[w.heap.size]? = some (.cells (u8s (L.map vd)) 5 (0, 0)) ∧ Below w.heap.size w w' := by
  have hV := Lib.hid (verdicts_any L v w hr hb hn hG0)
  obtain ⟨sa, sc, rfl⟩ := hr.slice
  have i1 : ¬ (60 : Int) < (L.length : Int) := by omega
  clear hr hb hG0
  generalize L.map vd = R at *
  generalize L.length = n at *
  go_enter Tryz.func42, Tryz.ntmps42
  go_wp2_with (go_at_call 82; (with_reducible refine (hV.out).mono ?_); rintro e w2 ⟨rfl, h1, h2⟩; have h1 := Lib.hid h1; have h2 := Lib.hid h2)
  go_ret2
  exact ⟨rfl, h1.out, h2.out⟩
set_option maxHeartbeats 2000000 in
set_option maxRecDepth 100000 in
theorem many_long (sa : Option Addr) (n sc : Nat) (w : World) (hn : 60 < n) :
    Calls Tryz.prog 42 #[.slice sa n sc] w fun e w' => e = .returned (.tuple #[.slice none 0 0, .int .i64 4]) ∧ w' = w := by
  have i1 : (60 : Int) < (n : Int) := by omega
  go_enter Tryz.func42, Tryz.ntmps42
  go_wp2
  go_ret2
  exact ⟨rfl, rfl⟩
end Go.Proofs.YtnknkiiikeefgaaGreatDoor.wir.val
namespace Go.Proofs.YtnknkiiikeefgaaGreatDoor.wir.val
open Go.RowKit Go.YtnknkiiikeefgaaGreatDoor
set_option linter.unusedVariables false
def c64s (l : List Int) : Array Value := (l.map (Value.int .i64)).toArray
theorem c64s_set (l : List Int) (k : Nat) (x : Int) : (c64s l).setIfInBounds k (.int .i64 x) = c64s (l.set k x) := by
  unfold c64s
  apply Array.ext'
  simp [List.map_set]
theorem c64s_one (l : List Int) : (c64s l).all (·.oneCell') = true := by
  unfold c64s
  rw [List.all_toArray, List.all_map, List.all_eq_true]
  intro x _
  rfl
/-- How many of the first k have the verdict j. -/
def cnt (L : List (List Int)) (k j : Nat) : Nat := ((L.take k).filter fun l => decide (vd l = (j : Int))).length
def cP (L : List (List Int)) (k : Nat) : List Int := (List.range 10).map fun j => (cnt L k j : Int)
theorem cP_length (L : List (List Int)) (k : Nat) : (cP L k).length = 10 := by simp [cP]
theorem cP_zero (L : List (List Int)) : cP L 0 = [0, 0, 0, 0, 0, 0, 0, 0, 0, 0] := by
  unfold cP cnt
  simp only [List.take_zero, List.filter_nil, List.length_nil]
  rfl
theorem cnt_le (L : List (List Int)) (k j : Nat) : cnt L k j ≤ L.length := by
  unfold cnt
  have := List.length_filter_le (fun l => decide (vd l = (j : Int))) (L.take k)
  rw [List.length_take] at this
  omega
theorem cnt_step (L : List (List Int)) (k j : Nat) (hk : k < L.length) : cnt L (k + 1) j = cnt L k j + (if vd (nthL L k) = (j : Int) then 1 else 0) := by
  unfold cnt
  have e : nthL L k = L[k] := by unfold nthL; rw [List.getElem?_eq_getElem hk]; rfl
  rw [List.take_add_one, List.getElem?_eq_getElem hk, List.filter_append, List.length_append, e]
  congr 1
  simp only [Option.toList_some, List.filter_cons, List.filter_nil]
  by_cases h : vd L[k] = (j : Int)
  · rw [if_pos (by simpa using h), if_pos h]; rfl
  · rw [if_neg (by simpa using h), if_neg h]; rfl
theorem cP_set (L : List (List Int)) (k m : Nat) (hk : k < L.length) (hm : vd (nthL L k) = (m : Int)) (hm10 : m < 10) : (cP L k).set m ((cnt L k m : Int) + 1) = cP L (k + 1) := by
  have hg : ∀ k i, (cP L k)[i]? = if i < 10 then some (cnt L k i : Int) else none := fun k i => by
    unfold cP
    rw [List.getElem?_map]
    by_cases hi : i < 10
    · rw [List.getElem?_range hi, if_pos hi]; rfl
    · rw [if_neg hi, List.getElem?_eq_none (by rw [List.length_range]; omega)]; rfl
  apply List.ext_getElem?
  intro i
  rw [List.getElem?_set, cP_length, hg, hg]
  by_cases h : m = i
  · subst h
    rw [if_pos rfl, if_pos hm10, if_pos hm10, cnt_step L k m hk, if_pos hm]
    simp
  · rw [if_neg h]
    by_cases hi : i < 10
    · rw [if_pos hi, if_pos hi, cnt_step L k i hk, if_neg (by omega)]
      simp
    · rw [if_neg hi, if_neg hi]
theorem cP_cell (L : List (List Int)) (k m : Nat) (hm10 : m < 10) : (c64s (cP L k))[m]? = some (.int .i64 (cnt L k m : Int)) := by
  unfold c64s cP
  rw [List.getElem?_toArray, List.getElem?_map, List.getElem?_map, List.getElem?_range hm10]
  rfl
theorem info_cnt : (Tryz.prog.info? 87).map (·.size) = some 10 := by kernel_rfl
theorem vdm (l : List Int) : ∃ m : Nat, vd l = (m : Int) ∧ m ≤ 4 := ⟨(vd l).toNat, by have := vd_range l; omega, by have := vd_range l; omega⟩
set_option maxHeartbeats 4000000 in
set_option maxRecDepth 100000 in
theorem count_any (L : List (List Int)) (v : Value) (w : World) (hr : RdS w v L) (hb : ∀ i, Bytes (nthL L i)) (hn : L.length ≤ 60) (hG0 : GlobW w) :
    Calls Tryz.prog 43 #[v] w fun e w' => e = .returned (.tuple #[.agg (c64s (cP L L.length)), .int .i64 0]) ∧ Below w.heap.size w w' := by
  obtain ⟨sa, sc, rfl⟩ := hr.slice
  obtain ⟨W, hW⟩ : ∃ W, W = (w.alloc (.cells (c64s (cP L 0)) 87)).alloc (.cells (c64s (cP L 0)) 87) := ⟨_, rfl⟩
  have hS := Lib.hid (show Below w.heap.size w W by rw [hW]; exact ((Below.refl w.heap.size w).alloc (Nat.le_refl _) _).alloc (by simp) _)
  have r2 := Lib.hid (show W.heap[w.heap.size]? = some (.cells (c64s (cP L 0)) 87 (0, 0)) by rw [hW]; exact rowA w _ _)
  have r4 := Lib.hid (show W.heap[w.heap.size + 1]? = some (.cells (c64s (cP L 0)) 87 (0, 0)) by rw [hW]; exact hn2 w _ _)
  have hV := Lib.hid (verdicts_any L (.slice sa L.length sc) W (hr.mono hS.out) hb hn (hG0.mono hS.out))
  have i1 : ¬ (60 : Int) < (L.length : Int) := by omega
  have hset := Lib.hid (fun k m hk h1 h2 => cP_set L k m hk h1 h2)
  have hcl := Lib.hid (fun k m h => cP_cell L k m h)
  have hle := Lib.hid (fun k j => cnt_le L k j)
  have hvm := Lib.hid (fun k : Nat => vdm (nthL L k))
  have hz := Lib.hid (cP_zero L)
  have info := Lib.hid (show ∀ k, (Tryz.prog.info? 87).map (·.size) = some (c64s (cP L k)).size from fun k => by rw [info_cnt]; simp [c64s, cP_length])
  have hW2 : W.heap.size = w.heap.size + 2 := by rw [hW]; simp
  have hWs := Lib.hid hW2
  have hmap := Lib.hid (show ∀ k, k < L.length → (u8s (L.map vd))[k]? = some (.int .u8 (vd (nthL L k))) from fun k hk => by
    unfold u8s nthL
    rw [List.getElem?_toArray, List.getElem?_map, List.getElem?_map, List.getElem?_eq_getElem hk]
    rfl)
  clear hr hb hG0
  obtain ⟨n, hnL⟩ : ∃ n, L.length = n := ⟨_, rfl⟩
  rw [hnL] at hn hV i1 hle hmap hset ⊢
  clear hnL
  generalize L.map vd = R at *
  go_enter Tryz.func43, Tryz.ntmps43
  go_upto_region 1 with fail
  go_upto_region 4 with fail
  change Code.wp _ _ _ _ ((w.alloc (.cells (c64s [0, 0, 0, 0, 0, 0, 0, 0, 0, 0]) 87)).alloc (.cells (c64s [0, 0, 0, 0, 0, 0, 0, 0, 0, 0]) 87))
  rw [← hz.out, ← hW]
  clear hW hW2
  go_wp2_with (go_at_call 82; (with_reducible refine (hV.out).mono ?_); rintro e w2 ⟨rfl, h1, h2⟩; have hf := Lib.hid h1; have hb2 := Lib.hid h2; clear h1 h2)
  replace r2 := Lib.hid (rowB r2.out hb2.out (by have := hWs.out; omega))
  replace r4 := Lib.hid (rowB r4.out hb2.out (by have := hWs.out; omega))
  replace hS := Lib.hid (hS.out.trans (hb2.out.mono hS.out.size))
  clear hV
  obtain ⟨gf, hgf⟩ : ∃ g, g = W.heap.size := ⟨_, rfl⟩
  rw [← hgf] at hf ⊢
  have hgfs := Lib.hid (show w.heap.size + 1 < gf by have := hWs.out; omega)
  have hfl := Lib.hid (Array.getElem?_eq_some_iff.1 hf.out).1
  clear hgf hb2
  go_loopw [14] (fun i wr => ∃ k : Nat, k ≤ n ∧ i = .int .i64 k ∧ Below w.heap.size w wr ∧ wr.heap[w.heap.size + 1]? = some (.cells (c64s (cP L k)) 87 (0, 0)) ∧ wr.heap[w.heap.size]? = some (.cells (c64s (cP L 0)) 87 (0, 0)) ∧ wr.heap[gf]? = some (.cells (u8s R) 5 (0, 0))) (fun i _ => n - (intOf i).toNat)
  case atStart => exact ⟨0, Nat.zero_le _, rfl, hS.out, r4.out, r2.out, hf.out⟩
  case round =>
    obtain ⟨k, hk, rfl, hbk, q4, q2, qf⟩ := hrel
    have hbk := Lib.hid hbk; have q4 := Lib.hid q4; have q2 := Lib.hid q2; have qf := Lib.hid qf
    by_cases hlt : k < n
    · obtain ⟨m, hm, hm4⟩ := hvm.out k
      have cf : wr.cell? ⟨gf, k, none⟩ = some (.int .u8 (m : Int)) := by rw [cell_of_row _ _ _ _ _ _ qf.out, ← hm]; exact hmap.out k hlt
      have cm : wr.cell? ⟨w.heap.size + 1, m, none⟩ = some (.int .i64 (cnt L k m : Int)) := by rw [cell_of_row _ _ _ _ _ _ q4.out]; exact hcl.out k m (by omega)
      have fm := frozen_of_row _ _ m _ _ q4.out
      have hst := Lib.hid (hset.out k m hlt hm (by omega))
      have hc := Lib.hid (hle.out k m)
      have hkI : (k : Int) < (n : Int) := by omega
      have hwr : IntKind.i64.wrap ((cnt L k m : Int) + 1) = (cnt L k m : Int) + 1 := IntWalk.i64_in _ (by have := hc.out; omega)
      have hm10 : (m : Int) < 10 := by omega
      have hm10' : m < 10 := by omega
      clear hm
      generalize cnt L k m = cv at *
      go_wp2
      go_roundw
      case rel => exact ⟨k + 1, by omega, by go_num, hbk.out.setCell (p := ⟨w.heap.size + 1, m, none⟩) (Nat.le_succ _) _, by rw [← hst.out, ← c64s_set]; exact setCell_row q4.out m _, (setCell_rows _ _ _ _ (by omega)).trans q2.out, (setCell_rows _ _ _ _ (by have := hgfs.out; omega)).trans qf.out⟩
      case measure => simp [intOf]; omega
    · obtain rfl : k = n := by omega
      go_wp2_with (first
        | (refine wpList_load_row_g rfl 87 _ rfl (w.heap.size + 1) rfl 87 (c64s (cP L k)) (0, 0) _ q4.out Tryz.underlying87 rfl (info.out k) ?_)
        | (refine storeOver _ w.heap.size _ rfl 87 _ _ rfl (c64s (cP L k)) 87 q2.out rfl rfl (info.out k) (by simp [c64s, cP_length]) (c64s_one _) ?_; intro w9 hr9 hb9; have hr9' := Lib.hid hr9; have hb9' := Lib.hid hb9; clear hr9 hb9))
      exact bodyPost_ret (results_row_tmp rfl _ _ w.heap.size 87 _ _ _ rfl hr9'.out Tryz.underlying87 rfl (info.out k)) rfl ⟨rfl, hbk.out.trans hb9'.out⟩
end Go.Proofs.YtnknkiiikeefgaaGreatDoor.wir.val
namespace Go.Proofs.YtnknkiiikeefgaaGreatDoor.wir.val
open Go.RowKit Go.YtnknkiiikeefgaaGreatDoor
set_option linter.unusedVariables false
set_option maxHeartbeats 2000000 in
set_option maxRecDepth 100000 in
theorem count_long (sa : Option Addr) (n sc : Nat) (w : World) (hn : 60 < n) :
    Calls Tryz.prog 43 #[.slice sa n sc] w fun e w' => e = .returned (.tuple #[.agg (c64s [0, 0, 0, 0, 0, 0, 0, 0, 0, 0]), .int .i64 4]) ∧ Below w.heap.size w w' := by
  have hS := Lib.hid ((Below.refl w.heap.size w).alloc (Nat.le_refl _) (.cells (c64s [0, 0, 0, 0, 0, 0, 0, 0, 0, 0]) 87 (0, 0)))
  have i1 : (60 : Int) < (n : Int) := by omega
  go_enter Tryz.func43, Tryz.ntmps43
  go_wp2
  exact bodyPost_ret (results_row_tmp rfl _ _ w.heap.size 87 (c64s [0, 0, 0, 0, 0, 0, 0, 0, 0, 0]) _ _ rfl (heap_alloc_new w _) Tryz.underlying87 rfl info_cnt) rfl ⟨rfl, hS.out⟩
end Go.Proofs.YtnknkiiikeefgaaGreatDoor.wir.val
namespace Go.Proofs.YtnknkiiikeefgaaGreatDoor.wir.val
open Go.RowKit Go.YtnknkiiikeefgaaGreatDoor
set_option linter.unusedVariables false
theorem vT_step (L : List (List Int)) (k : Nat) (hk : k < L.length) : (L.take (k + 1)).map vd = (L.take k).map vd ++ [vd (nthL L k)] := by
  unfold nthL
  rw [List.take_add_one, List.getElem?_eq_getElem hk, List.map_append]
  rfl
theorem vT_len (L : List (List Int)) (k : Nat) (hk : k ≤ L.length) : ((L.take k).map vd).length = k := by
  rw [List.length_map, List.length_take]; omega
theorem vT_all (L : List (List Int)) : (L.take L.length).map vd = L.map vd := by rw [List.take_length]
end Go.Proofs.YtnknkiiikeefgaaGreatDoor.wir.val
namespace Go.Proofs.YtnknkiiikeefgaaGreatDoor.wir.val
open Go.RowKit Go.YtnknkiiikeefgaaGreatDoor
set_option linter.unusedVariables false
end Go.Proofs.YtnknkiiikeefgaaGreatDoor.wir.val
namespace Go.Proofs.YtnknkiiikeefgaaGreatDoor.wir.val
open Go.RowKit Go.YtnknkiiikeefgaaGreatDoor
set_option linter.unusedVariables false
def gr8 (L : List (List Int)) (w : World) (e : Ending) (w' : World) : Prop :=
  ∃ b, e = .returned (.bool b) ∧ w' = w ∧ (b = false ↔ (∀ i, i < L.length → (nthL L i).length ≤ 1000) ∧ (L.length ≤ 12 ∨ 60 < L.length ∧ L.length ≤ 100))
theorem gr8_yes {L : List (List Int)} {w : World} {e : Ending} (h : ¬ ((∀ i, i < L.length → (nthL L i).length ≤ 1000) ∧ (L.length ≤ 12 ∨ 60 < L.length ∧ L.length ≤ 100))) (he : e = .returned (.bool true)) : gr8 L w e w := ⟨true, he, rfl, (fun h1 => by cases h1), (fun h1 => absurd h1 h)⟩
theorem gr8_no {L : List (List Int)} {w : World} {e : Ending} (h : ∀ i, i < L.length → (nthL L i).length ≤ 1000) (h2 : L.length ≤ 12 ∨ 60 < L.length ∧ L.length ≤ 100) (he : e = .returned (.bool false)) : gr8 L w e w := ⟨false, he, rfl, fun _ => ⟨h, h2⟩, fun _ => rfl⟩
set_option maxHeartbeats 4000000 in
set_option maxRecDepth 100000 in
theorem rgreat8_any (L : List (List Int)) (v : Value) (w : World) (hr : RdS w v L) :
    Calls Tryz.prog 49 #[v] w (gr8 L w) := by
  obtain ⟨sa, sc, rfl⟩ := hr.slice
  have hrw := Lib.hid hr
  clear hr
  obtain ⟨n, hnL⟩ : ∃ n, L.length = n := ⟨_, rfl⟩
  have hnh := Lib.hid hnL
  rw [hnL]
  clear hnL
  go_enter Tryz.func49, Tryz.ntmps49
  go_wp2
  go_loopw [3] (fun i wr => wr = w ∧ ∃ k : Nat, k ≤ n ∧ k ≤ 101 ∧ i = .int .i64 k ∧ ∀ j, j < k → (nthL L j).length ≤ 1000) (fun i _ => n - (intOf i).toNat)
  case atStart => exact ⟨rfl, 0, Nat.zero_le _, by omega, rfl, fun j hj => by omega⟩
  case round =>
    obtain ⟨rfl, k, hk, hk1, rfl, hall⟩ := hrel
    have hal := Lib.hid hall
    clear hall
    by_cases hlt : k < n
    · have hkI : (k : Int) < (n : Int) := by omega
      by_cases h100 : k ≤ 100
      · have hkJ : (k : Int) ≤ 100 := by omega
        have hat : ∃ b o s, sa = some ⟨b, o, none⟩ ∧ wr.cell? ⟨b, o + k, none⟩ = some s ∧ RdB wr s (nthL L k) := by
          rcases hrw.out with ⟨_, _, _, _, rfl⟩ | ⟨b, o, c', hv, h1, h2, h3, h4⟩
          · have := hnh.out; simp at this; omega
          · obtain ⟨e1, _, _⟩ := Value.slice.inj hv
            subst e1
            obtain ⟨s, h5, h6⟩ := h4 k (by have := hnh.out; omega)
            exact ⟨b, o, s, rfl, h5, h6⟩
        obtain ⟨b, o, s, rfl, cs, rs⟩ := hat
        obtain ⟨ya, yc, rfl⟩ := rs.slice
        clear rs
        generalize hM : (nthL L k).length = M at *
        by_cases hbig : 1000 < M
        · have i2 : (1000 : Int) < (M : Int) := by omega
          have hMh := Lib.hid hM
          clear hM
          go_wp2
          go_ret
          exact gr8_yes (fun h => by have h1 := h.1 k (by have := hnh.out; omega); rw [hMh.out] at h1; omega) rfl
        · have i2 : ¬ (1000 : Int) < (M : Int) := by omega
          have hM' := Lib.hid hM
          clear hM
          go_wp2
          go_roundw
          case rel => exact ⟨by trivial, k + 1, by omega, by omega, by go_num, fun j hj => by
            rcases Nat.lt_or_ge j k with h | h
            · exact hal.out j h
            · obtain rfl : j = k := by omega
              rw [hM'.out]; omega⟩
          case measure => simp [intOf]; omega
      · have hkJ : ¬ (k : Int) ≤ 100 := by omega
        have j1 : (12 : Int) < (n : Int) := by omega
        have j2 : ¬ (n : Int) ≤ 60 := by omega
        have j3 : (100 : Int) < (n : Int) := by omega
        go_wp2
        go_ret
        exact gr8_yes (fun h => by have h1 := h.2; have := hnh.out; omega) rfl
    · obtain rfl : k = n := by omega
      by_cases h12 : 12 < k
      · have j1 : (12 : Int) < (k : Int) := by omega
        by_cases h60 : k ≤ 60
        · have j2 : (k : Int) ≤ 60 := by omega
          go_wp2
          go_ret
          exact gr8_yes (fun h => by have h1 := h.2; have := hnh.out; omega) rfl
        · have j2 : ¬ (k : Int) ≤ 60 := by omega
          by_cases h1 : 100 < k
          · have j3 : (100 : Int) < (k : Int) := by omega
            go_wp2
            go_ret
            exact gr8_yes (fun h => by have h1 := h.2; have := hnh.out; omega) rfl
          · have j3 : ¬ (100 : Int) < (k : Int) := by omega
            go_wp2
            go_ret
            exact gr8_no (fun i hi => hal.out i (by have := hnh.out; omega)) (.inr ⟨by have := hnh.out; omega, by have := hnh.out; omega⟩) rfl
      · have j1 : ¬ (12 : Int) < (k : Int) := by omega
        have j3 : ¬ (100 : Int) < (k : Int) := by omega
        go_wp2
        go_ret
        exact gr8_no (fun i hi => hal.out i (by have := hnh.out; omega)) (.inl (by have := hnh.out; omega)) rfl
end Go.Proofs.YtnknkiiikeefgaaGreatDoor.wir.val
namespace Go.Proofs.YtnknkiiikeefgaaGreatDoor.wir.val
open Go.RowKit Go.YtnknkiiikeefgaaGreatDoor
set_option linter.unusedVariables false
theorem c64s_get (l : List Int) (i : Nat) (h : i < l.length) : (c64s l)[i]? = some (.int .i64 (ith l i)) := by simp [c64s, ith, h]
theorem run_partC {P : Program} (w : World) (e : TypeId) (he : P.underlying e = some (.int .i64)) (l : List Int) (i : Nat) (h : i < l.length) : (part e (c64s l) i).run P w = .ok (.int .i64 (ith l i)) w := by
  simp [part, isAgg, run_underlying he, c64s_get l i h]
theorem eqLoopC {P : Program} (w : World) (d elem : Nat) (he : P.underlying elem = some (.int .i64)) (a b : List Int) (n : Nat) (ha : a.length = n) (hb : b.length = n) : ∀ m i, i + m = n →
    (forIn (List.range' i m) ((none, ()) : Option Bool × Unit) fun i __s => do
              let __do_lift ← part elem (c64s a) (i * 1)
              let __do_lift_1 ← part elem (c64s b) (i * 1)
              let __do_lift ← Op.equalIn (d + 1) elem __do_lift __do_lift_1
              if __do_lift = false then (pure (ForInStep.done (some false, ())) : Sem _) else pure (ForInStep.yield (none, ()))).run P w
      = .ok (if a.drop i = b.drop i then (none, ()) else (some false, ())) w := by
  intro m
  induction m with
  | zero => intro i hi; simp [List.drop_eq_nil_of_le, ha, hb, ← hi]
  | succ m ih =>
    intro i hi
    have h1 : i < a.length := by omega
    have h2 : i < b.length := by omega
    rw [List.range'_succ, List.forIn_cons]
    simp only [Nat.mul_one, Sem.run_bind, run_partC w elem he a i h1, run_partC w elem he b i h2, Result.andThen_ok, run_equalIn_int w d elem .i64 .i64 _ _ he]
    have key : (a.drop i = b.drop i) = (a[i] = b[i] ∧ a.drop (i + 1) = b.drop (i + 1)) := by rw [List.drop_eq_getElem_cons h1, List.drop_eq_getElem_cons h2, List.cons.injEq]
    simp only [key]
    have e1 : ith a i = a[i] := by simp [ith, h1]
    have e2 : ith b i = b[i] := by simp [ith, h2]
    rw [e1, e2]
    by_cases h : a[i] = b[i]
    · have ih' := ih (i + 1) (by omega)
      simp only [Nat.mul_one] at ih'
      simp only [h, true_and, beq_self_eq_true, Bool.true_eq_false, if_false, Sem.run_pure, Result.andThen_ok]
      exact ih'
    · simp [h]
theorem run_equalArrC {P : Program} (w : World) (d t elem n : Nat) (ht : P.underlying t = some (.array n elem)) (he : P.underlying elem = some (.int .i64)) (hs : (P.info? elem).map (·.size) = some 1)
    (a b : List Int) (ha : a.length = n) (hb : b.length = n) :
    (Op.equalIn (d + 2) t (.agg (c64s a)) (.agg (c64s b))).run P w = .ok (decide (a = b)) w := by
  have hinfo : ∃ i, P.info? elem = some i ∧ i.size = 1 := by
    cases h : P.info? elem with
    | none => simp [h] at hs
    | some i => exact ⟨i, rfl, by simpa [h] using hs⟩
  obtain ⟨i, hi, h1⟩ := hinfo
  have hsz : (sizeOf elem).run P w = .ok 1 w := by simp [sizeOf, typeInfo, hi, h1]
  rw [Op.equalIn]
  simp only [Sem.run_bind, run_underlying ht, Result.andThen_ok, hsz]
  have h := eqLoopC w d elem he a b n ha hb n 0 (by omega)
  simp at h ⊢
  rw [h]
  by_cases hab : a = b <;> simp [hab]
theorem run_eqArrC {P : Program} (w : World) (t elem n : Nat) (ht : P.underlying t = some (.array n elem)) (he : P.underlying elem = some (.int .i64)) (hs : (P.info? elem).map (·.size) = some 1)
    (a b : List Int) (ha : a.length = n) (hb : b.length = n) :
    (binOp .eql t (.agg (c64s a)) (.agg (c64s b))).run P w = .ok (.bool (decide (a = b))) w := by
  rw [run_eql_struct, run_equalArrC w 9998 t elem n ht he hs a b ha hb]
  rfl
theorem eqCnt (C : List Int) (hC : C.length = 10) (w : World) : (binOp .eql 87 (.agg (c64s C)) (.agg (c64s C))).run Tryz.prog w = .ok (.bool true) w := by
  rw [run_eqArrC (P := Tryz.prog) w 87 3 10 Tryz.underlying87 Tryz.underlying3 (by kernel_rfl) C C hC hC]
  simp
theorem cntGuard : Tryz.prog.eqGuardType Tryz.prog.depth 87 = false := by kernel_rfl
theorem rd_none0 (w : World) : RdB w (.slice none 0 0) [] := .inl ⟨none, 0, rfl, fun _ => rfl, rfl⟩
end Go.Proofs.YtnknkiiikeefgaaGreatDoor.wir.val
namespace Go.Proofs.YtnknkiiikeefgaaGreatDoor.wir.val
open Go.RowKit Go.YtnknkiiikeefgaaGreatDoor
set_option linter.unusedVariables false
end Go.Proofs.YtnknkiiikeefgaaGreatDoor.wir.val
namespace Go.Proofs.YtnknkiiikeefgaaGreatDoor.wir.val
open Go.ChangeShapes Go.WideShapes Go.ChangeAt Go.WideMaps Go.WideElems Go.RowKit Go.Joins Go.YtnknkiiikeefgaaGreatDoor
set_option linter.unusedVariables false
theorem nthL_pre8 (L M : List (List Int)) (i : Nat) (h : i < L.length) : nthL (L ++ M) i = nthL L i := by
  unfold nthL
  rw [List.getElem?_append_left h]
theorem nthL_last8 (L : List (List Int)) (s : List Int) : nthL (L ++ [s]) L.length = s := by
  unfold nthL
  simp
theorem nthL_out8 (L : List (List Int)) (i : Nat) (h : L.length ≤ i) : nthL L i = [] := by
  unfold nthL
  rw [List.getElem?_eq_none h]
  rfl
theorem nthL_snoc8 {p : List Int → Prop} (L : List (List Int)) (s : List Int) (h0 : p []) (h1 : ∀ i, p (nthL L i)) (h2 : p s) (i : Nat) : p (nthL (L ++ [s]) i) := by
  rcases Nat.lt_trichotomy i L.length with h | h | h
  · rw [nthL_pre8 _ _ _ h]; exact h1 i
  · rw [h, nthL_last8]; exact h2
  · rw [nthL_out8 _ _ (by simp; omega)]; exact h0
theorem num_nil8 : nthL [] = fun _ => [] := by funext i; simp [nthL]
section
variable {H : Type} {enc : TypeId × Value → H} {P : Program} {W : World}
theorem addr_add_spot8 (a : Addr) (j k : Nat) : (a.add j).add k = a.add (j + k) := by
  by_cases hj : j = 0
  · subst hj; simp [Addr.add]
  · by_cases hk : k = 0
    · subst hk; simp [Addr.add]
    · simp [Addr.add, hj, hk, Nat.add_assoc]
theorem trod_strs {t e e8 : TypeId} (ht : P.underlying t = some (.slice e)) (he : P.underlying e = some (.slice e8)) (he8 : P.underlying e8 = some (.int .u8)) (hc8 : P.cellsOf e8 = 1) (hc : P.cellsOf e = 1) {fuel : Nat} {cs : List Value} {x : DataW H × List MemPlace}
    (h : DataW.trod enc P W 0 (fun _ => true) true fuel t cs = some x) : ∃ v L, cs = [v] ∧ RdS W v L ∧ ∀ i, Bytes (nthL L i) := by
  rcases DataW.trod_slice ht h with ⟨rfl, _⟩ | ⟨a, len, cap, elems, rest, m, _, rfl, _, hb, hl, hm, hlen, hel, _, _⟩
  · exact ⟨_, [], rfl, (.inl ⟨none, 0, rfl, fun _ => rfl, rfl⟩), fun i => by rw [num_nil8]; exact bytes_nil⟩
  · have each : ∀ i, i < len → ∃ s l, W.cell? (a.add i) = some s ∧ RdB W s l ∧ Bytes l := by
      intro i hi
      have h1 := hel i hi
      have hy : elems[i]? = some elems[i] := List.getElem?_eq_getElem (by omega)
      rw [hc, hy, Option.bind_eq_some_iff] at h1
      obtain ⟨cs', hcs, hy'⟩ := h1
      obtain ⟨s, l, rfl, e2, e3⟩ := trod_bytes he he8 hc8 hy'
      have hcell := (World.cells?_some hcs).2.2 0 (by decide)
      rw [addr_add_spot8, Nat.add_zero, Nat.mul_one] at hcell
      exact ⟨s, l, hcell, e2, e3⟩
    have build : ∀ k, k ≤ len → ∃ L : List (List Int), L.length = k ∧ (∀ i, Bytes (nthL L i)) ∧ ∀ i, i < k → ∃ s, W.cell? (a.add i) = some s ∧ RdB W s (nthL L i) := by
      intro k
      induction k with
      | zero => intro _; exact ⟨[], rfl, fun i => by rw [num_nil8]; exact bytes_nil, fun i hi => by omega⟩
      | succ k ih =>
        intro hk
        obtain ⟨L, f1, f2, f3⟩ := ih (by omega)
        obtain ⟨s, l, k1, k2, k3⟩ := each k (by omega)
        refine ⟨L ++ [l], by simp [f1], nthL_snoc8 (p := Bytes) _ _ bytes_nil f2 k3, fun i hi => ?_⟩
        rcases Nat.lt_or_ge i k with h | h
        · rw [nthL_pre8 _ _ _ (by omega)]; exact f3 i h
        · obtain rfl : i = k := by omega
          rw [show nthL (L ++ [l]) i = l by rw [← f1]; exact nthL_last8 L l]
          exact ⟨s, k1, k2⟩
    obtain ⟨L, f1, f2, f3⟩ := build len (Nat.le_refl _)
    by_cases h0 : len = 0
    · subst h0
      obtain rfl : L = [] := List.eq_nil_of_length_eq_zero f1
      exact ⟨_, [], rfl, .inl ⟨some a, cap, rfl, (fun h => by cases h), rfl⟩, f2⟩
    · obtain ⟨b, o, spot⟩ := a
      obtain ⟨s0, hs0, _⟩ := f3 0 (by omega)
      have hspot : spot = none := by simpa [Addr.add] using World.cell?_spot hs0
      subst hspot
      refine ⟨_, L, rfl, .inr ⟨b, o, cap, by rw [f1], by rw [f1]; exact hl, hm, World.block_lt_of_cell? _ _ hs0, fun i hi => ?_⟩, f2⟩
      rw [f1] at hi
      have := f3 i hi
      rw [addr_add] at this
      exact this
theorem open_strs0 {t e e8 : TypeId} {v : Value} {d : DataW H} {p : List MemPlace} (ht : P.underlying t = some (.slice e)) (he : P.underlying e = some (.slice e8)) (he8 : P.underlying e8 = some (.int .u8)) (hc8 : P.cellsOf e8 = 1) (hc : P.cellsOf e = 1)
    {r : Reach} {b0 : Nat} (hv : Value.okWide P W r b0 t v) (h : DataW.Trod enc P W 0 (fun _ => true) true t v d p) : ∃ L, RdS W v L ∧ ∀ i, Bytes (nthL L i) := by
  obtain ⟨fuel, hf⟩ := h
  obtain ⟨v', L, h1, h2, h3⟩ := trod_strs ht he he8 hc8 hc hf
  refine ⟨L, ?_, h3⟩
  unfold Value.okWide at hv
  rw [ht] at hv
  simp only [Cell.okWide, ht] at hv
  cases v <;> simp [Cell.ok, ht] at hv
  simp [Value.cells] at h1
  rw [h1]; exact h2
set_option maxRecDepth 10000 in
theorem open_strs {v : Value} {d : DataW H} {p : List MemPlace} {r : Reach} {b0 : Nat} (hv : Value.okWide Tryz.prog W r b0 86 v) (h : DataW.Trod enc Tryz.prog W 0 (fun _ => true) true 86 v d p) :
    ∃ L, RdS W v L ∧ ∀ i, Bytes (nthL L i) :=
  open_strs0 Tryz.underlying86 Tryz.underlying83 Tryz.underlying5 (by kernel_rfl) (by kernel_rfl) hv h
end
end Go.Proofs.YtnknkiiikeefgaaGreatDoor.wir.val
namespace Go.Proofs.YtnknkiiikeefgaaGreatDoor.wir.val
open Go.RowKit Go.YtnknkiiikeefgaaGreatDoor
set_option linter.unusedVariables false
theorem nthL_drop (L : List (List Int)) (u i : Nat) : nthL (L.drop u) i = nthL L (u + i) := by
  unfold nthL
  rw [List.getElem?_drop]
theorem nthL_take (L : List (List Int)) (u i : Nat) (h : i < u) : nthL (L.take u) i = nthL L i := by
  unfold nthL
  rw [List.getElem?_take_of_lt h]
/-- What lies behind the first u. -/
theorem rdS_drop {w : World} {a : Option Addr} {n c : Nat} {L : List (List Int)} (h : RdS w (.slice a n c) L) (hn : L.length = n) (u : Nat) (hu : u ≤ n) :
    ∃ a', sliced a u n c 1 = .slice a' (L.drop u).length (c - u) ∧ RdS w (.slice a' (L.drop u).length (c - u)) (L.drop u) := by
  have hd : (L.drop u).length = n - u := by simp [hn]
  unfold sliced
  rw [hd]
  by_cases hc : c = u
  · rw [if_pos hc]
    refine ⟨a, rfl, ?_⟩
    have hnc : n ≤ c := by
      rcases h with ⟨a', c', he, hz, rfl⟩ | ⟨b, o, c', he, h1, h2, h3, h4⟩
      · have := hn; simp at this; omega
      · injection he with e1 e2 e3; omega
    have e0 : L.drop u = [] := List.drop_eq_nil_of_le (by omega)
    rw [e0, show n - u = 0 by omega]
    exact .inl ⟨a, c - u, rfl, (fun _ => by omega), rfl⟩
  · rw [if_neg hc]
    rcases h with ⟨a', c', he, hz, rfl⟩ | ⟨b, o, c', he, h1, h2, h3, h4⟩
    · obtain rfl : n = 0 := by simpa using hn.symm
      obtain rfl : u = 0 := by omega
      refine ⟨_, rfl, ?_⟩
      injection he with e1 e2 e3
      subst e1 e3
      exact .inl ⟨_, _, rfl, (fun h => by
        cases a with
        | none => have := hz rfl; omega
        | some A => cases h), rfl⟩
    · injection he with e1 e2 e3
      subst e1 e3
      refine ⟨_, rfl, .inr ⟨b, o + u, c - u, ?_, by rw [hd]; omega, by omega, h3, fun i hi => ?_⟩⟩
      · rw [Option.map_some, addr_add, Nat.mul_one, hd]
      · rw [hd] at hi
        obtain ⟨s, k1, k2⟩ := h4 (u + i) (by omega)
        exact ⟨s, by rw [Nat.add_assoc]; exact k1, by rw [nthL_drop]; exact k2⟩
/-- The first u. -/
theorem rdS_take {w : World} {a : Option Addr} {n c : Nat} {L : List (List Int)} (h : RdS w (.slice a n c) L) (hn : L.length = n) (u : Nat) (hu : u ≤ n) : RdS w (.slice a u c) (L.take u) := by
  have hd : (L.take u).length = u := by simp [hn]; omega
  rcases h with ⟨a', c', he, hz, rfl⟩ | ⟨b, o, c', he, h1, h2, h3, h4⟩
  · obtain rfl : n = 0 := by simpa using hn.symm
    obtain rfl : u = 0 := by omega
    injection he with e1 e2 e3
    subst e1 e3
    exact .inl ⟨a, c, rfl, hz, rfl⟩
  · injection he with e1 e2 e3
    subst e1 e3
    refine .inr ⟨b, o, c, by rw [hd], by rw [hd]; omega, h2, h3, fun i hi => ?_⟩
    rw [hd] at hi
    obtain ⟨s, k1, k2⟩ := h4 i (by omega)
    exact ⟨s, k1, by rw [nthL_take _ _ _ hi]; exact k2⟩
/-- The verdicts on two parts are those on the whole. -/
theorem vd_parts (L : List (List Int)) (u : Nat) : (L.take u).map vd ++ (L.drop u).map vd = L.map vd := by rw [← List.map_append, List.take_append_drop]
end Go.Proofs.YtnknkiiikeefgaaGreatDoor.wir.val
namespace Go.Proofs.YtnknkiiikeefgaaGreatDoor.wir.val
open Go.RowKit Go.YtnknkiiikeefgaaGreatDoor
set_option linter.unusedVariables false
/-- What lies behind the first u of a list of bytes. -/
theorem wpList_cutS {P : Program} {ops : Array Oper} {rest : List Oper} {o : Oper} {a : Act} {w : World} {Q : Exit → Act → World → Prop} (hw : Region.wanted o (yielded ops a.tmps) = true) (t : TypeId) (x y : Operand) (ho : o.op = .slice t x (some y) none none)
    (ht : P.underlying t = some (.slice (P.elem t))) (hs : (P.info? (P.elem t)).map (·.size) = some 1) (W0 : World) (L : List (List Int)) (b : Option Addr) (n c : Nat) (hx : a.eval x = .slice b n c) (hr : RdS W0 (.slice b n c) L) (hn : L.length = n) (u : Nat) (hy : a.eval y = .int .i64 (u : Int)) (hu : u ≤ n) (L' : List (List Int)) (M : Nat) (hd : L.drop u = L') (hM : L'.length = M)
    (h : ∀ b' c', RdS W0 (.slice b' M c') L' → wpList P ops Q rest (a.put o.dst (.slice b' M c')) w) : wpList P ops Q (o :: rest) a w :=
  wpList_step fun K hK => by
    subst hM
    subst hd
    rw [if_pos hw]
    obtain ⟨b', e1, e2⟩ := rdS_drop hr hn u hu
    have hl := run_slice_l (P := P) (w := w) t b n c ht .i64 (u : Int) (by omega) (by omega)
    have hsz : (sizeOf (P.elem t)).run P w = .ok 1 w := by
      cases hi : P.info? (P.elem t) with
      | none => rw [hi] at hs; cases hs
      | some i =>
        rw [hi] at hs
        have : i.size = 1 := by simpa using hs
        simp [sizeOf, typeInfo, hi, this]
    rw [hsz] at hl
    simp only [Result.andThen_ok, Int.toNat_natCast] at hl
    rw [e1] at hl
    unfold Oper.wp execOp
    simp only [ho, hx, Option.map_some, Option.map_none, hy]
    simp only [Sem.run_bind, run_sliceAt_slice (P := P) (w := w) t _ _ _ _ ht, hl, Sem.run_pure, Result.andThen_ok]
    exact hK _ _ (h b' _ e2)
/-- The first u of a list of bytes. -/
theorem wpList_headS {P : Program} {ops : Array Oper} {rest : List Oper} {o : Oper} {a : Act} {w : World} {Q : Exit → Act → World → Prop} (hw : Region.wanted o (yielded ops a.tmps) = true) (t : TypeId) (x y : Operand) (ho : o.op = .slice t x none (some y) none)
    (ht : P.underlying t = some (.slice (P.elem t))) (hs : (P.info? (P.elem t)).map (·.size) = some 1) (W0 : World) (L : List (List Int)) (b : Option Addr) (n c : Nat) (hx : a.eval x = .slice b n c) (hr : RdS W0 (.slice b n c) L) (hn : L.length = n) (u : Nat) (hy : a.eval y = .int .i64 (u : Int)) (hu : u ≤ n) (L' : List (List Int)) (hd : L.take u = L')
    (h : ∀ b' c', RdS W0 (.slice b' u c') L' → wpList P ops Q rest (a.put o.dst (.slice b' u c')) w) : wpList P ops Q (o :: rest) a w :=
  wpList_step fun K hK => by
    subst hd
    rw [if_pos hw]
    have e2 := rdS_take hr hn u hu
    have hc : u ≤ c := by
      rcases hr with ⟨a', c', he, hz, rfl⟩ | ⟨b', o', c', he, h1, h2, h3, h4⟩
      · simp at hn; omega
      · injection he with e1 e2 e3; omega
    have hl := run_slice_h (P := P) (w := w) t b n c ht .i64 (u : Int) (by omega) (by omega)
    have hsz : (sizeOf (P.elem t)).run P w = .ok 1 w := by
      cases hi : P.info? (P.elem t) with
      | none => rw [hi] at hs; cases hs
      | some i =>
        rw [hi] at hs
        have : i.size = 1 := by simpa using hs
        simp [sizeOf, typeInfo, hi, this]
    rw [hsz] at hl
    simp only [Result.andThen_ok, Int.toNat_natCast] at hl
    have e1 : sliced b 0 u c 1 = .slice b u c := by
      unfold sliced
      by_cases h0 : c = 0
      · rw [if_pos h0]; simp
      · rw [if_neg h0]; cases b with
        | none => rfl
        | some A => simp [Addr.add]
    rw [e1] at hl
    unfold Oper.wp execOp
    simp only [ho, hx, Option.map_some, Option.map_none, hy]
    simp only [Sem.run_bind, run_sliceAt_slice (P := P) (w := w) t _ _ _ _ ht, hl, Sem.run_pure, Result.andThen_ok]
    exact hK _ _ (h b _ e2)
theorem vd_not1 (l : List Int) : vd l ≠ 1 := by
  unfold vd
  split
  · omega
  · split
    · omega
    · split <;> omega
/-- How many of n have each verdict, less those among the first k. -/
def dP (L : List (List Int)) (n k : Nat) : List Int := (List.range 10).map fun j => (cnt L n j : Int) - (cnt L k j : Int)
theorem dP_length (L : List (List Int)) (n k : Nat) : (dP L n k).length = 10 := by simp [dP]
theorem dP_zero (L : List (List Int)) (n : Nat) : dP L n 0 = cP L n := by
  unfold dP cP
  apply List.map_congr_left
  intro j _
  have : cnt L 0 j = 0 := by unfold cnt; simp
  rw [this]; simp
theorem dP_all (L : List (List Int)) (n : Nat) : dP L n n = [0, 0, 0, 0, 0, 0, 0, 0, 0, 0] := by
  unfold dP
  simp only [Int.sub_self]
  rfl
theorem dP_get (L : List (List Int)) (n k i : Nat) : (dP L n k)[i]? = if i < 10 then some ((cnt L n i : Int) - (cnt L k i : Int)) else none := by
  unfold dP
  rw [List.getElem?_map]
  by_cases hi : i < 10
  · rw [List.getElem?_range hi, if_pos hi]; rfl
  · rw [if_neg hi, List.getElem?_eq_none (by rw [List.length_range]; omega)]; rfl
theorem dP_set (L : List (List Int)) (n k m : Nat) (hk : k < L.length) (hm : vd (nthL L k) = (m : Int)) (hm10 : m < 10) : (dP L n k).set m ((cnt L n m : Int) - (cnt L k m : Int) - 1) = dP L n (k + 1) := by
  apply List.ext_getElem?
  intro i
  rw [List.getElem?_set, dP_length, dP_get, dP_get]
  by_cases h : m = i
  · subst h
    rw [if_pos rfl, if_pos hm10, if_pos hm10, cnt_step L k m hk, if_pos hm]
    congr 1; omega
  · rw [if_neg h]
    by_cases hi : i < 10
    · rw [if_pos hi, if_pos hi, cnt_step L k i hk, if_neg (by omega)]
      simp
    · rw [if_neg hi, if_neg hi]
theorem dP_cell (L : List (List Int)) (n k m : Nat) (hm10 : m < 10) : (c64s (dP L n k))[m]? = some (.int .i64 ((cnt L n m : Int) - (cnt L k m : Int))) := by
  unfold c64s
  rw [List.getElem?_toArray, List.getElem?_map, dP_get, if_pos hm10]
  rfl
end Go.Proofs.YtnknkiiikeefgaaGreatDoor.wir.val
namespace Go.Proofs.YtnknkiiikeefgaaGreatDoor.wir.val
open Go.RowKit Go.YtnknkiiikeefgaaGreatDoor
set_option linter.unusedVariables false
theorem appendB_g {P : Program} {ops : Array Oper} {rest : List Oper} {o : Oper} {a : Act} {w : World} {Q : Exit → Act → World → Prop} (hw : Region.wanted o (yielded ops a.tmps) = true) (s x : Operand) (t : TypeId)
    (ho : o.op = .call { callee := .builtin .append, args := #[s, x], argTypes := #[t, t] })
    (base : Nat) (e : TypeId) (ht : P.underlying t = some (.slice e)) (hinfo : (P.info? e).map (fun i => (i.zero, i.size, i.bytes)) = some (some (.int .u8 0), 1, 1))
    (v : Value) (hs : a.eval s = v) (l : List Int) (hown : OwnB base e w v l) (sv : Value) (hx : a.eval x = sv) (r : List Int) (hr : RdB w sv r) (hlen : l.length + r.length ≤ 140737488355328) (hbase : base ≤ w.heap.size)
    (h : ∀ v' w', OwnB base e w' v' (l ++ r) → w.grownBy w' v.ownBlock → Stop (wpList P ops Q rest (a.put o.dst v') w')) : wpList P ops Q (o :: rest) a w :=
  wpList_step fun K hK => by
    rw [if_pos hw]
    obtain ⟨v', w', hrun, h2, h3⟩ := run_appendB (P := P) w base t o.type e ht hinfo v l hown sv r hr hlen hbase
    unfold Oper.wp execOp
    simp only [ho, resolve, invoke, builtin, Sem.run_bind, Sem.run_pure, Result.andThen_ok, List.map_toArray, List.map_cons, List.map_nil, hs, hx, hrun]
    exact hK _ _ (h v' w' h2 h3).out
set_option maxHeartbeats 8000000 in
set_option maxRecDepth 100000 in
theorem parts_out (L : List (List Int)) (v : Value) (at_ : Int) (w : World) (hr : RdS w v L) (hb : ∀ i, Bytes (nthL L i)) (hG0 : GlobW w)
    (h : ((∀ i, i < L.length → (nthL L i).length ≤ 1000) ∧ (L.length ≤ 12 ∨ 60 < L.length ∧ L.length ≤ 100)) → 12 < L.length ∨ at_ < 0 ∨ (L.length : Int) < at_) :
    Calls Tryz.prog 10 #[v, .int .i64 at_] w fun e w' => e = .returned (.bool true) ∧ Below w.heap.size w w' := by
  have hgr := Lib.hid (rgreat8_any L v w hr)
  have hal := Lib.hid (alive8 w hG0)
  obtain ⟨gb, hgb⟩ : ∃ gb : Bool, (Calls Tryz.prog 49 #[v] w fun e w' => e = .returned (.bool gb) ∧ w' = w) ∧ (gb = false → 12 < L.length ∨ at_ < 0 ∨ (L.length : Int) < at_) := by
    by_cases hbig : (∀ i, i < L.length → (nthL L i).length ≤ 1000) ∧ (L.length ≤ 12 ∨ 60 < L.length ∧ L.length ≤ 100)
    · refine ⟨false, hgr.out.mono ?_, fun _ => h hbig⟩
      rintro e w' ⟨b, he, hw, h⟩
      exact ⟨by rw [he, h.2 hbig], hw⟩
    · refine ⟨true, hgr.out.mono ?_, fun h => by cases h⟩
      rintro e w' ⟨b, he, hw, h⟩
      cases b with
      | true => exact ⟨he, hw⟩
      | false => exact absurd (h.1 rfl) hbig
  obtain ⟨hgt, hcase⟩ := hgb
  have hgt := Lib.hid hgt
  obtain ⟨sa, sc, rfl⟩ := hr.slice
  clear hgr hr hb h hG0
  generalize L.length = n at *
  cases gb with
  | true =>
    clear hcase
    go_enter Tryz.func10, Tryz.ntmps10
    go_wp2_with (first | (go_at_call 49; (with_reducible refine (hgt.out).mono ?_); rintro e9 w4 ⟨rfl, rfl⟩) | (go_at_call 48; (with_reducible refine (hal.out).mono ?_); rintro e9 w4 ⟨rfl, q2⟩; have hS := Lib.hid q2; clear q2))
    go_ret
    exact ⟨rfl, hS.out⟩
  | false =>
    have hc := hcase rfl
    clear hcase
    by_cases h12 : (12 : Int) < (n : Int)
    · clear hc
      go_enter Tryz.func10, Tryz.ntmps10
      go_wp2_with (first | (go_at_call 49; (with_reducible refine (hgt.out).mono ?_); rintro e9 w4 ⟨rfl, rfl⟩) | (go_at_call 48; (with_reducible refine (hal.out).mono ?_); rintro e9 w4 ⟨rfl, q2⟩; have hS := Lib.hid q2; clear q2))
      go_ret
      exact ⟨rfl, hS.out⟩
    · by_cases h0 : at_ < 0
      · clear hc
        go_enter Tryz.func10, Tryz.ntmps10
        go_wp2_with (first | (go_at_call 49; (with_reducible refine (hgt.out).mono ?_); rintro e9 w4 ⟨rfl, rfl⟩) | (go_at_call 48; (with_reducible refine (hal.out).mono ?_); rintro e9 w4 ⟨rfl, q2⟩; have hS := Lib.hid q2; clear q2))
        go_ret
        exact ⟨rfl, hS.out⟩
      · have hl : (n : Int) < at_ := by omega
        clear hc
        go_enter Tryz.func10, Tryz.ntmps10
        go_wp2_with (first | (go_at_call 49; (with_reducible refine (hgt.out).mono ?_); rintro e9 w4 ⟨rfl, rfl⟩) | (go_at_call 48; (with_reducible refine (hal.out).mono ?_); rintro e9 w4 ⟨rfl, q2⟩; have hS := Lib.hid q2; clear q2))
        go_ret
        exact ⟨rfl, hS.out⟩
set_option maxHeartbeats 16000000 in
set_option maxRecDepth 100000 in
theorem parts_in (L : List (List Int)) (v : Value) (u : Nat) (w : World) (hr : RdS w v L) (hb : ∀ i, Bytes (nthL L i)) (hG0 : GlobW w)
    (hm : ∀ i, i < L.length → (nthL L i).length ≤ 1000) (hn12 : L.length ≤ 12) (hu : u ≤ L.length) :
    Calls Tryz.prog 10 #[v, .int .i64 (u : Int)] w fun e w' => e = .returned (.bool true) ∧ Below w.heap.size w w' := by
  have hgf := Lib.hid ((rgreat8_any L v w hr).mono (R' := fun e w' => e = .returned (.bool false) ∧ w' = w) (by
    rintro e w' ⟨b, he, hw, h⟩
    exact ⟨by rw [he, h.2 ⟨hm, .inl hn12⟩], hw⟩))
  have hal := Lib.hid (fun (wz : World) (h : GlobW wz) => alive8 wz h)
  obtain ⟨sa, sc, rfl⟩ := hr.slice
  have m1 := Lib.hid (fun (wz : World) (h : RdS wz (.slice sa L.length sc) L) (hg : GlobW wz) => (many_any L (.slice sa L.length sc) wz h hb (by omega) hg).mono (R' := fun e w' => ∃ g, wz.heap.size ≤ g ∧ e = .returned (.tuple #[.slice (some ⟨g, 0, none⟩) L.length L.length, .int .i64 0]) ∧ w'.heap[g]? = some (.cells (u8s (L.map vd)) 5 (0, 0)) ∧ Below wz.heap.size wz w') (fun e w' ⟨h1, h2, h3⟩ => ⟨_, Nat.le_refl _, h1, h2, h3⟩))
  have hd : (L.drop u).length = L.length - u := by simp
  have ht : (L.take u).length = u := by simp; omega
  have hb2 : ∀ i, Bytes (nthL (L.take u) i) := fun i => by
    rcases Nat.lt_or_ge i u with h | h
    · rw [nthL_take _ _ _ h]; exact hb i
    · unfold nthL; rw [List.getElem?_eq_none (by omega)]; exact bytes_nil
  have hb3 : ∀ i, Bytes (nthL (L.drop u) i) := fun i => by rw [nthL_drop]; exact hb (u + i)
  have m2 := Lib.hid (fun (wz : World) (a : Option Addr) (c : Nat) (h : RdS wz (.slice a u c) (L.take u)) (hg : GlobW wz) => (show Calls Tryz.prog 42 #[.slice a u c] wz fun e w' => e = .returned (.tuple #[.slice (some ⟨wz.heap.size, 0, none⟩) u u, .int .i64 0]) ∧ RdB w' (.slice (some ⟨wz.heap.size, 0, none⟩) u u) ((L.take u).map vd) ∧ Below wz.heap.size wz w' from (many_any (L.take u) _ wz h hb2 (by omega) hg).mono (by
    rintro e w' ⟨he, h1, h2⟩
    rw [ht] at he
    exact ⟨he, rdB_row h1 u (by rw [List.length_map, ht]) (by unfold maxLen; omega), h2⟩)))
  have m3 := Lib.hid (fun (wz : World) (a : Option Addr) (c : Nat) (h : RdS wz (.slice a (L.drop u).length c) (L.drop u)) (hg : GlobW wz) => (show Calls Tryz.prog 42 #[.slice a (L.drop u).length c] wz fun e w' => e = .returned (.tuple #[.slice (some ⟨wz.heap.size, 0, none⟩) (L.drop u).length (L.drop u).length, .int .i64 0]) ∧ RdB w' (.slice (some ⟨wz.heap.size, 0, none⟩) (L.drop u).length (L.drop u).length) ((L.drop u).map vd) ∧ Below wz.heap.size wz w' from (many_any (L.drop u) _ wz h hb3 (by omega) hg).mono (by
    rintro e w' ⟨he, h1, h2⟩
    exact ⟨he, rdB_row h1 _ (by rw [List.length_map]) (by unfold maxLen; omega), h2⟩)))
  have c1 := Lib.hid (fun (wz : World) (h : RdS wz (.slice sa L.length sc) L) (hg : GlobW wz) => count_any L (.slice sa L.length sc) wz h hb (by omega) hg)
  have hparts := vd_parts L u
  have hR := Lib.hid hr
  have hRw := Lib.hid hr
  have hGw := Lib.hid hG0
  have hG00 := Lib.hid hG0
  have hS := Lib.hid (Below.refl w.heap.size w)
  have hV := Lib.hid (fun (wz : World) (s : Value) (k : Nat) (h : RdB wz s (nthL L k)) (hg : GlobW wz) => verdict_any (nthL L k) s wz h (hb k) hg)
  have hvm := Lib.hid (fun k : Nat => vdm (nthL L k))
  have hv1 := Lib.hid (fun k : Nat => vd_not1 (nthL L k))
  have hle := Lib.hid (fun k j => cnt_le L k j)
  have hset := Lib.hid (fun k m hk h1 h2 => dP_set L L.length k m hk h1 h2)
  have hcl := Lib.hid (fun k m h => dP_cell L L.length k m h)
  have hz0 := Lib.hid (dP_zero L L.length)
  have hza := Lib.hid (dP_all L L.length)
  have hmap := Lib.hid (show ∀ k, k < L.length → (u8s (L.map vd))[k]? = some (.int .u8 (vd (nthL L k))) from fun k hk => by
    unfold u8s nthL
    rw [List.getElem?_toArray, List.getElem?_map, List.getElem?_map, List.getElem?_eq_getElem hk]
    rfl)
  have info := Lib.hid (show ∀ k, (Tryz.prog.info? 87).map (·.size) = some (c64s (dP L L.length k)).size from fun k => by rw [info_cnt]; simp [c64s, dP_length])
  have hsz := Lib.hid (show ∀ X : Array Value, X.size = 10 → X.size = (c64s (dP L L.length 0)).size from fun X hX => by rw [hX]; simp [c64s, dP_length])
  have heq := Lib.hid (fun wz => eqCnt [0, 0, 0, 0, 0, 0, 0, 0, 0, 0] rfl wz)
  have hl1 : (L.map vd).length = L.length := by simp
  have hl2 : ((L.take u).map vd).length = u := by rw [List.length_map, ht]
  have hl3 : ((L.drop u).map vd).length = (L.drop u).length := by simp
  rw [← hz0.out] at c1
  obtain ⟨L2, hL2⟩ : ∃ x, L.take u = x := ⟨_, rfl⟩
  obtain ⟨L3, hL3⟩ : ∃ x, L.drop u = x := ⟨_, rfl⟩
  rw [hL2] at m2 hparts hl2
  rw [hL3] at m3 hparts hl3 hd
  have hL2 := Lib.hid hL2
  have hL3 := Lib.hid hL3
  obtain ⟨M, hM⟩ : ∃ x, L3.length = x := ⟨_, rfl⟩
  rw [hM] at m3 hl3 hd
  have hM := Lib.hid hM
  obtain ⟨R1, hR1⟩ : ∃ x, L.map vd = x := ⟨_, rfl⟩
  obtain ⟨R2, hR2⟩ : ∃ x, L2.map vd = x := ⟨_, rfl⟩
  obtain ⟨R3, hR3⟩ : ∃ x, L3.map vd = x := ⟨_, rfl⟩
  rw [hR1] at m1 hparts hmap hl1
  rw [hR2] at m2 hparts hl2
  rw [hR3] at m3 hparts hl3
  clear hR1 hR2 hR3
  obtain ⟨n, hnL⟩ : ∃ n, L.length = n := ⟨_, rfl⟩
  have hnh := Lib.hid hnL
  rw [hnL] at hgf m1 c1 hset hcl hz0 hza hmap info hsz hle hl1 hd hn12 hu hR hRw ⊢
  have hR4 := Lib.hid (fun (wz : World) (v1 v2 : Value) (h1 : RdB wz v1 R1) (h2 : RdB wz v2 R1) => same_true v1 v2 R1 wz (by omega) h1 h2)
  have hparts := Lib.hid hparts
  have hlen := Lib.hid (show ([] : List Int).length + R2.length ≤ 140737488355328 by rw [hl2]; simp; omega)
  have hlen3 := Lib.hid (show R2.length + R3.length ≤ 140737488355328 by rw [hl2, hl3]; omega)
  have hu0 := Lib.hid hu
  have hl1 := Lib.hid hl1
  have hl2 := Lib.hid hl2
  have hl3 := Lib.hid hl3
  have i12 : ¬ (12 : Int) < (n : Int) := by omega
  have iu0 : ¬ (u : Int) < 0 := by omega
  have iun : ¬ (n : Int) < (u : Int) := by omega
  have hn60 := Lib.hid hn12
  clear hr hb hG0 hm hb2 hb3 hd ht hnL hu hn12
  go_enter Tryz.func10, Tryz.ntmps10
  go_upto_region 3 with (go_at_call 49; (with_reducible refine (hgf.out).mono ?_); rintro e9 w4 ⟨rfl, hw⟩; replace hw := hw.symm; subst hw)
  go_upto_region 4 with (go_at_call 42; (with_reducible refine (m1.out _ hR.out hGw.out).mono ?_); rintro e9 w4 ⟨g1, hgl, rfl, q1, q2⟩; have hg1w := Lib.hid (Nat.le_trans hS.out.size hgl); clear hgl; (try replace hR := Lib.hid (hR.out.mono q2)); (try replace hGw := Lib.hid (hGw.out.mono q2)); (try replace h2 := Lib.hid (h2.out.mono q2)); (try replace h3 := Lib.hid (h3.out.mono q2)); (try replace hX := Lib.hid (hX.out.mono q2)); (try replace r1 := Lib.hid (rowB r1.out q2 (Array.getElem?_eq_some_iff.1 r1.out).1)); (try replace r11 := Lib.hid (rowB r11.out q2 (Array.getElem?_eq_some_iff.1 r11.out).1)); replace hS := Lib.hid (hS.out.trans (Below.mono q2 hS.out.size)); have r1 := Lib.hid q1; clear q1 q2)
  have hg1 := Lib.hid (Array.getElem?_eq_some_iff.1 r1.out).1
  go_upto_region 5 with (first | (refine wpList_headS rfl 86 _ _ rfl (by kernel_rfl) (by kernel_rfl) _ L _ _ _ rfl hR.out hnh.out u rfl hu0.out L2 hL2.out ?_; intro xa xc x0; have hX := Lib.hid x0; clear x0) | (go_at_call 42; (with_reducible refine (m2.out _ _ _ hX.out hGw.out).mono ?_); rintro e9 w4 ⟨rfl, q1, q2⟩; clear hX; (try replace hR := Lib.hid (hR.out.mono q2)); (try replace hGw := Lib.hid (hGw.out.mono q2)); (try replace h2 := Lib.hid (h2.out.mono q2)); (try replace h3 := Lib.hid (h3.out.mono q2)); (try replace hX := Lib.hid (hX.out.mono q2)); (try replace r1 := Lib.hid (rowB r1.out q2 (Array.getElem?_eq_some_iff.1 r1.out).1)); (try replace r11 := Lib.hid (rowB r11.out q2 (Array.getElem?_eq_some_iff.1 r11.out).1)); replace hS := Lib.hid (hS.out.trans (Below.mono q2 hS.out.size)); have h2 := Lib.hid q1; clear q1 q2))
  go_upto_region 6 with (first | (refine wpList_cutS rfl 86 _ _ rfl (by kernel_rfl) (by kernel_rfl) _ L _ _ _ rfl hR.out hnh.out u rfl hu0.out L3 M hL3.out hM.out ?_; intro xa xc x0; have hX := Lib.hid x0; clear x0) | (go_at_call 42; (with_reducible refine (m3.out _ _ _ hX.out hGw.out).mono ?_); rintro e9 w4 ⟨rfl, q1, q2⟩; clear hX; (try replace hR := Lib.hid (hR.out.mono q2)); (try replace hGw := Lib.hid (hGw.out.mono q2)); (try replace h2 := Lib.hid (h2.out.mono q2)); (try replace h3 := Lib.hid (h3.out.mono q2)); (try replace hX := Lib.hid (hX.out.mono q2)); (try replace r1 := Lib.hid (rowB r1.out q2 (Array.getElem?_eq_some_iff.1 r1.out).1)); (try replace r11 := Lib.hid (rowB r11.out q2 (Array.getElem?_eq_some_iff.1 r11.out).1)); replace hS := Lib.hid (hS.out.trans (Below.mono q2 hS.out.size)); have h3 := Lib.hid q1; clear q1 q2))
  go_upto_region 7 with (first | (go_at_call 43; (with_reducible refine (c1.out _ hR.out hGw.out).mono ?_); rintro e9 w4 ⟨rfl, q2⟩; skip; (try replace hR := Lib.hid (hR.out.mono q2)); (try replace hGw := Lib.hid (hGw.out.mono q2)); (try replace h2 := Lib.hid (h2.out.mono q2)); (try replace h3 := Lib.hid (h3.out.mono q2)); (try replace hX := Lib.hid (hX.out.mono q2)); (try replace r1 := Lib.hid (rowB r1.out q2 (Array.getElem?_eq_some_iff.1 r1.out).1)); (try replace r11 := Lib.hid (rowB r11.out q2 (Array.getElem?_eq_some_iff.1 r11.out).1)); replace hS := Lib.hid (hS.out.trans (Below.mono q2 hS.out.size)); clear q2) | (refine storeNew _ rfl 87 _ _ rfl (c64s (dP L n 0)) 87 rfl rfl (info.out 0) (hsz.out _ rfl) (c64s_one _) ?_; intro wx hrx hbx; have hS4 := Lib.hid hS.out.size; (try replace hR := Lib.hid (hR.out.mono hbx)); (try replace hGw := Lib.hid (hGw.out.mono hbx)); (try replace h2 := Lib.hid (h2.out.mono hbx)); (try replace h3 := Lib.hid (h3.out.mono hbx)); (try replace hX := Lib.hid (hX.out.mono hbx)); (try replace r1 := Lib.hid (rowB r1.out hbx (Array.getElem?_eq_some_iff.1 r1.out).1)); (try replace r11 := Lib.hid (rowB r11.out hbx (Array.getElem?_eq_some_iff.1 r11.out).1)); replace hS := Lib.hid (hS.out.trans (Below.mono hbx hS.out.size)); have r11 := Lib.hid hrx; have hg11w := Lib.hid (show w.heap.size ≤ w4.heap.size from hS4.out); clear hrx hbx hS4; obtain ⟨g11, hgg⟩ : ∃ g, g = w4.heap.size := ⟨_, rfl⟩; rw [← hgg] at r11 hg11w ⊢; clear hgg))
  have hne : g1 ≠ g11 := fun h => by
    have h1 := r1.out
    rw [h, r11.out] at h1
    have h2 := Option.some.inj h1
    injection h2 with _ h3
    cases h3
  have hne := Lib.hid hne
  go_wp2_with (refine appendB_g rfl _ _ 83 rfl wx.heap.size 5 Tryz.underlying83 (by kernel_rfl) _ rfl [] (own_nil wx) _ rfl R2 (h2.out.mono (below_a wx _)) hlen.out (by simp) ?_)
  intro v5 w5 k1 k2
  obtain ⟨va, vc, rfl⟩ := own_slice k1 _ hl2.out
  have hb5 := Lib.hid ((below_a wx (.cells #[] 5)).trans ((own_nil wx).below k2 (by simp)))
  have ow5 := Lib.hid k1
  have h35 := Lib.hid (h3.out.mono hb5.out)
  have hz5 := Lib.hid hb5.out.size
  clear k1 k2
  refine Stop.go ?_
  go_wp2_with (refine appendB_g rfl _ _ 83 rfl wx.heap.size 5 Tryz.underlying83 (by kernel_rfl) _ rfl R2 ow5.out _ rfl R3 h35.out hlen3.out hz5.out ?_)
  intro v6 w6 k1 k2
  obtain ⟨vb, vd6, rfl⟩ := own_slice k1 _ hl1.out
  have hb6 := Lib.hid (hb5.out.trans (ow5.out.below k2 hz5.out))
  have h6 := Lib.hid k1.rd
  clear k1 k2 ow5 h35 hb5 hz5 h2 h3

  (try replace hR := Lib.hid (hR.out.mono hb6.out))
  (try replace hGw := Lib.hid (hGw.out.mono hb6.out))
  (try replace h2 := Lib.hid (h2.out.mono hb6.out))
  (try replace h3 := Lib.hid (h3.out.mono hb6.out))
  (try replace hX := Lib.hid (hX.out.mono hb6.out))
  (try replace r1 := Lib.hid (rowB r1.out hb6.out (Array.getElem?_eq_some_iff.1 r1.out).1))
  (try replace r11 := Lib.hid (rowB r11.out hb6.out (Array.getElem?_eq_some_iff.1 r11.out).1))
  replace hS := Lib.hid (hS.out.trans (Below.mono hb6.out hS.out.size))
  clear hb6
  have h1b := Lib.hid (show RdB w6 (.slice (some ⟨g1, 0, none⟩) n n) R1 from rdB_row r1.out n hl1.out (by have := hn60.out; unfold maxLen; omega))
  refine Stop.go ?_
  go_wp2_with (go_at_call 46; (with_reducible refine (hR4.out _ _ _ h1b.out h6.out).mono ?_); rintro e9 w7 ⟨rfl, q2⟩; (try replace hR := Lib.hid (hR.out.mono q2)); (try replace hGw := Lib.hid (hGw.out.mono q2)); (try replace h2 := Lib.hid (h2.out.mono q2)); (try replace h3 := Lib.hid (h3.out.mono q2)); (try replace hX := Lib.hid (hX.out.mono q2)); (try replace r1 := Lib.hid (rowB r1.out q2 (Array.getElem?_eq_some_iff.1 r1.out).1)); (try replace r11 := Lib.hid (rowB r11.out q2 (Array.getElem?_eq_some_iff.1 r11.out).1)); replace hS := Lib.hid (hS.out.trans (Below.mono q2 hS.out.size)); clear q2 h1b h6)
  have hg1s := Lib.hid (Array.getElem?_eq_some_iff.1 r1.out).1
  have hR7 := Lib.hid (hRw.out.mono hS.out)
  have hG7 := Lib.hid (hG00.out.mono hS.out)
  go_loopw [13] (fun i wr => ∃ k : Nat, k ≤ n ∧ i = .int .i64 k ∧ Below w.heap.size w wr ∧ wr.heap[g11]? = some (.cells (c64s (dP L n k)) 87 (0, 0)) ∧ wr.heap[g1]? = some (.cells (u8s R1) 5 (0, 0))) (fun i _ => n - (intOf i).toNat)
  case atStart => exact ⟨0, Nat.zero_le _, rfl, hS.out, r11.out, r1.out⟩
  case round =>
    obtain ⟨k, hk, rfl, hbk, q11, q1⟩ := hrel
    have hbk := Lib.hid hbk; have q11 := Lib.hid q11; have q1 := Lib.hid q1
    by_cases hlt : k < n
    · obtain ⟨m, hm, hm4⟩ := hvm.out k
      have hm1 : m ≠ 1 := fun h => hv1.out k (by rw [hm, h]; rfl)
      have cf := Lib.hid (show wr.cell? ⟨g1, k, none⟩ = some (.int .u8 (m : Int)) by rw [cell_of_row _ _ _ _ _ _ q1.out, ← hm]; exact hmap.out k hlt)
      have cm : wr.cell? ⟨g11, m, none⟩ = some (.int .i64 ((cnt L n m : Int) - (cnt L k m : Int))) := by rw [cell_of_row _ _ _ _ _ _ q11.out]; exact hcl.out k m (by omega)
      have cm := Lib.hid cm
      have g1l := Lib.hid (Array.getElem?_eq_some_iff.1 q1.out).1
      have hst := Lib.hid (hset.out k m hlt hm (by omega))
      have hc := Lib.hid (hle.out n m)
      have hc2 := Lib.hid (hle.out k m)
      have hn12 := hn60.out
      have hkI : (k : Int) < (n : Int) := by omega
      have hat : ∃ b o s, sa = some ⟨b, o, none⟩ ∧ b < wr.heap.size ∧ wr.cell? ⟨b, o + k, none⟩ = some s ∧ RdB wr s (nthL L k) := by
        rcases hRw.out.mono hbk.out with ⟨_, _, _, _, rfl⟩ | ⟨b, o, c', hv, h1, h2, h3, h4⟩
        · have := hnh.out; simp at this; omega
        · obtain ⟨e1, _, _⟩ := Value.slice.inj hv
          subst e1
          obtain ⟨s, h5, h6⟩ := h4 k (by have := hnh.out; omega)
          exact ⟨b, o, s, rfl, h3, h5, h6⟩
      obtain ⟨b, o, s, rfl, hbl, cs, rs⟩ := hat
      obtain ⟨xa, xc, rfl⟩ := rs.slice
      have cs := Lib.hid cs
      have hbl := Lib.hid hbl
      have hO := Lib.hid (fun (w9 : World) (h : Below wr.heap.size wr w9) => hV.out w9 _ k (rs.mono h) (hG00.out.mono (hbk.out.trans (h.mono hbk.out.size))))
      have x1 : ((m : Int) != (m : Int)) = false := by simp
      have x2 : ((m : Int) == 1) = false := by simp; omega
      have x3 : decide ((4 : Int) < (m : Int)) = false := by simp; omega
      rw [hm] at hO
      clear hm rs
      generalize (nthL L k).length = XM at *
      go_upto_region 12 with fail
      refine wp_region_quiet (C := fun w' => Below wr.heap.size wr w') (by kernel_rfl) (by kernel_rfl) ((Below.refl _ _).drew) ?_
      simp only []
      iterate 3 (go_big_quiet_want; go_big_quiet_op; first | go_big_quiet_on | (refine ⟨_, fun _ _ => rfl, ?_⟩; go_big_quiet_on))
      refine wpq (.int .u8 (m : Int)) rfl (quiet_cell 5 _ rfl g1 k rfl (.int .u8 (m : Int)) (fun w h => (h.cell (p := (⟨g1, k, none⟩ : Addr)) g1l.out).trans cf.out) Tryz.isAgg5) rfl (fun K hK => ?_); go_simp; refine hK _ ?_; clear hK K
      iterate 3 (go_big_quiet_want; go_big_quiet_op; first | go_big_quiet_on | (refine ⟨_, fun _ _ => rfl, ?_⟩; go_big_quiet_on))
      refine wpq (.slice xa XM xc) rfl (quiet_cell 83 _ rfl b (o + k) rfl (.slice xa XM xc) (fun w h => (h.cell (p := (⟨b, o + k, none⟩ : Addr)) hbl.out).trans cs.out) Tryz.isAgg83) rfl (fun K hK => ?_); go_simp; refine hK _ ?_; clear hK K
      refine wpq (.int .u8 (m : Int)) rfl (qa_call1 (.slice xa XM xc) rfl Tryz.func47 (by kernel_rfl) rfl rfl rfl (fun w h => (hO.out w h).mono fun e w' ⟨he, hb⟩ => ⟨he, h.trans (hb.mono h.size)⟩)) rfl (fun K hK => ?_); go_simp; refine hK _ ?_; clear hK K
      iterate 5 (go_big_quiet_want; go_big_quiet_op; first | go_big_quiet_on | (refine ⟨_, fun _ _ => rfl, ?_⟩; go_big_quiet_on))
      refine wpq (.int .u8 (m : Int)) rfl (quiet_cell 5 _ rfl g1 k rfl (.int .u8 (m : Int)) (fun w h => (h.cell (p := (⟨g1, k, none⟩ : Addr)) g1l.out).trans cf.out) Tryz.isAgg5) rfl (fun K hK => ?_); go_simp; refine hK _ ?_; clear hK K
      iterate 6 (go_big_quiet_want; go_big_quiet_op; first | go_big_quiet_on | (refine ⟨_, fun _ _ => rfl, ?_⟩; go_big_quiet_on))
      refine wpq (.int .u8 (m : Int)) rfl (quiet_cell 5 _ rfl g1 k rfl (.int .u8 (m : Int)) (fun w h => (h.cell (p := (⟨g1, k, none⟩ : Addr)) g1l.out).trans cf.out) Tryz.isAgg5) rfl (fun K hK => ?_); go_simp; refine hK _ ?_; clear hK K
      iterate 2 (go_big_quiet_want; go_big_quiet_op; first | go_big_quiet_on | (refine ⟨_, fun _ _ => rfl, ?_⟩; go_big_quiet_on))
      refine wpQuiet_nil ?_
      intro w8 h8
      have hb8 := Lib.hid h8
      have q18 := Lib.hid (rowB q1.out h8 g1l.out)
      have q118 := Lib.hid (rowB q11.out h8 (Array.getElem?_eq_some_iff.1 q11.out).1)
      have cf8 : w8.cell? ⟨g1, k, none⟩ = some (.int .u8 (m : Int)) := (h8.cell (p := (⟨g1, k, none⟩ : Addr)) g1l.out).trans cf.out
      have cm8 : w8.cell? ⟨g11, m, none⟩ = some (.int .i64 ((cnt L n m : Int) - (cnt L k m : Int))) := (h8.cell (p := (⟨g11, m, none⟩ : Addr)) (Array.getElem?_eq_some_iff.1 q11.out).1).trans cm.out
      have fm8 := frozen_of_row _ _ m _ _ q118.out
      have hS8 := Lib.hid (hbk.out.trans (h8.mono hbk.out.size))
      have hwr : IntKind.i64.wrap (((cnt L n m : Int) - (cnt L k m : Int)) - 1) = ((cnt L n m : Int) - (cnt L k m : Int)) - 1 := IntWalk.i64_in _ (by have := hc.out; have := hc2.out; omega)
      have hm10 : (m : Int) < 10 := by omega
      have hm10' : m < 10 := by omega
      clear h8
      generalize (cnt L n m : Int) - (cnt L k m : Int) = cv at *
      go_wp2
      go_roundw
      case rel => exact ⟨k + 1, by omega, by go_num, hS8.out.setCell (p := ⟨g11, m, none⟩) hg11w.out _, by rw [← hst.out, ← c64s_set]; exact setCell_row q118.out m _, (setCell_rows _ _ _ _ hne.out).trans q18.out⟩
      case measure => simp [intOf]; omega
    · obtain rfl : k = n := by omega
      rw [hza.out] at q11
      have hA := Lib.hid (hal.out wr (hG00.out.mono hbk.out))
      go_wp2_with (first
        | (refine wpList_load_row_g rfl 87 _ rfl g11 rfl 87 (c64s [0, 0, 0, 0, 0, 0, 0, 0, 0, 0]) (0, 0) _ q11.out Tryz.underlying87 rfl info_cnt ?_)
        | (refine wpList_eqlS rfl 87 _ _ rfl (c64s [0, 0, 0, 0, 0, 0, 0, 0, 0, 0]) (c64s [0, 0, 0, 0, 0, 0, 0, 0, 0, 0]) rfl rfl cntGuard true (heq.out _) ?_)
        | (go_at_call 48; (with_reducible refine (hA.out).mono ?_); rintro e9 w9 ⟨rfl, q2⟩; have hS9 := Lib.hid (hbk.out.trans (q2.mono hbk.out.size)); clear q2))
      go_ret
      exact ⟨rfl, hS9.out⟩
theorem parts_law (L : List (List Int)) (v : Value) (at_ : Int) (w : World) (hr : RdS w v L) (hb : ∀ i, Bytes (nthL L i)) (hG0 : GlobW w) :
    Calls Tryz.prog 10 #[v, .int .i64 at_] w fun e w' => e = .returned (.bool true) ∧ Below w.heap.size w w' := by
  by_cases h : ((∀ i, i < L.length → (nthL L i).length ≤ 1000) ∧ (L.length ≤ 12 ∨ 60 < L.length ∧ L.length ≤ 100)) ∧ ¬ (12 < L.length ∨ at_ < 0 ∨ (L.length : Int) < at_)
  · obtain ⟨u, rfl⟩ : ∃ u : Nat, at_ = (u : Int) := ⟨at_.toNat, by omega⟩
    exact parts_in L v u w hr hb hG0 h.1.1 (by omega) (by omega)
  · exact parts_out L v at_ w hr hb hG0 fun h1 => Classical.not_not.1 fun h2 => h ⟨h1, h2⟩
end Go.Proofs.YtnknkiiikeefgaaGreatDoor.wir.val
namespace Go.Proofs.YtnknkiiikeefgaaGreatDoor.wir.val.judgeParts
open Go.ChangeShapes Go.WideShapes Go.ChangeAt Go.WideMaps Go.WideElems Go.RowKit Go.YtnknkiiikeefgaaGreatDoor
set_option linter.unusedVariables false
theorem readable : ∀ t ∈ Tryz.f10.params.toList, Tryz.prog.readableRec t = true ∧ t < Tryz.prog.types.size := by
  have h : (Tryz.f10.params.toList.all fun t => Tryz.prog.readableRec t && decide (t < Tryz.prog.types.size)) = true := by kernel_rfl
  intro t ht
  simpa using List.all_eq_true.1 h t ht
set_option maxRecDepth 100000 in
theorem lifted (os : Os) (started : os.Started) (H : Type) (enc : TypeId × Value → H) :
    ReturnsInHanded {} Tryz.checked os 10 .any (fun w args => (Rows.judgePartsSpec.pre enc Tryz.prog Tryz.f10 [] false w args ∧ laidMetH Tryz.prog laidL w) ∧ sizedMet enc Tryz.prog Tryz.f10 (OpenSpec.ofChange Rows.judgePartsSpec) false w args)
      (Rows.judgePartsSpec.post enc Tryz.prog Tryz.f10 false true false false) := by
  refine returnsInHanded_of_change_and (C := Tryz.checked) (X := fun w _ => laidMetH Tryz.prog laidL w) (fun _ _ _ hh h => h.of_heap hh) own started (by kernel_rfl) Tryz.func10
    (ChangeSpec.witness_shaped (enc := enc) (C := Tryz.checked) (os := os) (X := fun w _ => laidMetH Tryz.prog laidL w) false (World.doorLaid Tryz.prog 400 os) #[.slice none 0 0, .int .i64 0] 8 rfl (World.shaped_of_RefB (by kernel_rfl) (by kernel_rfl)) (by kernel_rfl) (by kernel_rfl) (by kernel_rfl) (door_met os _)) ?_
  intro W base args ds gs before hval0 hW _ _ hL _
  have hval : ∀ (j : Nat) t v, Tryz.f10.params[j]? = some t → args[j]? = some v → Value.okWide Tryz.prog W .any base t v := hval0
  have hW' := hW
  obtain ⟨p, q, hA0, hV, rfl, hfz, hnd⟩ := hW
  have hA : DataW.TrodAll enc Tryz.prog W 0 (fun _ => true) true Tryz.f10.params.toList args.toList ds p := hA0
  rw [Tryz.params10] at hA hval
  obtain ⟨v0, vs0, d0, ds0, p0, q0, hargs, rfl, rfl, h0, r0⟩ := trodAll_cons hA
  obtain ⟨v1, vs1, d1, ds1, p1, q1, rfl, rfl, rfl, h1, r1⟩ := trodAll_cons r0
  obtain ⟨rfl, rfl, rfl⟩ := trodAll_nil r1
  obtain rfl : args = #[v0, v1] := by cases args; simp_all
  obtain ⟨rfl, rfl⟩ := trodVars_none hV
  obtain ⟨L0, rd0, bytes0⟩ := open_strs (hval 0 86 v0 rfl rfl) h0
  obtain ⟨n1, rfl, rfl, rfl, wf1⟩ := open_int Tryz.underlying3 (hval 1 3 v1 rfl rfl) h1
  clear hA0 hval0
  obtain ⟨Tg, Tf, hl1, hl2⟩ := of_laid hL
  have hG : GlobW W := ⟨Tg, Tf, hl1, hl2⟩
  refine (parts_law L0 _ n1 W rd0 bytes0 hG).mono fun e W' ⟨he, hb⟩ => ?_
  subst he
  exact ⟨_, rfl, law_post laidOut readable (by kernel_rfl) hW' hb (fun _ _ _ => trodAll_mk1 (shut_bool Tryz.underlying4 _)) rfl rfl⟩
theorem holds : Rows.JudgePartsSaid :=
  OpenClaim.holds_of_wide 10 Tryz.f10 rfl rfl rfl rfl rfl rfl rfl ⟨rfl, rfl, rfl, rfl, rfl⟩ rfl rfl rfl rfl rfl (by kernel_rfl) Tryz.func10 (by kernel_rfl)
    (of_decide_eq_true (by kernel_rfl)) (by unfold Func.isWrapper; first | (rw [if_pos (by decide +kernel)]; kernel_rfl) | (rw [if_neg (by decide +kernel)]; exact ⟨rfl, rfl⟩))
    (fun os started H enc _ => lifted os started H enc)
theorem proved : Rows.JudgePartsCardSaid :=
  Claim7.holds_tied_plain_at .later [] [.data, .data] true _ false
    holds (fun _ h => by cases h) (by kernel_rfl) (fun _ h => by cases h) judgeParts_row_tie rfl ⟨rfl, rfl⟩ (by kernel_rfl) rfl
    (fun f fn hf hfn => by
      obtain rfl : f = 10 := Option.some.inj ((show Tryz.prog.funcNamed "braid/braidlaw08.JudgeParts" = some 10 by kernel_rfl).symm.trans hf) |>.symm
      obtain rfl : fn = Tryz.f10 := (Option.some.inj (Tryz.func10.symm.trans hfn)).symm
      exact ⟨by kernel_rfl, fun j t ht => by
        have hall : (Tryz.f10.params.toList.all fun u => !Tryz.prog.wantsStandIn u) = true := by kernel_rfl
        have hm : t ∈ Tryz.f10.params.toList := Array.mem_toList_iff.2 (Array.mem_of_getElem? ht)
        exact (show Tryz.prog.wantsStandIn t = false by simpa using List.all_eq_true.1 hall t hm)⟩)
    (by kernel_rfl)
#print axioms proved
end Go.Proofs.YtnknkiiikeefgaaGreatDoor.wir.val.judgeParts

/- JudgeLists: for any list of bytes (lists that are too great are asked nothing), Many and Count return the results of the reference, and the bytes of the list stay as they are. Conditions: the two listed variables start as the program text lays them (the card ties them to it). -/
import Derived.Test.YtoknefeciopdpaaGreatDoorK10
import Derived.Test.YtoknefeciopdpaaGreatDoorK16
import Derived.Test.YtoknefeciopdpaaGreatDoorRow
import Derived.Lib.SmallJoins
import Derived.ChangeMaps5
import Derived.Deep.Strs
import Derived.Test.YtoknefeciopdpaaGreatDoorCards
namespace Go.Proofs.YtoknefeciopdpaaGreatDoor.wir.val
open Go.RowKit Go.YtoknefeciopdpaaGreatDoor
set_option linter.unusedVariables false
/-- A slice of slices of bytes that reads as L (an empty one may have any address). -/
def RdS (w : World) (v : Value) (L : List (List Int)) : Prop :=
  (∃ a c, v = .slice a 0 c ∧ (a = none → c = 0) ∧ L = []) ∨ ∃ b o c, v = .slice (some ⟨b, o, none⟩) L.length c ∧ L.length ≤ c ∧ c ≤ maxLen ∧ b < w.heap.size ∧ ∀ i, i < L.length → ∃ s, w.cell? ⟨b, o + i, none⟩ = some s ∧ RdB w s (nthL L i)
theorem RdS.mono {w w' : World} {v : Value} {L : List (List Int)} (h : RdS w v L) (hb : Below w.heap.size w w') : RdS w' v L := by
  rcases h with h | ⟨b, o, c, hv, h1, h2, h3, h4⟩
  · exact .inl h
  · refine .inr ⟨b, o, c, hv, h1, h2, Nat.lt_of_lt_of_le h3 hb.size, fun i hi => ?_⟩
    obtain ⟨s, h5, h6⟩ := h4 i hi
    exact ⟨s, by rw [hb.cell (p := (⟨b, o + i, none⟩ : Addr)) h3]; exact h5, h6.mono hb⟩
theorem RdS.slice {w : World} {v : Value} {L : List (List Int)} (h : RdS w v L) : ∃ a c, v = .slice a L.length c := by
  rcases h with ⟨a, c, rfl, _, rfl⟩ | ⟨b, o, c, hv, _⟩
  · exact ⟨a, c, rfl⟩
  · exact ⟨_, c, hv⟩
theorem vd_range (l : List Int) : 0 ≤ vd l ∧ vd l ≤ 4 := by
  unfold vd
  split
  · omega
  · split
    · omega
    · split <;> omega
/-- The verdicts on the first k of n. -/
def vP (L : List (List Int)) (n k : Nat) : List Int := (L.take k).map vd ++ zerosB (n - k)
theorem vP_length (L : List (List Int)) (k : Nat) (hk : k ≤ L.length) : (vP L L.length k).length = L.length := by
  unfold vP
  rw [List.length_append, List.length_map, List.length_take, zerosB_length]; omega
theorem vP_zero (L : List (List Int)) (n : Nat) : vP L n 0 = zerosB n := by simp [vP]
theorem vP_all (L : List (List Int)) : vP L L.length L.length = L.map vd := by
  unfold vP
  rw [List.take_length, Nat.sub_self]
  simp [zerosB]
theorem vP_set (L : List (List Int)) (k : Nat) (hk : k < L.length) : (vP L L.length k).set k (vd (nthL L k)) = vP L L.length (k + 1) := by
  unfold vP
  have h1 : ((L.take k).map vd).length = k := by rw [List.length_map, List.length_take]; omega
  have h2 : zerosB (L.length - k) = 0 :: zerosB (L.length - (k + 1)) := by
    unfold zerosB
    rw [show L.length - k = (L.length - (k + 1)) + 1 by omega, List.replicate_succ]
  rw [h2, List.set_append_right _ _ (by omega), h1, Nat.sub_self, List.set_cons_zero, List.take_add_one, List.map_append, List.append_assoc]
  congr 1
  unfold nthL
  rw [List.getElem?_eq_getElem hk]
  rfl
theorem vdL_bytes (L : List (List Int)) : Bytes (L.map vd) := fun i => by
  unfold ith
  rw [List.getElem?_map]
  cases L[i]? with
  | none => simp
  | some l => have := vd_range l; simp; omega
theorem u8s_setX (l : List Int) (k : Nat) (x : Int) : (u8s l).setIfInBounds k (.int .u8 x) = u8s (l.set k x) := by
  unfold u8s
  apply Array.ext'
  simp [List.map_set]
theorem vP_cell (L : List (List Int)) (k : Nat) (hk : k < L.length) : (u8s (vP L L.length k))[k]? = some (.int .u8 (ith (vP L L.length k) k)) := by
  have h := vP_length L k (by omega)
  unfold u8s
  rw [List.getElem?_toArray, List.getElem?_map]
  unfold ith
  rw [List.getElem?_eq_getElem (by omega)]
  rfl
set_option maxHeartbeats 4000000 in
set_option maxRecDepth 100000 in
theorem verdicts_any (L : List (List Int)) (v : Value) (w : World) (hr : RdS w v L) (hb : ∀ i, Bytes (nthL L i)) (hn : L.length ≤ 60) (hG0 : GlobW w) :
    Calls Tryz.prog 69 #[v] w fun e w' => e = .returned (.slice (some ⟨w.heap.size, 0, none⟩) L.length L.length) ∧ w'.heap[w.heap.size]? = some (.cells (u8s (L.map vd)) 5 (0, 0)) ∧ Below w.heap.size w w' := by
  obtain ⟨sa, sc, rfl⟩ := hr.slice
  have hrw := Lib.hid hr
  have hG := Lib.hid hG0
  have hB0 := Lib.hid (below_a1 w (.cells (u8s (zerosB L.length)) 5))
  have hrow := Lib.hid (heap_alloc_new w (.cells (u8s (zerosB L.length)) 5))
  rw [← vP_zero L L.length] at hrow
  have hz0 := Lib.hid (vP_zero L L.length)
  have hall := Lib.hid (vP_all L)
  have hset := Lib.hid (fun k hk => vP_set L k hk)
  have hcl := Lib.hid (fun k hk => vP_cell L k hk)
  have hbs := Lib.hid hb
  have hmk : ∀ wz : World, (Instr.makeSlice 33 (.int .i64 (L.length : Int)) (.int .i64 (L.length : Int))).run Tryz.prog wz = .ok (.slice (some ⟨wz.heap.size, 0, none⟩) L.length L.length) (wz.alloc (.cells (u8s (zerosB L.length)) 5)) := fun wz => run_makeB (P := Tryz.prog) wz 33 5 Tryz.underlying33 (by kernel_rfl) L.length L.length (Nat.le_refl _) (by omega)
  clear hr hb hG0
  obtain ⟨n, hnL⟩ : ∃ n, L.length = n := ⟨_, rfl⟩
  have hnh := Lib.hid hnL
  rw [hnL] at hmk hn hB0 hrow hz0 hall hset hcl ⊢
  clear hnL
  go_enter Tryz.func69, Tryz.ntmps69
  go_wp2
  go_loopw [10] (fun i wr => ∃ k : Nat, k ≤ n ∧ i = .int .i64 k ∧ Below w.heap.size w wr ∧ wr.heap[w.heap.size]? = some (.cells (u8s (vP L n k)) 5 (0, 0))) (fun i _ => n - (intOf i).toNat)
  case atStart => exact ⟨0, Nat.zero_le _, rfl, hB0.out, hrow.out⟩
  case round =>
    obtain ⟨k, hk, rfl, hbk, hrk⟩ := hrel
    have hbk' := Lib.hid hbk; have hrk' := Lib.hid hrk
    clear hbk hrk
    by_cases hlt : k < n
    · have hat : ∃ b o s, sa = some ⟨b, o, none⟩ ∧ wr.cell? ⟨b, o + k, none⟩ = some s ∧ RdB wr s (nthL L k) := by
        rcases hrw.out.mono hbk'.out with ⟨_, _, _, _, rfl⟩ | ⟨b, o, c', hv, h1, h2, h3, h4⟩
        · have := hnh.out; simp at this; omega
        · obtain ⟨e1, _, _⟩ := Value.slice.inj hv
          subst e1
          obtain ⟨s, h5, h6⟩ := h4 k (by have := hnh.out; omega)
          exact ⟨b, o, s, rfl, h5, h6⟩
      obtain ⟨b, o, s, rfl, cs, rs⟩ := hat
      obtain ⟨xa, xc, rfl⟩ := rs.slice
      have hO := Lib.hid (judgeOf_w (nthL L k) _ wr rs (hbs.out k) (hG.out.mono hbk'.out))
      have hst := Lib.hid (hset.out k (by have := hnh.out; omega))
      have hcc := Lib.hid (hcl.out k (by have := hnh.out; omega))
      have hlt0 := Lib.hid (Array.getElem?_eq_some_iff.1 hrk'.out).1
      clear rs
      generalize vd (nthL L k) = V at *
      generalize (nthL L k).length = M at *
      have hkI : (k : Int) < (n : Int) := by omega
      go_wp2_with (go_at_call 35; (with_reducible refine (hO.out).mono ?_); rintro e w2 ⟨oo, qa, qn, qc, D, hD, rfl, h2⟩; have hb2 := Lib.hid h2; have hr2 := Lib.hid (rowB hrk'.out h2 hlt0.out); have c2 : w2.cell? ⟨w.heap.size, k, none⟩ = some (.int .u8 (ith (vP L n k) k)) := (by rw [cell_of_row _ _ _ _ _ _ hr2.out]; exact hcc.out); have f2 := frozen_of_row _ _ k _ _ hr2.out; clear h2)
      go_roundw
      case rel => exact ⟨k + 1, by omega, by go_num, (hbk'.out.trans (hb2.out.mono hbk'.out.size)).setCell (p := ⟨w.heap.size, k, none⟩) (Nat.le_refl _) _, by rw [← hst.out, ← u8s_setX]; exact setCell_row hr2.out k _⟩
      case measure => simp [intOf]; omega
    · obtain rfl : k = n := by omega
      go_wp2
      go_ret
      exact ⟨rfl, by rw [← hall.out]; exact hrk'.out, hbk'.out⟩
set_option maxHeartbeats 2000000 in
set_option maxRecDepth 100000 in
theorem many_any (L : List (List Int)) (v : Value) (w : World) (hr : RdS w v L) (hb : ∀ i, Bytes (nthL L i)) (hn : L.length ≤ 60) (hG0 : GlobW w) :
    Calls Tryz.prog 32 #[v] w fun e w' => e = .returned (.tuple #[.slice (some ⟨w.heap.size, 0, none⟩) L.length L.length, .int .i64 0]) ∧ w'.heap[w.heap.size]? = some (.cells (u8s (L.map vd)) 5 (0, 0)) ∧ Below w.heap.size w w' := by
  have hV := Lib.hid (verdicts_any L v w hr hb hn hG0)
  obtain ⟨sa, sc, rfl⟩ := hr.slice
  have i1 : ¬ (60 : Int) < (L.length : Int) := by omega
  clear hr hb hG0
  generalize L.map vd = R at *
  generalize L.length = n at *
  go_enter Tryz.func32, Tryz.ntmps32
  go_wp2_with (go_at_call 69; (with_reducible refine (hV.out).mono ?_); rintro e w2 ⟨rfl, h1, h2⟩; have h1 := Lib.hid h1; have h2 := Lib.hid h2)
  go_ret2
  exact ⟨rfl, h1.out, h2.out⟩
set_option maxHeartbeats 2000000 in
set_option maxRecDepth 100000 in
theorem many_long (sa : Option Addr) (n sc : Nat) (w : World) (hn : 60 < n) :
    Calls Tryz.prog 32 #[.slice sa n sc] w fun e w' => e = .returned (.tuple #[.slice none 0 0, .int .i64 4]) ∧ w' = w := by
  have i1 : (60 : Int) < (n : Int) := by omega
  go_enter Tryz.func32, Tryz.ntmps32
  go_wp2
  go_ret2
  exact ⟨rfl, rfl⟩
end Go.Proofs.YtoknefeciopdpaaGreatDoor.wir.val
namespace Go.Proofs.YtoknefeciopdpaaGreatDoor.wir.val
open Go.RowKit Go.YtoknefeciopdpaaGreatDoor
set_option linter.unusedVariables false
def c64s (l : List Int) : Array Value := (l.map (Value.int .i64)).toArray
theorem c64s_set (l : List Int) (k : Nat) (x : Int) : (c64s l).setIfInBounds k (.int .i64 x) = c64s (l.set k x) := by
  unfold c64s
  apply Array.ext'
  simp [List.map_set]
theorem c64s_one (l : List Int) : (c64s l).all (·.oneCell') = true := by
  unfold c64s
  rw [List.all_toArray, List.all_map, List.all_eq_true]
  intro x _
  rfl
/-- How many of the first k have the verdict j. -/
def cnt (L : List (List Int)) (k j : Nat) : Nat := ((L.take k).filter fun l => decide (vd l = (j : Int))).length
def cP (L : List (List Int)) (k : Nat) : List Int := (List.range 10).map fun j => (cnt L k j : Int)
theorem cP_length (L : List (List Int)) (k : Nat) : (cP L k).length = 10 := by simp [cP]
theorem cP_zero (L : List (List Int)) : cP L 0 = [0, 0, 0, 0, 0, 0, 0, 0, 0, 0] := by
  unfold cP cnt
  simp only [List.take_zero, List.filter_nil, List.length_nil]
  rfl
theorem cnt_le (L : List (List Int)) (k j : Nat) : cnt L k j ≤ L.length := by
  unfold cnt
  have := List.length_filter_le (fun l => decide (vd l = (j : Int))) (L.take k)
  rw [List.length_take] at this
  omega
theorem cnt_step (L : List (List Int)) (k j : Nat) (hk : k < L.length) : cnt L (k + 1) j = cnt L k j + (if vd (nthL L k) = (j : Int) then 1 else 0) := by
  unfold cnt
  have e : nthL L k = L[k] := by unfold nthL; rw [List.getElem?_eq_getElem hk]; rfl
  rw [List.take_add_one, List.getElem?_eq_getElem hk, List.filter_append, List.length_append, e]
  congr 1
  simp only [Option.toList_some, List.filter_cons, List.filter_nil]
  by_cases h : vd L[k] = (j : Int)
  · rw [if_pos (by simpa using h), if_pos h]; rfl
  · rw [if_neg (by simpa using h), if_neg h]; rfl
theorem cP_set (L : List (List Int)) (k m : Nat) (hk : k < L.length) (hm : vd (nthL L k) = (m : Int)) (hm10 : m < 10) : (cP L k).set m ((cnt L k m : Int) + 1) = cP L (k + 1) := by
  have hg : ∀ k i, (cP L k)[i]? = if i < 10 then some (cnt L k i : Int) else none := fun k i => by
    unfold cP
    rw [List.getElem?_map]
    by_cases hi : i < 10
    · rw [List.getElem?_range hi, if_pos hi]; rfl
    · rw [if_neg hi, List.getElem?_eq_none (by rw [List.length_range]; omega)]; rfl
  apply List.ext_getElem?
  intro i
  rw [List.getElem?_set, cP_length, hg, hg]
  by_cases h : m = i
  · subst h
    rw [if_pos rfl, if_pos hm10, if_pos hm10, cnt_step L k m hk, if_pos hm]
    simp
  · rw [if_neg h]
    by_cases hi : i < 10
    · rw [if_pos hi, if_pos hi, cnt_step L k i hk, if_neg (by omega)]
      simp
    · rw [if_neg hi, if_neg hi]
theorem cP_cell (L : List (List Int)) (k m : Nat) (hm10 : m < 10) : (c64s (cP L k))[m]? = some (.int .i64 (cnt L k m : Int)) := by
  unfold c64s cP
  rw [List.getElem?_toArray, List.getElem?_map, List.getElem?_map, List.getElem?_range hm10]
  rfl
theorem info_cnt : (Tryz.prog.info? 63).map (·.size) = some 10 := by kernel_rfl
theorem vdm (l : List Int) : ∃ m : Nat, vd l = (m : Int) ∧ m ≤ 4 := ⟨(vd l).toNat, by have := vd_range l; omega, by have := vd_range l; omega⟩
set_option maxHeartbeats 4000000 in
set_option maxRecDepth 100000 in
theorem count_any (L : List (List Int)) (v : Value) (w : World) (hr : RdS w v L) (hb : ∀ i, Bytes (nthL L i)) (hn : L.length ≤ 60) (hG0 : GlobW w) :
    Calls Tryz.prog 33 #[v] w fun e w' => e = .returned (.tuple #[.agg (c64s (cP L L.length)), .int .i64 0]) ∧ Below w.heap.size w w' := by
  obtain ⟨sa, sc, rfl⟩ := hr.slice
  obtain ⟨W, hW⟩ : ∃ W, W = (w.alloc (.cells (c64s (cP L 0)) 63)).alloc (.cells (c64s (cP L 0)) 63) := ⟨_, rfl⟩
  have hS := Lib.hid (show Below w.heap.size w W by rw [hW]; exact ((Below.refl w.heap.size w).alloc (Nat.le_refl _) _).alloc (by simp) _)
  have r2 := Lib.hid (show W.heap[w.heap.size]? = some (.cells (c64s (cP L 0)) 63 (0, 0)) by rw [hW]; exact rowA w _ _)
  have r4 := Lib.hid (show W.heap[w.heap.size + 1]? = some (.cells (c64s (cP L 0)) 63 (0, 0)) by rw [hW]; exact hn2 w _ _)
  have hV := Lib.hid (verdicts_any L (.slice sa L.length sc) W (hr.mono hS.out) hb hn (hG0.mono hS.out))
  have i1 : ¬ (60 : Int) < (L.length : Int) := by omega
  have hset := Lib.hid (fun k m hk h1 h2 => cP_set L k m hk h1 h2)
  have hcl := Lib.hid (fun k m h => cP_cell L k m h)
  have hle := Lib.hid (fun k j => cnt_le L k j)
  have hvm := Lib.hid (fun k : Nat => vdm (nthL L k))
  have hz := Lib.hid (cP_zero L)
  have info := Lib.hid (show ∀ k, (Tryz.prog.info? 63).map (·.size) = some (c64s (cP L k)).size from fun k => by rw [info_cnt]; simp [c64s, cP_length])
  have hW2 : W.heap.size = w.heap.size + 2 := by rw [hW]; simp
  have hWs := Lib.hid hW2
  have hmap := Lib.hid (show ∀ k, k < L.length → (u8s (L.map vd))[k]? = some (.int .u8 (vd (nthL L k))) from fun k hk => by
    unfold u8s nthL
    rw [List.getElem?_toArray, List.getElem?_map, List.getElem?_map, List.getElem?_eq_getElem hk]
    rfl)
  clear hr hb hG0
  obtain ⟨n, hnL⟩ : ∃ n, L.length = n := ⟨_, rfl⟩
  rw [hnL] at hn hV i1 hle hmap hset ⊢
  clear hnL
  generalize L.map vd = R at *
  go_enter Tryz.func33, Tryz.ntmps33
  go_upto_region 1 with fail
  go_upto_region 4 with fail
  change Code.wp _ _ _ _ ((w.alloc (.cells (c64s [0, 0, 0, 0, 0, 0, 0, 0, 0, 0]) 63)).alloc (.cells (c64s [0, 0, 0, 0, 0, 0, 0, 0, 0, 0]) 63))
  rw [← hz.out, ← hW]
  clear hW hW2
  go_wp2_with (go_at_call 69; (with_reducible refine (hV.out).mono ?_); rintro e w2 ⟨rfl, h1, h2⟩; have hf := Lib.hid h1; have hb2 := Lib.hid h2; clear h1 h2)
  replace r2 := Lib.hid (rowB r2.out hb2.out (by have := hWs.out; omega))
  replace r4 := Lib.hid (rowB r4.out hb2.out (by have := hWs.out; omega))
  replace hS := Lib.hid (hS.out.trans (hb2.out.mono hS.out.size))
  clear hV
  obtain ⟨gf, hgf⟩ : ∃ g, g = W.heap.size := ⟨_, rfl⟩
  rw [← hgf] at hf ⊢
  have hgfs := Lib.hid (show w.heap.size + 1 < gf by have := hWs.out; omega)
  have hfl := Lib.hid (Array.getElem?_eq_some_iff.1 hf.out).1
  clear hgf hb2
  go_loopw [14] (fun i wr => ∃ k : Nat, k ≤ n ∧ i = .int .i64 k ∧ Below w.heap.size w wr ∧ wr.heap[w.heap.size + 1]? = some (.cells (c64s (cP L k)) 63 (0, 0)) ∧ wr.heap[w.heap.size]? = some (.cells (c64s (cP L 0)) 63 (0, 0)) ∧ wr.heap[gf]? = some (.cells (u8s R) 5 (0, 0))) (fun i _ => n - (intOf i).toNat)
  case atStart => exact ⟨0, Nat.zero_le _, rfl, hS.out, r4.out, r2.out, hf.out⟩
  case round =>
    obtain ⟨k, hk, rfl, hbk, q4, q2, qf⟩ := hrel
    have hbk := Lib.hid hbk; have q4 := Lib.hid q4; have q2 := Lib.hid q2; have qf := Lib.hid qf
    by_cases hlt : k < n
    · obtain ⟨m, hm, hm4⟩ := hvm.out k
      have cf : wr.cell? ⟨gf, k, none⟩ = some (.int .u8 (m : Int)) := by rw [cell_of_row _ _ _ _ _ _ qf.out, ← hm]; exact hmap.out k hlt
      have cm : wr.cell? ⟨w.heap.size + 1, m, none⟩ = some (.int .i64 (cnt L k m : Int)) := by rw [cell_of_row _ _ _ _ _ _ q4.out]; exact hcl.out k m (by omega)
      have fm := frozen_of_row _ _ m _ _ q4.out
      have hst := Lib.hid (hset.out k m hlt hm (by omega))
      have hc := Lib.hid (hle.out k m)
      have hkI : (k : Int) < (n : Int) := by omega
      have hwr : IntKind.i64.wrap ((cnt L k m : Int) + 1) = (cnt L k m : Int) + 1 := IntWalk.i64_in _ (by have := hc.out; omega)
      have hm10 : (m : Int) < 10 := by omega
      have hm10' : m < 10 := by omega
      clear hm
      generalize cnt L k m = cv at *
      go_wp2
      go_roundw
      case rel => exact ⟨k + 1, by omega, by go_num, hbk.out.setCell (p := ⟨w.heap.size + 1, m, none⟩) (Nat.le_succ _) _, by rw [← hst.out, ← c64s_set]; exact setCell_row q4.out m _, (setCell_rows _ _ _ _ (by omega)).trans q2.out, (setCell_rows _ _ _ _ (by have := hgfs.out; omega)).trans qf.out⟩
      case measure => simp [intOf]; omega
    · obtain rfl : k = n := by omega
      go_wp2_with (first
        | (refine wpList_load_row_g rfl 63 _ rfl (w.heap.size + 1) rfl 63 (c64s (cP L k)) (0, 0) _ q4.out Tryz.underlying63 rfl (info.out k) ?_)
        | (refine storeOver _ w.heap.size _ rfl 63 _ _ rfl (c64s (cP L k)) 63 q2.out rfl rfl (info.out k) (by simp [c64s, cP_length]) (c64s_one _) ?_; intro w9 hr9 hb9; have hr9' := Lib.hid hr9; have hb9' := Lib.hid hb9; clear hr9 hb9))
      exact bodyPost_ret (results_row_tmp rfl _ _ w.heap.size 63 _ _ _ rfl hr9'.out Tryz.underlying63 rfl (info.out k)) rfl ⟨rfl, hbk.out.trans hb9'.out⟩
end Go.Proofs.YtoknefeciopdpaaGreatDoor.wir.val
namespace Go.Proofs.YtoknefeciopdpaaGreatDoor.wir.val
open Go.RowKit Go.YtoknefeciopdpaaGreatDoor
set_option linter.unusedVariables false
set_option maxHeartbeats 2000000 in
set_option maxRecDepth 100000 in
theorem count_long (sa : Option Addr) (n sc : Nat) (w : World) (hn : 60 < n) :
    Calls Tryz.prog 33 #[.slice sa n sc] w fun e w' => e = .returned (.tuple #[.agg (c64s [0, 0, 0, 0, 0, 0, 0, 0, 0, 0]), .int .i64 4]) ∧ Below w.heap.size w w' := by
  have hS := Lib.hid ((Below.refl w.heap.size w).alloc (Nat.le_refl _) (.cells (c64s [0, 0, 0, 0, 0, 0, 0, 0, 0, 0]) 63 (0, 0)))
  have i1 : (60 : Int) < (n : Int) := by omega
  go_enter Tryz.func33, Tryz.ntmps33
  go_wp2
  exact bodyPost_ret (results_row_tmp rfl _ _ w.heap.size 63 (c64s [0, 0, 0, 0, 0, 0, 0, 0, 0, 0]) _ _ rfl (heap_alloc_new w _) Tryz.underlying63 rfl info_cnt) rfl ⟨rfl, hS.out⟩
end Go.Proofs.YtoknefeciopdpaaGreatDoor.wir.val
namespace Go.Proofs.YtoknefeciopdpaaGreatDoor.wir.val
open Go.RowKit Go.YtoknefeciopdpaaGreatDoor
set_option linter.unusedVariables false
theorem rOf8_w (l : List Int) (bv : Value) (w : World) (hr : RdB w bv l) (hl : Bytes l) (hlm : l.length ≤ 1000) :
    Calls Tryz.prog 38 #[bv] w fun e w' => ∃ (o : Od) (a : Option Addr) (n c : Nat) (D : List Int), D.length = 32 ∧ e = .returned (.tuple #[.agg (o.c (.slice a n c)), .agg (u8s D), .int .u8 (vd l)]) ∧ Below w.heap.size w w' := by
  refine (rOf8_any l bv w hr hl hlm).mono ?_
  rintro e w' ⟨hb, ⟨_, he⟩ | ⟨o, a, c, hv, _, _, _, he, _⟩⟩
  · exact ⟨zO, none, 0, 0, zerosB 32, zerosB_length _, he, hb⟩
  · exact ⟨o, a, o.n, c, shaF l, shaF_length _, by rw [hv]; exact he, hb⟩
theorem vT_step (L : List (List Int)) (k : Nat) (hk : k < L.length) : (L.take (k + 1)).map vd = (L.take k).map vd ++ [vd (nthL L k)] := by
  unfold nthL
  rw [List.take_add_one, List.getElem?_eq_getElem hk, List.map_append]
  rfl
theorem vT_len (L : List (List Int)) (k : Nat) (hk : k ≤ L.length) : ((L.take k).map vd).length = k := by
  rw [List.length_map, List.length_take]; omega
theorem vT_all (L : List (List Int)) : (L.take L.length).map vd = L.map vd := by rw [List.take_length]
set_option maxHeartbeats 4000000 in
set_option maxRecDepth 100000 in
theorem rmany_any (L : List (List Int)) (v : Value) (w : World) (hr : RdS w v L) (hb : ∀ i, Bytes (nthL L i)) (hm : ∀ i, (nthL L i).length ≤ 1000) (hn : L.length ≤ 60) :
    Calls Tryz.prog 42 #[v] w fun e w' => ∃ a c, e = .returned (.tuple #[.slice a L.length c, .int .i64 0]) ∧ OwnB w.heap.size 5 w' (.slice a L.length c) (L.map vd) ∧ Below w.heap.size w w' := by
  obtain ⟨sa, sc, rfl⟩ := hr.slice
  have hrw := Lib.hid hr
  have hbs := Lib.hid hb
  have hms := Lib.hid hm
  have hst := Lib.hid (fun k hk => vT_step L k hk)
  have hln := Lib.hid (fun k hk => vT_len L k hk)
  have hall := Lib.hid (vT_all L)
  have i1 : ¬ (60 : Int) < (L.length : Int) := by omega
  clear hr hb hm
  obtain ⟨n, hnL⟩ : ∃ n, L.length = n := ⟨_, rfl⟩
  have hnh := Lib.hid hnL
  rw [hnL] at hn hst hln hall i1 ⊢
  clear hnL
  go_enter Tryz.func42, Tryz.ntmps42
  go_wp2
  go_loopw [4, 5] (fun s i wr => ∃ k : Nat, k ≤ n ∧ i = .int .i64 k ∧ OwnB w.heap.size 5 wr s ((L.take k).map vd) ∧ Below w.heap.size w wr) (fun _ i _ => n - (intOf i).toNat)
  case atStart => exact ⟨0, Nat.zero_le _, rfl, OwnB.nil _ _ _, Below.refl _ _⟩
  case round =>
    obtain ⟨k, hk, rfl, ho, hbk⟩ := hrel
    obtain ⟨xa, xc, rfl⟩ := ho.rd.slice
    have ho' := Lib.hid ho; have hbk' := Lib.hid hbk
    have hlk := Lib.hid (hln.out k hk)
    rw [hlk.out] at ho' ⊢
    clear ho hbk
    by_cases hlt : k < n
    · have hat : ∃ b o s, sa = some ⟨b, o, none⟩ ∧ wr.cell? ⟨b, o + k, none⟩ = some s ∧ RdB wr s (nthL L k) := by
        rcases hrw.out.mono hbk'.out with ⟨_, _, _, _, rfl⟩ | ⟨b, o, c', hv, h1, h2, h3, h4⟩
        · have := hnh.out; simp at this; omega
        · obtain ⟨e1, _, _⟩ := Value.slice.inj hv
          subst e1
          obtain ⟨s, h5, h6⟩ := h4 k (by have := hnh.out; omega)
          exact ⟨b, o, s, rfl, h5, h6⟩
      obtain ⟨b, o, s, rfl, cs, rs⟩ := hat
      obtain ⟨ya, yc, rfl⟩ := rs.slice
      have hO := Lib.hid (rOf8_w (nthL L k) _ wr rs (hbs.out k) (hms.out k))
      have hst' := Lib.hid (hst.out k hlt)
      clear rs
      generalize vd (nthL L k) = V at *
      generalize (nthL L k).length = M at *
      have hkI : (k : Int) < (n : Int) := by omega
      go_upto_region 8 with (first
        | (go_at_call 38; (with_reducible refine (hO.out).mono ?_); rintro e w4 ⟨oo, qa, qn, qc, D, hD, rfl, h2⟩; have hb2 := Lib.hid h2; have di := Lib.hid (show (Tryz.prog.info? 42).map (·.size) = some (u8s D).size by rw [u8s_size, hD]; kernel_rfl); have ds := Lib.hid (show ∀ X : Array Value, X.size = 32 → X.size = (u8s D).size from fun X hX => by rw [hX, u8s_size, hD]); have ho4 := Lib.hid (ho'.out.kept h2); have hb4 := Lib.hid (hbk'.out.trans (h2.mono hbk'.out.size)); clear h2 hD)
        | (refine wpList_store_row rfl 32 _ _ rfl w4.heap.size (oo.c (.slice qa qn qc)) rfl rfl 32 _ (rowA w4 _ _) info_op rfl (op_one oo qa qn qc) ?_)
        | (refine storeOver _ (w4.heap.size + 1) _ rfl 42 _ _ rfl (u8s D) 42 ((setRow_other _ w4.heap.size (w4.heap.size + 1) _ (by omega)).trans (hn2 w4 _ _)) rfl rfl di.out (ds.out _ (by kernel_rfl)) (u8s_one _) ?_; intro wx hrx hbx0; have hbx := Lib.hid (show Below w4.heap.size w4 wx from (below_setRow' ((below_a w4 _).alloc (by simp) _) (Nat.le_refl _) _).trans (hbx0.mono (Nat.le_succ _))); have ho5 := Lib.hid (ho4.out.kept hbx.out); have hb5 := Lib.hid (hb4.out.trans (hbx.out.mono hb4.out.size)); clear hrx hbx0 hbx))
      have hox := Lib.hid (ho5.out.kept (below_a wx (.cells #[.int .u8 V] 5)))
      have hyx := Lib.hid (hb5.out.trans ((below_a wx (.cells #[.int .u8 V] 5)).mono hb5.out.size))
      have hnw := Lib.hid (rdB_row (cs := [V]) (heap_alloc_new wx (.cells (u8s [V]) 5)) 1 rfl (by decide))
      clear ho' hbk' ho4 hb4 ho5 hb5 hO
      go_wp2_with (refine appendB rfl _ _ 33 rfl w.heap.size 5 Tryz.underlying33 (by kernel_rfl) _ rfl _ hox.out _ rfl _ hnw.out (by rw [hlk.out]; simp; omega) hyx.out.size ?_)
      intro v' w6 h4 h5
      have h5' := Lib.hid (hyx.out.trans (hox.out.below h5 hyx.out.size))
      rw [← List.map_take, ← hst'.out] at h4
      have h4' := Lib.hid h4
      clear h4 h5
      refine Stop.go ?_
      go_wp2
      go_roundw
      case rel => exact ⟨k + 1, by omega, by go_num, h4'.out, h5'.out⟩
      case measure => simp [intOf]; omega
    · obtain rfl : k = n := by omega
      go_wp2
      go_ret2
      exact ⟨xa, xc, rfl, by rw [← hall.out]; exact ho'.out, hbk'.out⟩
end Go.Proofs.YtoknefeciopdpaaGreatDoor.wir.val
namespace Go.Proofs.YtoknefeciopdpaaGreatDoor.wir.val
open Go.RowKit Go.YtoknefeciopdpaaGreatDoor
set_option linter.unusedVariables false
set_option maxHeartbeats 2000000 in
set_option maxRecDepth 100000 in
theorem rmany_long (sa : Option Addr) (n sc : Nat) (w : World) (hn : 60 < n) :
    Calls Tryz.prog 42 #[.slice sa n sc] w fun e w' => e = .returned (.tuple #[.slice none 0 0, .int .i64 4]) ∧ w' = w := by
  have i1 : (60 : Int) < (n : Int) := by omega
  go_enter Tryz.func42, Tryz.ntmps42
  go_wp2
  go_ret2
  exact ⟨rfl, rfl⟩
set_option maxHeartbeats 4000000 in
set_option maxRecDepth 100000 in
theorem rcount_any (L : List (List Int)) (v : Value) (w : World) (hr : RdS w v L) (hb : ∀ i, Bytes (nthL L i)) (hm : ∀ i, (nthL L i).length ≤ 1000) (hn : L.length ≤ 60) :
    Calls Tryz.prog 43 #[v] w fun e w' => e = .returned (.tuple #[.agg (c64s (cP L L.length)), .int .i64 0]) ∧ Below w.heap.size w w' := by
  obtain ⟨sa, sc, rfl⟩ := hr.slice
  obtain ⟨W, hW⟩ : ∃ W, W = w.alloc (.cells (c64s (cP L 0)) 63) := ⟨_, rfl⟩
  have hS1 := Lib.hid (show Below w.heap.size w W by rw [hW]; exact below_a w _)
  have q2 := Lib.hid (show W.heap[w.heap.size]? = some (.cells (c64s (cP L 0)) 63 (0, 0)) by rw [hW]; exact heap_alloc_new w _)
  have hV := Lib.hid (rmany_any L (.slice sa L.length sc) W (hr.mono hS1.out) hb hm hn)
  have hz := Lib.hid (cP_zero L)
  have hset := Lib.hid (fun k m hk h1 h2 => cP_set L k m hk h1 h2)
  have hcl := Lib.hid (fun k m h => cP_cell L k m h)
  have hle := Lib.hid (fun k j => cnt_le L k j)
  have hvm := Lib.hid (fun k : Nat => vdm (nthL L k))
  have info := Lib.hid (show ∀ k, (Tryz.prog.info? 63).map (·.size) = some (c64s (cP L k)).size from fun k => by rw [info_cnt]; simp [c64s, cP_length])
  have hml := Lib.hid (show (L.map vd).length = L.length from by simp)
  have hmap := Lib.hid (show ∀ k, k < L.length → ith (L.map vd) k = vd (nthL L k) from fun k hk => by
    unfold ith nthL
    rw [List.getElem?_map, List.getElem?_eq_getElem hk]
    rfl)
  clear hr hb hm
  obtain ⟨n, hnL⟩ : ∃ n, L.length = n := ⟨_, rfl⟩
  rw [hnL] at hn hV hle hmap hset hml ⊢
  clear hnL
  generalize L.map vd = R at *
  go_enter Tryz.func43, Tryz.ntmps43
  go_upto_region 1 with fail
  change Code.wp _ _ _ _ (w.alloc (.cells (c64s [0, 0, 0, 0, 0, 0, 0, 0, 0, 0]) 63))
  rw [← hz.out, ← hW]
  clear hW
  go_upto_region 2 with (go_at_call 42; (with_reducible refine (hV.out).mono ?_); rintro e w2 ⟨ra, rc, rfl, h1, h2⟩; have hf := Lib.hid h1; have hS2 := Lib.hid (hS1.out.trans (h2.mono hS1.out.size)); have q3 := Lib.hid (rowB q2.out h2 (Array.getElem?_eq_some_iff.1 q2.out).1); clear h1 h2)
  go_upto_region 3 with fail
  change Code.wp _ _ _ _ (w2.alloc (.cells (c64s [0, 0, 0, 0, 0, 0, 0, 0, 0, 0]) 63))
  rw [← hz.out]
  have bA := below_a w2 (.cells (c64s (cP L 0)) 63)
  have a4 := Lib.hid (heap_alloc_new w2 (.cells (c64s (cP L 0)) 63))
  have a2 := Lib.hid (rowB q3.out bA (Array.getElem?_eq_some_iff.1 q3.out).1)
  have aS := Lib.hid (hS2.out.trans (bA.mono hS2.out.size))
  have aR := Lib.hid (hf.out.kept bA).rd
  have hlo := Lib.hid (show w.heap.size < w2.heap.size from (Array.getElem?_eq_some_iff.1 q3.out).1)
  have hcell := Lib.hid (show ∀ i, i < n → ∃ b o, ra = some ⟨b, o, none⟩ ∧ b < (w2.alloc (.cells (c64s (cP L 0)) 63)).heap.size ∧ b ≠ w2.heap.size ∧ (w2.alloc (.cells (c64s (cP L 0)) 63)).cell? ⟨b, o + i, none⟩ = some (.int .u8 (ith R i)) from fun i hi => by
    rcases hf.out.rd with ⟨_, _, h1, _, h2⟩ | ⟨b, o, c, h1, h2, h3, h4, h5⟩
    · have := hml.out; rw [h2] at this; simp at this; omega
    · obtain ⟨e1, _, _⟩ := Value.slice.inj h1
      exact ⟨b, o, e1, by simp; omega, by omega, (bA.cell (p := (⟨b, o + i, none⟩ : Addr)) h4).trans (h5 i (by have := hml.out; omega))⟩)
  clear bA q3 hS2 hf aR
  generalize w2.alloc (.cells (c64s (cP L 0)) 63) = w3 at *
  generalize w2.heap.size = g at *
  go_wp2
  go_loopw [7] (fun i wr => ∃ k : Nat, k ≤ n ∧ i = .int .i64 k ∧ Below w.heap.size w wr ∧ wr.heap[g]? = some (.cells (c64s (cP L k)) 63 (0, 0)) ∧ wr.heap[w.heap.size]? = some (.cells (c64s (cP L 0)) 63 (0, 0)) ∧ (∀ j, j ≠ g → wr.heap[j]? = w3.heap[j]?)) (fun i _ => n - (intOf i).toNat)
  case atStart => exact ⟨0, Nat.zero_le _, rfl, aS.out, a4.out, a2.out, fun _ _ => rfl⟩
  case round =>
    obtain ⟨k, hk, rfl, hbk, q4, q2, qf⟩ := hrel
    have hbk := Lib.hid hbk; have q4 := Lib.hid q4; have q2 := Lib.hid q2; have qf := Lib.hid qf
    by_cases hlt : k < n
    · obtain ⟨m, hm, hm4⟩ := hvm.out k
      obtain ⟨b, o, rfl, hbl, hbg, hc0⟩ := hcell.out k hlt
      have cf : wr.cell? ⟨b, o + k, none⟩ = some (.int .u8 (m : Int)) := by
        have h1 : wr.heap[b]? = w3.heap[b]? := qf.out b hbg
        rw [← hm, ← hmap.out k hlt, ← hc0]
        unfold World.cell?
        rw [h1]
      have cm : wr.cell? ⟨g, m, none⟩ = some (.int .i64 (cnt L k m : Int)) := by rw [cell_of_row _ _ _ _ _ _ q4.out]; exact hcl.out k m (by omega)
      have fm := frozen_of_row _ _ m _ _ q4.out
      have hst := Lib.hid (hset.out k m hlt hm (by omega))
      have hc := Lib.hid (hle.out k m)
      have hkI : (k : Int) < (n : Int) := by omega
      have hwr : IntKind.i64.wrap ((cnt L k m : Int) + 1) = (cnt L k m : Int) + 1 := IntWalk.i64_in _ (by have := hc.out; omega)
      have hm10 : (m : Int) < 10 := by omega
      have hm10' : m < 10 := by omega
      clear hm hc0
      generalize cnt L k m = cv at *
      go_wp2
      go_roundw
      case rel => exact ⟨k + 1, by omega, by go_num, hbk.out.setCell (p := ⟨g, m, none⟩) (Nat.le_of_lt hlo.out) _, by rw [← hst.out, ← c64s_set]; exact setCell_row q4.out m _, (setCell_rows _ _ _ _ (by have := hlo.out; omega)).trans q2.out, fun j hj => (setCell_rows _ _ _ _ hj).trans (qf.out j hj)⟩
      case measure => simp [intOf]; omega
    · obtain rfl : k = n := by omega
      go_wp2_with (first
        | (refine wpList_load_row_g rfl 63 _ rfl g rfl 63 (c64s (cP L k)) (0, 0) _ q4.out Tryz.underlying63 rfl (info.out k) ?_)
        | (refine storeOver _ w.heap.size _ rfl 63 _ _ rfl (c64s (cP L k)) 63 q2.out rfl rfl (info.out k) (by simp [c64s, cP_length]) (c64s_one _) ?_; intro w9 hr9 hb9; have hr9' := Lib.hid hr9; have hb9' := Lib.hid hb9; clear hr9 hb9))
      exact bodyPost_ret (results_row_tmp rfl _ _ w.heap.size 63 _ _ _ rfl hr9'.out Tryz.underlying63 rfl (info.out k)) rfl ⟨rfl, hbk.out.trans hb9'.out⟩
end Go.Proofs.YtoknefeciopdpaaGreatDoor.wir.val
namespace Go.Proofs.YtoknefeciopdpaaGreatDoor.wir.val
open Go.RowKit Go.YtoknefeciopdpaaGreatDoor
set_option linter.unusedVariables false
set_option maxHeartbeats 2000000 in
set_option maxRecDepth 100000 in
theorem rcount_long (sa : Option Addr) (n sc : Nat) (w : World) (hn : 60 < n) :
    Calls Tryz.prog 43 #[.slice sa n sc] w fun e w' => e = .returned (.tuple #[.agg (c64s [0, 0, 0, 0, 0, 0, 0, 0, 0, 0]), .int .i64 4]) ∧ Below w.heap.size w w' := by
  obtain ⟨W, hW⟩ : ∃ W, W = w.alloc (.cells (c64s [0, 0, 0, 0, 0, 0, 0, 0, 0, 0]) 63) := ⟨_, rfl⟩
  have hS1 := Lib.hid (show Below w.heap.size w W by rw [hW]; exact below_a w _)
  have q2 := Lib.hid (show W.heap[w.heap.size]? = some (.cells (c64s [0, 0, 0, 0, 0, 0, 0, 0, 0, 0]) 63 (0, 0)) by rw [hW]; exact heap_alloc_new w _)
  have hV := Lib.hid (rmany_long sa n sc W hn)
  clear hn
  go_enter Tryz.func43, Tryz.ntmps43
  go_upto_region 1 with fail
  change Code.wp _ _ _ _ (w.alloc (.cells (c64s [0, 0, 0, 0, 0, 0, 0, 0, 0, 0]) 63))
  rw [← hW]
  have hWs := Lib.hid (show w.heap.size < W.heap.size from (Array.getElem?_eq_some_iff.1 q2.out).1)
  clear hW
  go_upto_region 2 with (go_at_call 42; (with_reducible refine (hV.out).mono ?_); rintro e w2 ⟨rfl, rfl⟩)
  go_upto_region 3 with fail
  change Code.wp _ _ _ _ (w2.alloc (.cells (c64s [0, 0, 0, 0, 0, 0, 0, 0, 0, 0]) 63))
  have bA := below_a w2 (.cells (c64s [0, 0, 0, 0, 0, 0, 0, 0, 0, 0]) 63)
  have a4 := Lib.hid (heap_alloc_new w2 (.cells (c64s [0, 0, 0, 0, 0, 0, 0, 0, 0, 0]) 63))
  have a2 := Lib.hid (rowB q2.out bA (Array.getElem?_eq_some_iff.1 q2.out).1)
  have aS := Lib.hid (hS1.out.trans (bA.mono hS1.out.size))
  clear bA q2 hS1 hV
  generalize w2.alloc (.cells (c64s [0, 0, 0, 0, 0, 0, 0, 0, 0, 0]) 63) = w3 at *
  generalize w2.heap.size = g at *
  go_wp2
  go_loopw [7] (fun i wr => i = .int .i64 0 ∧ wr = w3) (fun _ _ => 0)
  case atStart => exact ⟨rfl, rfl⟩
  case round =>
    obtain ⟨rfl, rfl⟩ := hrel
    go_wp2_with (first
      | (refine wpList_load_row_g rfl 63 _ rfl g rfl 63 (c64s [0, 0, 0, 0, 0, 0, 0, 0, 0, 0]) (0, 0) _ a4.out Tryz.underlying63 rfl info_cnt ?_)
      | (refine storeOver _ w.heap.size _ rfl 63 _ _ rfl (c64s [0, 0, 0, 0, 0, 0, 0, 0, 0, 0]) 63 a2.out rfl rfl info_cnt rfl (c64s_one _) ?_; intro w9 hr9 hb9; have hr9' := Lib.hid hr9; have hb9' := Lib.hid hb9; clear hr9 hb9))
    exact bodyPost_ret (results_row_tmp rfl _ _ w.heap.size 63 _ _ _ rfl hr9'.out Tryz.underlying63 rfl info_cnt) rfl ⟨rfl, aS.out.trans hb9'.out⟩
def gr8 (L : List (List Int)) (w : World) (e : Ending) (w' : World) : Prop :=
  ∃ b, e = .returned (.bool b) ∧ w' = w ∧ (b = false ↔ (∀ i, i < L.length → (nthL L i).length ≤ 1000) ∧ (L.length ≤ 12 ∨ 60 < L.length ∧ L.length ≤ 100))
theorem gr8_yes {L : List (List Int)} {w : World} {e : Ending} (h : ¬ ((∀ i, i < L.length → (nthL L i).length ≤ 1000) ∧ (L.length ≤ 12 ∨ 60 < L.length ∧ L.length ≤ 100))) (he : e = .returned (.bool true)) : gr8 L w e w := ⟨true, he, rfl, (fun h1 => by cases h1), (fun h1 => absurd h1 h)⟩
theorem gr8_no {L : List (List Int)} {w : World} {e : Ending} (h : ∀ i, i < L.length → (nthL L i).length ≤ 1000) (h2 : L.length ≤ 12 ∨ 60 < L.length ∧ L.length ≤ 100) (he : e = .returned (.bool false)) : gr8 L w e w := ⟨false, he, rfl, fun _ => ⟨h, h2⟩, fun _ => rfl⟩
set_option maxHeartbeats 4000000 in
set_option maxRecDepth 100000 in
theorem rgreat8_any (L : List (List Int)) (v : Value) (w : World) (hr : RdS w v L) :
    Calls Tryz.prog 40 #[v] w (gr8 L w) := by
  obtain ⟨sa, sc, rfl⟩ := hr.slice
  have hrw := Lib.hid hr
  clear hr
  obtain ⟨n, hnL⟩ : ∃ n, L.length = n := ⟨_, rfl⟩
  have hnh := Lib.hid hnL
  rw [hnL]
  clear hnL
  go_enter Tryz.func40, Tryz.ntmps40
  go_wp2
  go_loopw [3] (fun i wr => wr = w ∧ ∃ k : Nat, k ≤ n ∧ k ≤ 101 ∧ i = .int .i64 k ∧ ∀ j, j < k → (nthL L j).length ≤ 1000) (fun i _ => n - (intOf i).toNat)
  case atStart => exact ⟨rfl, 0, Nat.zero_le _, by omega, rfl, fun j hj => by omega⟩
  case round =>
    obtain ⟨rfl, k, hk, hk1, rfl, hall⟩ := hrel
    have hal := Lib.hid hall
    clear hall
    by_cases hlt : k < n
    · have hkI : (k : Int) < (n : Int) := by omega
      by_cases h100 : k ≤ 100
      · have hkJ : (k : Int) ≤ 100 := by omega
        have hat : ∃ b o s, sa = some ⟨b, o, none⟩ ∧ wr.cell? ⟨b, o + k, none⟩ = some s ∧ RdB wr s (nthL L k) := by
          rcases hrw.out with ⟨_, _, _, _, rfl⟩ | ⟨b, o, c', hv, h1, h2, h3, h4⟩
          · have := hnh.out; simp at this; omega
          · obtain ⟨e1, _, _⟩ := Value.slice.inj hv
            subst e1
            obtain ⟨s, h5, h6⟩ := h4 k (by have := hnh.out; omega)
            exact ⟨b, o, s, rfl, h5, h6⟩
        obtain ⟨b, o, s, rfl, cs, rs⟩ := hat
        obtain ⟨ya, yc, rfl⟩ := rs.slice
        clear rs
        generalize hM : (nthL L k).length = M at *
        by_cases hbig : 1000 < M
        · have i2 : (1000 : Int) < (M : Int) := by omega
          have hMh := Lib.hid hM
          clear hM
          go_wp2
          go_ret
          exact gr8_yes (fun h => by have h1 := h.1 k (by have := hnh.out; omega); rw [hMh.out] at h1; omega) rfl
        · have i2 : ¬ (1000 : Int) < (M : Int) := by omega
          have hM' := Lib.hid hM
          clear hM
          go_wp2
          go_roundw
          case rel => exact ⟨by trivial, k + 1, by omega, by omega, by go_num, fun j hj => by
            rcases Nat.lt_or_ge j k with h | h
            · exact hal.out j h
            · obtain rfl : j = k := by omega
              rw [hM'.out]; omega⟩
          case measure => simp [intOf]; omega
      · have hkJ : ¬ (k : Int) ≤ 100 := by omega
        have j1 : (12 : Int) < (n : Int) := by omega
        have j2 : ¬ (n : Int) ≤ 60 := by omega
        have j3 : (100 : Int) < (n : Int) := by omega
        go_wp2
        go_ret
        exact gr8_yes (fun h => by have h1 := h.2; have := hnh.out; omega) rfl
    · obtain rfl : k = n := by omega
      by_cases h12 : 12 < k
      · have j1 : (12 : Int) < (k : Int) := by omega
        by_cases h60 : k ≤ 60
        · have j2 : (k : Int) ≤ 60 := by omega
          go_wp2
          go_ret
          exact gr8_yes (fun h => by have h1 := h.2; have := hnh.out; omega) rfl
        · have j2 : ¬ (k : Int) ≤ 60 := by omega
          by_cases h1 : 100 < k
          · have j3 : (100 : Int) < (k : Int) := by omega
            go_wp2
            go_ret
            exact gr8_yes (fun h => by have h1 := h.2; have := hnh.out; omega) rfl
          · have j3 : ¬ (100 : Int) < (k : Int) := by omega
            go_wp2
            go_ret
            exact gr8_no (fun i hi => hal.out i (by have := hnh.out; omega)) (.inr ⟨by have := hnh.out; omega, by have := hnh.out; omega⟩) rfl
      · have j1 : ¬ (12 : Int) < (k : Int) := by omega
        have j3 : ¬ (100 : Int) < (k : Int) := by omega
        go_wp2
        go_ret
        exact gr8_no (fun i hi => hal.out i (by have := hnh.out; omega)) (.inl (by have := hnh.out; omega)) rfl
end Go.Proofs.YtoknefeciopdpaaGreatDoor.wir.val
namespace Go.Proofs.YtoknefeciopdpaaGreatDoor.wir.val
open Go.RowKit Go.YtoknefeciopdpaaGreatDoor
set_option linter.unusedVariables false
set_option maxRecDepth 100000 in
theorem whole8 (L : List (List Int)) (v : Value) (w : World) (hr : RdS w v L) (hn : L.length ≤ 100) (hm : ∀ i, (nthL L i).length ≤ 10000) :
    Calls Tryz.prog 41 #[v] w fun e w' => ∃ a c, e = .returned (.slice a (flatN L L.length).length c) ∧ RdB w' (.slice a (flatN L L.length).length c) (flatN L L.length) ∧ Below w.heap.size w w' := by
  obtain ⟨sa, sc, rfl⟩ := hr.slice
  have hrw := Lib.hid hr
  have hfl := Lib.hid (fun k => flatN_length L hm k)
  clear hr hm
  obtain ⟨n, hnL⟩ : ∃ n, L.length = n := ⟨_, rfl⟩
  have hnh := Lib.hid hnL
  rw [hnL] at hn ⊢
  clear hnL
  go_enter Tryz.func41, Tryz.ntmps41
  go_wp2
  go_loopw [3, 4] (fun s i wr => ∃ k : Nat, k ≤ n ∧ i = .int .i64 k ∧ OwnB w.heap.size 5 wr s (flatN L k) ∧ Below w.heap.size w wr) (fun _ i _ => n - (intOf i).toNat)
  case atStart => exact ⟨0, Nat.zero_le _, rfl, OwnB.nil _ _ _, Below.refl _ _⟩
  case round =>
    obtain ⟨k, hk, rfl, ho, hb⟩ := hrel
    obtain ⟨xa, xc, rfl⟩ := ho.rd.slice
    have ho' := Lib.hid ho; have hb' := Lib.hid hb
    clear ho hb
    by_cases hlt : k < n
    · have hat : ∃ b o s, sa = some ⟨b, o, none⟩ ∧ wr.cell? ⟨b, o + k, none⟩ = some s ∧ RdB wr s (nthL L k) := by
        rcases hrw.out.mono hb'.out with ⟨_, _, _, _, rfl⟩ | ⟨b, o, c', hv, h1, h2, h3, h4⟩
        · have := hnh.out; simp at this; omega
        · obtain ⟨e1, _, _⟩ := Value.slice.inj hv
          subst e1
          obtain ⟨s, h5, h6⟩ := h4 k (by have := hnh.out; omega)
          exact ⟨b, o, s, rfl, h5, h6⟩
      obtain ⟨b, o, s, rfl, cs, rs⟩ := hat
      obtain ⟨ya, yc, rfl⟩ := rs.slice
      have hrs := Lib.hid rs
      clear rs
      have hl2 := Lib.hid (show (flatN L k).length + (nthL L k).length ≤ 140737488355328 by
        have h := hfl.out (k + 1)
        rw [flatN, List.length_append] at h
        omega)
      have hst := Lib.hid (show flatN L k ++ nthL L k = flatN L (k + 1) from rfl)
      have hkI : (k : Int) < (n : Int) := by omega
      go_wp2_with (refine appendB rfl _ _ 33 rfl w.heap.size 5 Tryz.underlying33 (by kernel_rfl) _ rfl _ ho'.out _ rfl _ hrs.out hl2.out hb'.out.size ?_)
      intro v' w6 h4 h5
      have h5' := Lib.hid (hb'.out.trans (ho'.out.below h5 hb'.out.size))
      rw [hst.out] at h4
      have h4' := Lib.hid h4
      clear h4 h5
      refine Stop.go ?_
      go_wp2
      go_roundw
      case rel => exact ⟨k + 1, by omega, by go_num, h4'.out, h5'.out⟩
      case measure => simp [intOf]; omega
    · obtain rfl : k = n := by omega
      go_wp2
      go_ret
      exact ⟨xa, xc, rfl, ho'.out.rd, hb'.out⟩
theorem c64s_get (l : List Int) (i : Nat) (h : i < l.length) : (c64s l)[i]? = some (.int .i64 (ith l i)) := by simp [c64s, ith, h]
theorem run_partC {P : Program} (w : World) (e : TypeId) (he : P.underlying e = some (.int .i64)) (l : List Int) (i : Nat) (h : i < l.length) : (part e (c64s l) i).run P w = .ok (.int .i64 (ith l i)) w := by
  simp [part, isAgg, run_underlying he, c64s_get l i h]
theorem eqLoopC {P : Program} (w : World) (d elem : Nat) (he : P.underlying elem = some (.int .i64)) (a b : List Int) (n : Nat) (ha : a.length = n) (hb : b.length = n) : ∀ m i, i + m = n →
    (forIn (List.range' i m) ((none, ()) : Option Bool × Unit) fun i __s => do
              let __do_lift ← part elem (c64s a) (i * 1)
              let __do_lift_1 ← part elem (c64s b) (i * 1)
              let __do_lift ← Op.equalIn (d + 1) elem __do_lift __do_lift_1
              if __do_lift = false then (pure (ForInStep.done (some false, ())) : Sem _) else pure (ForInStep.yield (none, ()))).run P w
      = .ok (if a.drop i = b.drop i then (none, ()) else (some false, ())) w := by
  intro m
  induction m with
  | zero => intro i hi; simp [List.drop_eq_nil_of_le, ha, hb, ← hi]
  | succ m ih =>
    intro i hi
    have h1 : i < a.length := by omega
    have h2 : i < b.length := by omega
    rw [List.range'_succ, List.forIn_cons]
    simp only [Nat.mul_one, Sem.run_bind, run_partC w elem he a i h1, run_partC w elem he b i h2, Result.andThen_ok, run_equalIn_int w d elem .i64 .i64 _ _ he]
    have key : (a.drop i = b.drop i) = (a[i] = b[i] ∧ a.drop (i + 1) = b.drop (i + 1)) := by rw [List.drop_eq_getElem_cons h1, List.drop_eq_getElem_cons h2, List.cons.injEq]
    simp only [key]
    have e1 : ith a i = a[i] := by simp [ith, h1]
    have e2 : ith b i = b[i] := by simp [ith, h2]
    rw [e1, e2]
    by_cases h : a[i] = b[i]
    · have ih' := ih (i + 1) (by omega)
      simp only [Nat.mul_one] at ih'
      simp only [h, true_and, beq_self_eq_true, Bool.true_eq_false, if_false, Sem.run_pure, Result.andThen_ok]
      exact ih'
    · simp [h]
theorem run_equalArrC {P : Program} (w : World) (d t elem n : Nat) (ht : P.underlying t = some (.array n elem)) (he : P.underlying elem = some (.int .i64)) (hs : (P.info? elem).map (·.size) = some 1)
    (a b : List Int) (ha : a.length = n) (hb : b.length = n) :
    (Op.equalIn (d + 2) t (.agg (c64s a)) (.agg (c64s b))).run P w = .ok (decide (a = b)) w := by
  have hinfo : ∃ i, P.info? elem = some i ∧ i.size = 1 := by
    cases h : P.info? elem with
    | none => simp [h] at hs
    | some i => exact ⟨i, rfl, by simpa [h] using hs⟩
  obtain ⟨i, hi, h1⟩ := hinfo
  have hsz : (sizeOf elem).run P w = .ok 1 w := by simp [sizeOf, typeInfo, hi, h1]
  rw [Op.equalIn]
  simp only [Sem.run_bind, run_underlying ht, Result.andThen_ok, hsz]
  have h := eqLoopC w d elem he a b n ha hb n 0 (by omega)
  simp at h ⊢
  rw [h]
  by_cases hab : a = b <;> simp [hab]
theorem run_eqArrC {P : Program} (w : World) (t elem n : Nat) (ht : P.underlying t = some (.array n elem)) (he : P.underlying elem = some (.int .i64)) (hs : (P.info? elem).map (·.size) = some 1)
    (a b : List Int) (ha : a.length = n) (hb : b.length = n) :
    (binOp .eql t (.agg (c64s a)) (.agg (c64s b))).run P w = .ok (.bool (decide (a = b))) w := by
  rw [run_eql_struct, run_equalArrC w 9998 t elem n ht he hs a b ha hb]
  rfl
theorem eqCnt (C : List Int) (hC : C.length = 10) (w : World) : (binOp .eql 63 (.agg (c64s C)) (.agg (c64s C))).run Tryz.prog w = .ok (.bool true) w := by
  rw [run_eqArrC (P := Tryz.prog) w 63 3 10 Tryz.underlying63 Tryz.underlying3 (by kernel_rfl) C C hC hC]
  simp
theorem cntGuard : Tryz.prog.eqGuardType Tryz.prog.depth 63 = false := by kernel_rfl
/-- What both sides answer to some list. -/
structure LA (L : List (List Int)) where
  R : List Int
  E : Int
  C : List Int
  hC : C.length = 10
  hR : R.length ≤ 60
  m : ∀ (w : World) (v : Value), RdS w v L → GlobW w → Calls Tryz.prog 32 #[v] w fun e w' => ∃ a c, e = .returned (.tuple #[.slice a R.length c, .int .i64 E]) ∧ RdB w' (.slice a R.length c) R ∧ Below w.heap.size w w'
  rm : ∀ (w : World) (v : Value), RdS w v L → Calls Tryz.prog 42 #[v] w fun e w' => ∃ a c, e = .returned (.tuple #[.slice a R.length c, .int .i64 E]) ∧ RdB w' (.slice a R.length c) R ∧ Below w.heap.size w w'
  c : ∀ (w : World) (v : Value), RdS w v L → GlobW w → Calls Tryz.prog 33 #[v] w fun e w' => e = .returned (.tuple #[.agg (c64s C), .int .i64 E]) ∧ Below w.heap.size w w'
  rc : ∀ (w : World) (v : Value), RdS w v L → Calls Tryz.prog 43 #[v] w fun e w' => e = .returned (.tuple #[.agg (c64s C), .int .i64 E]) ∧ Below w.heap.size w w'
theorem rd_none0 (w : World) : RdB w (.slice none 0 0) [] := .inl ⟨none, 0, rfl, fun _ => rfl, rfl⟩
theorem la_short (L : List (List Int)) (hb : ∀ i, Bytes (nthL L i)) (hm : ∀ i, (nthL L i).length ≤ 1000) (hn : L.length ≤ 60) : Nonempty (LA L) := by
  have e : (L.map vd).length = L.length := by simp
  refine ⟨⟨L.map vd, 0, cP L L.length, cP_length L _, by rw [e]; exact hn, fun w v hr hG => ?_, fun w v hr => ?_, fun w v hr hG => count_any L v w hr hb hn hG, fun w v hr => rcount_any L v w hr hb hm hn⟩⟩
  · refine (many_any L v w hr hb hn hG).mono ?_
    rintro e9 w' ⟨rfl, h1, h2⟩
    refine ⟨some ⟨w.heap.size, 0, none⟩, L.length, by rw [e], ?_, h2⟩
    rw [e]
    exact rdB_row h1 L.length e (by unfold maxLen; omega)
  · refine (rmany_any L v w hr hb hm hn).mono ?_
    rintro e9 w' ⟨a, c, rfl, h1, h2⟩
    exact ⟨a, c, by rw [e], by rw [e]; exact h1.rd, h2⟩
theorem la_long (L : List (List Int)) (hn : 60 < L.length) : Nonempty (LA L) := by
  refine ⟨⟨[], 4, [0, 0, 0, 0, 0, 0, 0, 0, 0, 0], rfl, by decide, fun w v hr hG => ?_, fun w v hr => ?_, fun w v hr hG => ?_, fun w v hr => ?_⟩⟩
  all_goals obtain ⟨sa, sc, rfl⟩ := hr.slice
  · refine (many_long sa _ sc w hn).mono ?_
    rintro e9 w' ⟨rfl, rfl⟩
    exact ⟨none, 0, rfl, rd_none0 _, Below.refl _ _⟩
  · refine (rmany_long sa _ sc w hn).mono ?_
    rintro e9 w' ⟨rfl, rfl⟩
    exact ⟨none, 0, rfl, rd_none0 _, Below.refl _ _⟩
  · exact count_long sa _ sc w hn
  · exact rcount_long sa _ sc w hn
end Go.Proofs.YtoknefeciopdpaaGreatDoor.wir.val
namespace Go.Proofs.YtoknefeciopdpaaGreatDoor.wir.val
open Go.RowKit Go.YtoknefeciopdpaaGreatDoor
set_option linter.unusedVariables false
set_option maxHeartbeats 8000000 in
set_option maxRecDepth 100000 in
theorem lists_law (L : List (List Int)) (v : Value) (w : World) (hr : RdS w v L) (hb : ∀ i, Bytes (nthL L i)) (hG0 : GlobW w) :
    Calls Tryz.prog 8 #[v] w fun e w' => e = .returned (.bool true) ∧ Below w.heap.size w w' := by
  have hgr := Lib.hid (rgreat8_any L v w hr)
  by_cases hbig : ¬ ((∀ i, i < L.length → (nthL L i).length ≤ 1000) ∧ (L.length ≤ 12 ∨ 60 < L.length ∧ L.length ≤ 100))
  · have hgt := Lib.hid (hgr.out.mono (R' := fun e w' => e = .returned (.bool true) ∧ w' = w) (by
      rintro e w' ⟨b, he, hw, h⟩
      cases b with
      | true => exact ⟨he, hw⟩
      | false => exact absurd (h.1 rfl) hbig))
    obtain ⟨sa, sc, rfl⟩ := hr.slice
    clear hgr hbig hr hb
    generalize L.length = n at *
    go_enter Tryz.func8, Tryz.ntmps8
    go_wp2_with (go_at_call 40; (with_reducible refine (hgt.out).mono ?_); rintro e9 w4 ⟨rfl, rfl⟩)
    go_ret
    exact ⟨rfl, Below.refl _ _⟩
  · obtain ⟨hm0, hn⟩ := Classical.not_not.1 hbig
    clear hbig
    have hm : ∀ i, (nthL L i).length ≤ 1000 := fun i => by
      rcases Nat.lt_or_ge i L.length with h | h
      · exact hm0 i h
      · unfold nthL; rw [List.getElem?_eq_none h]; simp
    obtain ⟨la⟩ : Nonempty (LA L) := by
      rcases hn with h | h
      · exact la_short L hb hm (by omega)
      · exact la_long L h.1
    obtain ⟨R, E, C, hC, hRl, m, rm, c, rc⟩ := la
    have hn100 : L.length ≤ 100 := by omega
    have hW := Lib.hid (fun (wz : World) (h : RdS wz v L) => whole8 L v wz h hn100 (fun i => Nat.le_trans (hm i) (by decide)))
    have hwl : (flatN L L.length).length ≤ 140737488355328 := by
      have := flatN_length L (fun i => Nat.le_trans (hm i) (by decide)) L.length
      omega
    have hRm := Lib.hid (show R.length ≤ 140737488355328 by omega)
    have hwl := Lib.hid hwl
    generalize flatN L L.length = F at *
    have m := Lib.hid m; have rm := Lib.hid rm; have c := Lib.hid c; have rc := Lib.hid rc
    have info := Lib.hid (show (Tryz.prog.info? 63).map (·.size) = some (c64s C).size by rw [info_cnt]; simp [c64s, hC])
    have hsz := Lib.hid (show ∀ X : Array Value, X.size = 10 → X.size = (c64s C).size from fun X hX => by rw [hX]; simp [c64s, hC])
    have heq := Lib.hid (fun wz => eqCnt C hC wz)
    have hgf := Lib.hid (hgr.out.mono (R' := fun e w' => e = .returned (.bool false) ∧ w' = w) (by
      rintro e w' ⟨b, he, hw, h⟩
      exact ⟨by rw [he, h.2 ⟨hm0, hn⟩], hw⟩))
    have hS := Lib.hid (Below.refl w.heap.size w)
    have hR := Lib.hid hr
    have hGw := Lib.hid hG0
    obtain ⟨sa, sc, rfl⟩ := hr.slice
    have hR4 := Lib.hid (fun (wz : World) (v1 v2 : Value) (h1 : RdB wz v1 R) (h2 : RdB wz v2 R) => same_true v1 v2 R wz hRm.out h1 h2)
    have hF4 := Lib.hid (fun (wz : World) (v1 v2 : Value) (h1 : RdB wz v1 F) (h2 : RdB wz v2 F) => same_true v1 v2 F wz hwl.out h1 h2)
    clear hgr hm0 hn hm hn100 hC hRl hr hb hG0 hRm hwl
    generalize L.length = n at *
    generalize R.length = NR at *
    generalize F.length = NF at *
    go_enter Tryz.func8, Tryz.ntmps8
    go_upto_region 4 with (first | (go_at_call 40; (with_reducible refine (hgf.out).mono ?_); rintro e9 w4 ⟨rfl, rfl⟩) | (go_at_call 41; (with_reducible refine (hW.out _ hR.out).mono ?_); rintro e9 w4 ⟨ya, yc, rfl, q1, q2⟩; (try replace hR := Lib.hid (hR.out.mono q2)); (try replace hGw := Lib.hid (hGw.out.mono q2)); (try replace hB := Lib.hid (hB.out.mono q2)); (try replace h4 := Lib.hid (h4.out.mono q2)); (try replace h6 := Lib.hid (h6.out.mono q2)); (try replace r8 := Lib.hid (rowB r8.out q2 (Array.getElem?_eq_some_iff.1 r8.out).1)); (try replace r10 := Lib.hid (rowB r10.out q2 (Array.getElem?_eq_some_iff.1 r10.out).1)); replace hS := Lib.hid (hS.out.trans (Below.mono q2 hS.out.size)); have hB := Lib.hid q1; clear q1; clear q2))
    go_upto_region 5 with (go_at_call 32; (with_reducible refine (m.out _ _ hR.out hGw.out).mono ?_); rintro e9 w4 ⟨ma, mc, rfl, q1, q2⟩; (try replace hR := Lib.hid (hR.out.mono q2)); (try replace hGw := Lib.hid (hGw.out.mono q2)); (try replace hB := Lib.hid (hB.out.mono q2)); (try replace h4 := Lib.hid (h4.out.mono q2)); (try replace h6 := Lib.hid (h6.out.mono q2)); (try replace r8 := Lib.hid (rowB r8.out q2 (Array.getElem?_eq_some_iff.1 r8.out).1)); (try replace r10 := Lib.hid (rowB r10.out q2 (Array.getElem?_eq_some_iff.1 r10.out).1)); replace hS := Lib.hid (hS.out.trans (Below.mono q2 hS.out.size)); have h4 := Lib.hid q1; clear q1; clear q2)
    go_upto_region 6 with (go_at_call 42; (with_reducible refine (rm.out _ _ hR.out).mono ?_); rintro e9 w4 ⟨na, nc, rfl, q1, q2⟩; (try replace hR := Lib.hid (hR.out.mono q2)); (try replace hGw := Lib.hid (hGw.out.mono q2)); (try replace hB := Lib.hid (hB.out.mono q2)); (try replace h4 := Lib.hid (h4.out.mono q2)); (try replace h6 := Lib.hid (h6.out.mono q2)); (try replace r8 := Lib.hid (rowB r8.out q2 (Array.getElem?_eq_some_iff.1 r8.out).1)); (try replace r10 := Lib.hid (rowB r10.out q2 (Array.getElem?_eq_some_iff.1 r10.out).1)); replace hS := Lib.hid (hS.out.trans (Below.mono q2 hS.out.size)); have h6 := Lib.hid q1; clear q1; clear q2)
    go_upto_region 7 with (first | (go_at_call 33; (with_reducible refine (c.out _ _ hR.out hGw.out).mono ?_); rintro e9 w4 ⟨rfl, q2⟩; (try replace hR := Lib.hid (hR.out.mono q2)); (try replace hGw := Lib.hid (hGw.out.mono q2)); (try replace hB := Lib.hid (hB.out.mono q2)); (try replace h4 := Lib.hid (h4.out.mono q2)); (try replace h6 := Lib.hid (h6.out.mono q2)); (try replace r8 := Lib.hid (rowB r8.out q2 (Array.getElem?_eq_some_iff.1 r8.out).1)); (try replace r10 := Lib.hid (rowB r10.out q2 (Array.getElem?_eq_some_iff.1 r10.out).1)); replace hS := Lib.hid (hS.out.trans (Below.mono q2 hS.out.size)); skip; clear q2) | (refine storeNew _ rfl 63 _ _ rfl (c64s C) 63 rfl rfl info.out (hsz.out _ rfl) (c64s_one _) ?_; intro wx hrx hbx; (try replace hR := Lib.hid (hR.out.mono hbx)); (try replace hGw := Lib.hid (hGw.out.mono hbx)); (try replace hB := Lib.hid (hB.out.mono hbx)); (try replace h4 := Lib.hid (h4.out.mono hbx)); (try replace h6 := Lib.hid (h6.out.mono hbx)); (try replace r8 := Lib.hid (rowB r8.out hbx (Array.getElem?_eq_some_iff.1 r8.out).1)); (try replace r10 := Lib.hid (rowB r10.out hbx (Array.getElem?_eq_some_iff.1 r10.out).1)); replace hS := Lib.hid (hS.out.trans (Below.mono hbx hS.out.size)); have r8 := Lib.hid hrx; clear hrx hbx))
    go_upto_region 8 with (first | (go_at_call 43; (with_reducible refine (rc.out _ _ hR.out).mono ?_); rintro e9 w4 ⟨rfl, q2⟩; (try replace hR := Lib.hid (hR.out.mono q2)); (try replace hGw := Lib.hid (hGw.out.mono q2)); (try replace hB := Lib.hid (hB.out.mono q2)); (try replace h4 := Lib.hid (h4.out.mono q2)); (try replace h6 := Lib.hid (h6.out.mono q2)); (try replace r8 := Lib.hid (rowB r8.out q2 (Array.getElem?_eq_some_iff.1 r8.out).1)); (try replace r10 := Lib.hid (rowB r10.out q2 (Array.getElem?_eq_some_iff.1 r10.out).1)); replace hS := Lib.hid (hS.out.trans (Below.mono q2 hS.out.size)); skip; clear q2) | (refine storeNew _ rfl 63 _ _ rfl (c64s C) 63 rfl rfl info.out (hsz.out _ rfl) (c64s_one _) ?_; intro wx hrx hbx; (try replace hR := Lib.hid (hR.out.mono hbx)); (try replace hGw := Lib.hid (hGw.out.mono hbx)); (try replace hB := Lib.hid (hB.out.mono hbx)); (try replace h4 := Lib.hid (h4.out.mono hbx)); (try replace h6 := Lib.hid (h6.out.mono hbx)); (try replace r8 := Lib.hid (rowB r8.out hbx (Array.getElem?_eq_some_iff.1 r8.out).1)); (try replace r10 := Lib.hid (rowB r10.out hbx (Array.getElem?_eq_some_iff.1 r10.out).1)); replace hS := Lib.hid (hS.out.trans (Below.mono hbx hS.out.size)); have r10 := Lib.hid hrx; clear hrx hbx))
    go_wp2_with (first | (go_at_call 19; (with_reducible refine (hR4.out _ _ _ h4.out h6.out).mono ?_); rintro e9 w4 ⟨rfl, q2⟩; (try replace hR := Lib.hid (hR.out.mono q2)); (try replace hGw := Lib.hid (hGw.out.mono q2)); (try replace hB := Lib.hid (hB.out.mono q2)); (try replace h4 := Lib.hid (h4.out.mono q2)); (try replace h6 := Lib.hid (h6.out.mono q2)); (try replace r8 := Lib.hid (rowB r8.out q2 (Array.getElem?_eq_some_iff.1 r8.out).1)); (try replace r10 := Lib.hid (rowB r10.out q2 (Array.getElem?_eq_some_iff.1 r10.out).1)); replace hS := Lib.hid (hS.out.trans (Below.mono q2 hS.out.size)); skip; clear q2) | (refine wpList_load_row_g rfl 63 _ rfl _ rfl 63 (c64s C) (0, 0) _ r8.out Tryz.underlying63 rfl info.out ?_) | (refine wpList_load_row_g rfl 63 _ rfl _ rfl 63 (c64s C) (0, 0) _ r10.out Tryz.underlying63 rfl info.out ?_) | (refine wpList_eqlS rfl 63 _ _ rfl (c64s C) (c64s C) rfl rfl cntGuard true (heq.out _) ?_) | (go_at_call 41; (with_reducible refine (hW.out _ hR.out).mono ?_); rintro e9 w4 ⟨za, zc, rfl, q1, q2⟩; (try replace hR := Lib.hid (hR.out.mono q2)); (try replace hGw := Lib.hid (hGw.out.mono q2)); (try replace hB := Lib.hid (hB.out.mono q2)); (try replace h4 := Lib.hid (h4.out.mono q2)); (try replace h6 := Lib.hid (h6.out.mono q2)); (try replace r8 := Lib.hid (rowB r8.out q2 (Array.getElem?_eq_some_iff.1 r8.out).1)); (try replace r10 := Lib.hid (rowB r10.out q2 (Array.getElem?_eq_some_iff.1 r10.out).1)); replace hS := Lib.hid (hS.out.trans (Below.mono q2 hS.out.size)); have hB2 := Lib.hid q1; clear q1; clear q2) | (go_at_call 19; (with_reducible refine (hF4.out _ _ _ hB2.out hB.out).mono ?_); rintro e9 w4 ⟨rfl, q2⟩; (try replace hR := Lib.hid (hR.out.mono q2)); (try replace hGw := Lib.hid (hGw.out.mono q2)); (try replace hB := Lib.hid (hB.out.mono q2)); (try replace h4 := Lib.hid (h4.out.mono q2)); (try replace h6 := Lib.hid (h6.out.mono q2)); (try replace r8 := Lib.hid (rowB r8.out q2 (Array.getElem?_eq_some_iff.1 r8.out).1)); (try replace r10 := Lib.hid (rowB r10.out q2 (Array.getElem?_eq_some_iff.1 r10.out).1)); replace hS := Lib.hid (hS.out.trans (Below.mono q2 hS.out.size)); skip; clear q2))
    go_ret
    exact ⟨rfl, hS.out⟩
end Go.Proofs.YtoknefeciopdpaaGreatDoor.wir.val
namespace Go.Proofs.YtoknefeciopdpaaGreatDoor.wir.val
open Go.ChangeShapes Go.WideShapes Go.ChangeAt Go.WideMaps Go.WideElems Go.RowKit Go.Joins Go.YtoknefeciopdpaaGreatDoor
set_option linter.unusedVariables false
theorem nthL_pre8 (L M : List (List Int)) (i : Nat) (h : i < L.length) : nthL (L ++ M) i = nthL L i := by
  unfold nthL
  rw [List.getElem?_append_left h]
theorem nthL_last8 (L : List (List Int)) (s : List Int) : nthL (L ++ [s]) L.length = s := by
  unfold nthL
  simp
theorem nthL_out8 (L : List (List Int)) (i : Nat) (h : L.length ≤ i) : nthL L i = [] := by
  unfold nthL
  rw [List.getElem?_eq_none h]
  rfl
theorem nthL_snoc8 {p : List Int → Prop} (L : List (List Int)) (s : List Int) (h0 : p []) (h1 : ∀ i, p (nthL L i)) (h2 : p s) (i : Nat) : p (nthL (L ++ [s]) i) := by
  rcases Nat.lt_trichotomy i L.length with h | h | h
  · rw [nthL_pre8 _ _ _ h]; exact h1 i
  · rw [h, nthL_last8]; exact h2
  · rw [nthL_out8 _ _ (by simp; omega)]; exact h0
theorem num_nil8 : nthL [] = fun _ => [] := by funext i; simp [nthL]
section
variable {H : Type} {enc : TypeId × Value → H} {P : Program} {W : World}
theorem addr_add_spot8 (a : Addr) (j k : Nat) : (a.add j).add k = a.add (j + k) := by
  by_cases hj : j = 0
  · subst hj; simp [Addr.add]
  · by_cases hk : k = 0
    · subst hk; simp [Addr.add]
    · simp [Addr.add, hj, hk, Nat.add_assoc]
theorem trod_strs {t e e8 : TypeId} (ht : P.underlying t = some (.slice e)) (he : P.underlying e = some (.slice e8)) (he8 : P.underlying e8 = some (.int .u8)) (hc8 : P.cellsOf e8 = 1) (hc : P.cellsOf e = 1) {fuel : Nat} {cs : List Value} {x : DataW H × List MemPlace}
    (h : DataW.trod enc P W 0 (fun _ => true) true fuel t cs = some x) : ∃ v L, cs = [v] ∧ RdS W v L ∧ ∀ i, Bytes (nthL L i) := by
  rcases DataW.trod_slice ht h with ⟨rfl, _⟩ | ⟨a, len, cap, elems, rest, m, _, rfl, _, hb, hl, hm, hlen, hel, _, _⟩
  · exact ⟨_, [], rfl, (.inl ⟨none, 0, rfl, fun _ => rfl, rfl⟩), fun i => by rw [num_nil8]; exact bytes_nil⟩
  · have each : ∀ i, i < len → ∃ s l, W.cell? (a.add i) = some s ∧ RdB W s l ∧ Bytes l := by
      intro i hi
      have h1 := hel i hi
      have hy : elems[i]? = some elems[i] := List.getElem?_eq_getElem (by omega)
      rw [hc, hy, Option.bind_eq_some_iff] at h1
      obtain ⟨cs', hcs, hy'⟩ := h1
      obtain ⟨s, l, rfl, e2, e3⟩ := trod_bytes he he8 hc8 hy'
      have hcell := (World.cells?_some hcs).2.2 0 (by decide)
      rw [addr_add_spot8, Nat.add_zero, Nat.mul_one] at hcell
      exact ⟨s, l, hcell, e2, e3⟩
    have build : ∀ k, k ≤ len → ∃ L : List (List Int), L.length = k ∧ (∀ i, Bytes (nthL L i)) ∧ ∀ i, i < k → ∃ s, W.cell? (a.add i) = some s ∧ RdB W s (nthL L i) := by
      intro k
      induction k with
      | zero => intro _; exact ⟨[], rfl, fun i => by rw [num_nil8]; exact bytes_nil, fun i hi => by omega⟩
      | succ k ih =>
        intro hk
        obtain ⟨L, f1, f2, f3⟩ := ih (by omega)
        obtain ⟨s, l, k1, k2, k3⟩ := each k (by omega)
        refine ⟨L ++ [l], by simp [f1], nthL_snoc8 (p := Bytes) _ _ bytes_nil f2 k3, fun i hi => ?_⟩
        rcases Nat.lt_or_ge i k with h | h
        · rw [nthL_pre8 _ _ _ (by omega)]; exact f3 i h
        · obtain rfl : i = k := by omega
          rw [show nthL (L ++ [l]) i = l by rw [← f1]; exact nthL_last8 L l]
          exact ⟨s, k1, k2⟩
    obtain ⟨L, f1, f2, f3⟩ := build len (Nat.le_refl _)
    by_cases h0 : len = 0
    · subst h0
      obtain rfl : L = [] := List.eq_nil_of_length_eq_zero f1
      exact ⟨_, [], rfl, .inl ⟨some a, cap, rfl, (fun h => by cases h), rfl⟩, f2⟩
    · obtain ⟨b, o, spot⟩ := a
      obtain ⟨s0, hs0, _⟩ := f3 0 (by omega)
      have hspot : spot = none := by simpa [Addr.add] using World.cell?_spot hs0
      subst hspot
      refine ⟨_, L, rfl, .inr ⟨b, o, cap, by rw [f1], by rw [f1]; exact hl, hm, World.block_lt_of_cell? _ _ hs0, fun i hi => ?_⟩, f2⟩
      rw [f1] at hi
      have := f3 i hi
      rw [addr_add] at this
      exact this
theorem open_strs0 {t e e8 : TypeId} {v : Value} {d : DataW H} {p : List MemPlace} (ht : P.underlying t = some (.slice e)) (he : P.underlying e = some (.slice e8)) (he8 : P.underlying e8 = some (.int .u8)) (hc8 : P.cellsOf e8 = 1) (hc : P.cellsOf e = 1)
    {r : Reach} {b0 : Nat} (hv : Value.okWide P W r b0 t v) (h : DataW.Trod enc P W 0 (fun _ => true) true t v d p) : ∃ L, RdS W v L ∧ ∀ i, Bytes (nthL L i) := by
  obtain ⟨fuel, hf⟩ := h
  obtain ⟨v', L, h1, h2, h3⟩ := trod_strs ht he he8 hc8 hc hf
  refine ⟨L, ?_, h3⟩
  unfold Value.okWide at hv
  rw [ht] at hv
  simp only [Cell.okWide, ht] at hv
  cases v <;> simp [Cell.ok, ht] at hv
  simp [Value.cells] at h1
  rw [h1]; exact h2
set_option maxRecDepth 10000 in
theorem open_strs {v : Value} {d : DataW H} {p : List MemPlace} {r : Reach} {b0 : Nat} (hv : Value.okWide Tryz.prog W r b0 62 v) (h : DataW.Trod enc Tryz.prog W 0 (fun _ => true) true 62 v d p) :
    ∃ L, RdS W v L ∧ ∀ i, Bytes (nthL L i) :=
  open_strs0 Tryz.underlying62 Tryz.underlying33 Tryz.underlying5 (by kernel_rfl) (by kernel_rfl) hv h
end
end Go.Proofs.YtoknefeciopdpaaGreatDoor.wir.val
namespace Go.Proofs.YtoknefeciopdpaaGreatDoor.wir.val.judgeLists
open Go.ChangeShapes Go.WideShapes Go.ChangeAt Go.WideMaps Go.WideElems Go.RowKit Go.YtoknefeciopdpaaGreatDoor
set_option linter.unusedVariables false
theorem readable : ∀ t ∈ Tryz.f8.params.toList, Tryz.prog.readableRec t = true ∧ t < Tryz.prog.types.size := by
  have h : (Tryz.f8.params.toList.all fun t => Tryz.prog.readableRec t && decide (t < Tryz.prog.types.size)) = true := by kernel_rfl
  intro t ht
  simpa using List.all_eq_true.1 h t ht
set_option maxRecDepth 100000 in
theorem lifted (os : Os) (started : os.Started) (H : Type) (enc : TypeId × Value → H) :
    ReturnsInHanded {} Tryz.checked os 8 .any (fun w args => (Rows.judgeListsSpec.pre enc Tryz.prog Tryz.f8 [] false w args ∧ laidMetH Tryz.prog laidL w) ∧ sizedMet enc Tryz.prog Tryz.f8 (OpenSpec.ofChange Rows.judgeListsSpec) false w args)
      (Rows.judgeListsSpec.post enc Tryz.prog Tryz.f8 false true false false) := by
  refine returnsInHanded_of_change_and (C := Tryz.checked) (X := fun w _ => laidMetH Tryz.prog laidL w) (fun _ _ _ hh h => h.of_heap hh) own started (by kernel_rfl) Tryz.func8
    (ChangeSpec.witness_shaped (enc := enc) (C := Tryz.checked) (os := os) (X := fun w _ => laidMetH Tryz.prog laidL w) false (World.doorLaid Tryz.prog 400 os) #[.slice none 0 0] 8 rfl (World.shaped_of_RefB (by kernel_rfl) (by kernel_rfl)) (by kernel_rfl) (by kernel_rfl) (by kernel_rfl) (door_met os _)) ?_
  intro W base args ds gs before hval0 hW _ _ hL _
  have hval : ∀ (j : Nat) t v, Tryz.f8.params[j]? = some t → args[j]? = some v → Value.okWide Tryz.prog W .any base t v := hval0
  have hW' := hW
  obtain ⟨p, q, hA0, hV, rfl, hfz, hnd⟩ := hW
  have hA : DataW.TrodAll enc Tryz.prog W 0 (fun _ => true) true Tryz.f8.params.toList args.toList ds p := hA0
  rw [Tryz.params8] at hA hval
  obtain ⟨v0, vs0, d0, ds0, p0, q0, hargs, rfl, rfl, h0, r0⟩ := trodAll_cons hA
  obtain ⟨rfl, rfl, rfl⟩ := trodAll_nil r0
  obtain rfl : args = #[v0] := by cases args; simp_all
  obtain ⟨rfl, rfl⟩ := trodVars_none hV
  obtain ⟨L0, rd0, bytes0⟩ := open_strs (hval 0 62 v0 rfl rfl) h0
  clear hA0 hval0
  obtain ⟨Tg, Tf, hl1, hl2⟩ := of_laid hL
  have hG : GlobW W := ⟨Tg, Tf, hl1, hl2⟩
  refine (lists_law L0 _ W rd0 bytes0 hG).mono fun e W' ⟨he, hb⟩ => ?_
  subst he
  exact ⟨_, rfl, law_post laidOut readable (by kernel_rfl) hW' hb (fun _ _ _ => trodAll_mk1 (shut_bool Tryz.underlying4 _)) rfl rfl⟩
theorem holds : Rows.JudgeListsSaid :=
  OpenClaim.holds_of_wide 8 Tryz.f8 rfl rfl rfl rfl rfl rfl rfl ⟨rfl, rfl, rfl, rfl, rfl⟩ rfl rfl rfl rfl rfl (by kernel_rfl) Tryz.func8 (by kernel_rfl)
    (of_decide_eq_true (by kernel_rfl)) (by unfold Func.isWrapper; first | (rw [if_pos (by decide +kernel)]; kernel_rfl) | (rw [if_neg (by decide +kernel)]; exact ⟨rfl, rfl⟩))
    (fun os started H enc _ => lifted os started H enc)
theorem proved : Rows.JudgeListsCardSaid :=
  Claim7.holds_tied_plain_at .later [] [.data, .data] true _ false
    holds (fun _ h => by cases h) (by kernel_rfl) (fun _ h => by cases h) judgeLists_row_tie rfl ⟨rfl, rfl⟩ (by kernel_rfl) rfl
    (fun f fn hf hfn => by
      obtain rfl : f = 8 := Option.some.inj ((show Tryz.prog.funcNamed "braid/braidlaw08.JudgeLists" = some 8 by kernel_rfl).symm.trans hf) |>.symm
      obtain rfl : fn = Tryz.f8 := (Option.some.inj (Tryz.func8.symm.trans hfn)).symm
      exact ⟨by kernel_rfl, fun j t ht => by
        have hall : (Tryz.f8.params.toList.all fun u => !Tryz.prog.wantsStandIn u) = true := by kernel_rfl
        have hm : t ∈ Tryz.f8.params.toList := Array.mem_toList_iff.2 (Array.mem_of_getElem? ht)
        exact (show Tryz.prog.wantsStandIn t = false by simpa using List.all_eq_true.1 hall t hm)⟩)
    (by kernel_rfl)
#print axioms proved
end Go.Proofs.YtoknefeciopdpaaGreatDoor.wir.val.judgeLists

/- Texts that the row stands on, part 8. -/
import Derived.Test.YtfaojjleapenaabGreatDoorRTopSq07
namespace Go.Proofs.YtfaojjleapenaabGreatDoor.wir.val
open Go.RowKit Go.YtfaojjleapenaabGreatDoor
set_option linter.unusedVariables false
/-- A slice of slices of bytes that reads as' L (an empty one may have any address). -/
def RdS (w : World) (v : Value) (L : List (List Int)) : Prop :=
  (∃ a c, v = .slice a 0 c ∧ (a = none → c = 0) ∧ L = []) ∨ ∃ b o c, v = .slice (some ⟨b, o, none⟩) L.length c ∧ L.length ≤ c ∧ c ≤ maxLen ∧ b < w.heap.size ∧ ∀ i, i < L.length → ∃ s, w.cell? ⟨b, o + i, none⟩ = some s ∧ RdB w s (nthL L i)
theorem RdS.mono {w w' : World} {v : Value} {L : List (List Int)} (h : RdS w v L) (hb : Below w.heap.size w w') : RdS w' v L := by
  rcases h with h | ⟨b, o, c, hv, h1, h2, h3, h4⟩
  · exact .inl h
  · refine .inr ⟨b, o, c, hv, h1, h2, Nat.lt_of_lt_of_le h3 hb.size, fun i hi => ?_⟩
    obtain ⟨s, h5, h6⟩ := h4 i hi
    exact ⟨s, by rw [hb.cell (p := (⟨b, o + i, none⟩ : Addr)) h3]; exact h5, h6.mono hb⟩
theorem RdS.slice {w : World} {v : Value} {L : List (List Int)} (h : RdS w v L) : ∃ a c, v = .slice a L.length c := by
  rcases h with ⟨a, c, rfl, _, rfl⟩ | ⟨b, o, c, hv, _⟩
  · exact ⟨a, c, rfl⟩
  · exact ⟨_, c, hv⟩
/-- The verdicts on the first k of n. -/
def vP (L : List (List Int)) (n k : Nat) : List Int := (L.take k).map vd ++ zerosB (n - k)
theorem vP_length (L : List (List Int)) (k : Nat) (hk : k ≤ L.length) : (vP L L.length k).length = L.length := by
  unfold vP
  rw [List.length_append, List.length_map, List.length_take, zerosB_length]; omega
theorem vP_zero (L : List (List Int)) (n : Nat) : vP L n 0 = zerosB n := by simp [vP]
theorem vP_all (L : List (List Int)) : vP L L.length L.length = L.map vd := by
  unfold vP
  rw [List.take_length, Nat.sub_self]
  simp [zerosB]
theorem vP_set (L : List (List Int)) (k : Nat) (hk : k < L.length) : (vP L L.length k).set k (vd (nthL L k)) = vP L L.length (k + 1) := by
  unfold vP
  have h1 : ((L.take k).map vd).length = k := by rw [List.length_map, List.length_take]; omega
  have h2 : zerosB (L.length - k) = 0 :: zerosB (L.length - (k + 1)) := by
    unfold zerosB
    rw [show L.length - k = (L.length - (k + 1)) + 1 by omega, List.replicate_succ]
  rw [h2, List.set_append_right _ _ (by omega), h1, Nat.sub_self, List.set_cons_zero, List.take_add_one, List.map_append, List.append_assoc]
  congr 1
  unfold nthL
  rw [List.getElem?_eq_getElem hk]
  rfl
theorem u8s_setX (l : List Int) (k : Nat) (x : Int) : (u8s l).setIfInBounds k (.int .u8 x) = u8s (l.set k x) := by
  unfold u8s
  apply Array.ext'
  simp [List.map_set]
theorem vP_cell (L : List (List Int)) (k : Nat) (hk : k < L.length) : (u8s (vP L L.length k))[k]? = some (.int .u8 (ith (vP L L.length k) k)) := by
  have h := vP_length L k (by omega)
  unfold u8s
  rw [List.getElem?_toArray, List.getElem?_map]
  unfold ith
  rw [List.getElem?_eq_getElem (by omega)]
  rfl
set_option maxHeartbeats 4000000 in
set_option maxRecDepth 100000 in
theorem verdicts_any (L : List (List Int)) (v : Value) (w : World) (hr : RdS w v L) (hb : ∀ i, Bytes (nthL L i)) (hn : L.length ≤ 60) (hG0 : GlobW w) :
    Calls Tryz.prog 31 #[v] w fun e w' => e = .returned (.slice (some ⟨w.heap.size, 0, none⟩) L.length L.length) ∧ w'.heap[w.heap.size]? = some (.cells (u8s (L.map vd)) 5 (0, 0)) ∧ Below w.heap.size w w' := by
  obtain ⟨sa, sc, rfl⟩ := hr.slice
  have hrw := Lib.hid hr
  have hG := Lib.hid hG0
  have hB0 := Lib.hid (below_a1 w (.cells (u8s (zerosB L.length)) 5))
  have hrow := Lib.hid (heap_alloc_new w (.cells (u8s (zerosB L.length)) 5))
  rw [← vP_zero L L.length] at hrow
  have hz0 := Lib.hid (vP_zero L L.length)
  have hall := Lib.hid (vP_all L)
  have hset := Lib.hid (fun k hk => vP_set L k hk)
  have hcl := Lib.hid (fun k hk => vP_cell L k hk)
  have hbs := Lib.hid hb
  have hmk : ∀ wz : World, (Instr.makeSlice 22 (.int .i64 (L.length : Int)) (.int .i64 (L.length : Int))).run Tryz.prog wz = .ok (.slice (some ⟨wz.heap.size, 0, none⟩) L.length L.length) (wz.alloc (.cells (u8s (zerosB L.length)) 5)) := fun wz => run_makeB (P := Tryz.prog) wz 22 5 Tryz.underlying22 (by kernel_rfl) L.length L.length (Nat.le_refl _) (by omega)
  clear hr hb hG0
  obtain ⟨n, hnL⟩ : ∃ n, L.length = n := ⟨_, rfl⟩
  have hnh := Lib.hid hnL
  rw [hnL] at hmk hn hB0 hrow hz0 hall hset hcl ⊢
  clear hnL
  go_enter Tryz.func31, Tryz.ntmps31
  go_wp2
  go_loopw [10] (fun i wr => ∃ k : Nat, k ≤ n ∧ i = .int .i64 k ∧ Below w.heap.size w wr ∧ wr.heap[w.heap.size]? = some (.cells (u8s (vP L n k)) 5 (0, 0))) (fun i _ => n - (intOf i).toNat)
  case atStart => exact ⟨0, Nat.zero_le _, rfl, hB0.out, hrow.out⟩
  case round =>
    obtain ⟨k, hk, rfl, hbk, hrk⟩ := hrel
    have hbk' := Lib.hid hbk; have hrk' := Lib.hid hrk
    clear hbk hrk
    by_cases hlt : k < n
    · have hat : ∃ b o s, sa = some ⟨b, o, none⟩ ∧ wr.cell? ⟨b, o + k, none⟩ = some s ∧ RdB wr s (nthL L k) := by
        rcases hrw.out.mono hbk'.out with ⟨_, _, _, _, rfl⟩ | ⟨b, o, c', hv, h1, h2, h3, h4⟩
        · have := hnh.out; simp at this; omega
        · obtain ⟨e1, _, _⟩ := Value.slice.inj hv
          subst e1
          obtain ⟨s, h5, h6⟩ := h4 k (by have := hnh.out; omega)
          exact ⟨b, o, s, rfl, h5, h6⟩
      obtain ⟨b, o, s, rfl, cs, rs⟩ := hat
      obtain ⟨xa, xc, rfl⟩ := rs.slice
      have hO := Lib.hid (judgeOf_w (nthL L k) _ wr rs (hbs.out k) (hG.out.mono hbk'.out))
      have hst := Lib.hid (hset.out k (by have := hnh.out; omega))
      have hcc := Lib.hid (hcl.out k (by have := hnh.out; omega))
      have hlt0 := Lib.hid (Array.getElem?_eq_some_iff.1 hrk'.out).1
      clear rs
      generalize vd (nthL L k) = V at *
      generalize (nthL L k).length = M at *
      have hkI : (k : Int) < (n : Int) := by omega
      go_wp2_with (go_at_call 9; (with_reducible refine (hO.out).mono ?_); rintro e w2 ⟨oo, qa, qn, qc, D, hD, rfl, h2⟩; have hb2 := Lib.hid h2; have hr2 := Lib.hid (rowB hrk'.out h2 hlt0.out); have c2 : w2.cell? ⟨w.heap.size, k, none⟩ = some (.int .u8 (ith (vP L n k) k)) := (by rw [cell_of_row _ _ _ _ _ _ hr2.out]; exact hcc.out); have f2 := frozen_of_row _ _ k _ _ hr2.out; clear h2)
      go_roundw
      case rel => exact ⟨k + 1, by omega, by go_num, (hbk'.out.trans (hb2.out.mono hbk'.out.size)).setCell (p := ⟨w.heap.size, k, none⟩) (Nat.le_refl _) _, by rw [← hst.out, ← u8s_setX]; exact setCell_row hr2.out k _⟩
      case measure => simp [intOf]; omega
    · obtain rfl : k = n := by omega
      go_wp2
      go_ret
      exact ⟨rfl, by rw [← hall.out]; exact hrk'.out, hbk'.out⟩
set_option maxHeartbeats 2000000 in
set_option maxRecDepth 100000 in
theorem many_any (L : List (List Int)) (v : Value) (w : World) (hr : RdS w v L) (hb : ∀ i, Bytes (nthL L i)) (hn : L.length ≤ 60) (hG0 : GlobW w) :
    Calls Tryz.prog 6 #[v] w fun e w' => e = .returned (.tuple #[.slice (some ⟨w.heap.size, 0, none⟩) L.length L.length, .int .i64 0]) ∧ w'.heap[w.heap.size]? = some (.cells (u8s (L.map vd)) 5 (0, 0)) ∧ Below w.heap.size w w' := by
  have hV := Lib.hid (verdicts_any L v w hr hb hn hG0)
  obtain ⟨sa, sc, rfl⟩ := hr.slice
  have i1 : ¬ (60 : Int) < (L.length : Int) := by omega
  clear hr hb hG0
  generalize L.map vd = R at *
  generalize L.length = n at *
  go_enter Tryz.func6, Tryz.ntmps6
  go_wp2_with (go_at_call 31; (with_reducible refine (hV.out).mono ?_); rintro e w2 ⟨rfl, h1, h2⟩; have h1 := Lib.hid h1; have h2 := Lib.hid h2)
  go_ret2
  exact ⟨rfl, h1.out, h2.out⟩
end Go.Proofs.YtfaojjleapenaabGreatDoor.wir.val
namespace Go.Proofs.YtfaojjleapenaabGreatDoor.wir.frm
open Go.RowKit Go.YtfaojjleapenaabGreatDoor
set_option linter.unusedVariables false
/-- A frame: its kind, its number, n ids (their bytes, one behind the other, are F), its strings. -/
structure Fr where
  k : Int
  N : Nat
  n : Nat
  F : List Int
  L : List (List Int)
abbrev Fr.c (f : Fr) (iv ov : Value) : Array Value := #[.int .u8 f.k, .int .u64 (f.N : Int), iv, ov]
structure Fr.Fit (f : Fr) : Prop where
  k : 0 ≤ f.k ∧ f.k < 256
  N : f.N < 18446744073709551616
  n : f.n ≤ 100000
  F : Bytes f.F
  len : f.F.length = 32 * f.n
  l : f.L.length ≤ 100000
  L : ∀ i, Bytes (nthL f.L i)
  s : ∀ i, (nthL f.L i).length ≤ 1000000
def numK (k : Int) : Bool := decide (k = 1) || decide (k = 6)
def idsK (k : Int) : Bool := decide (k = 2) || (decide (k = 3) || decide (k = 4))
def okS (L : List (List Int)) : Bool := L.all fun s => decide (s.length ≤ 400)
def okL (L : List (List Int)) : Bool := decide (L.length ≤ 8) && okS L
def partsB (f : Fr) : Bool :=
  if numK f.k = true then decide (f.n = 0) && decide (f.L.length = 0)
  else if idsK f.k = true then decide (f.N = 0) && (decide (f.L.length = 0) && (decide (f.n ≤ 40) && riseF f.F f.n))
  else decide (f.k = 5) && (decide (f.N = 0) && (decide (f.n = 0) && okL f.L))
/-- The bytes of the first strings. -/
def txts (L : List (List Int)) : Nat → List Int
  | 0 => []
  | k + 1 => txts L k ++ textB (nthL L k)
def frB (f : Fr) : List Int := [f.k] ++ (if numK f.k = true then numB f.N else if idsK f.k = true then numB f.n ++ f.F else numB f.L.length ++ txts f.L f.L.length)
def frOk (f : Fr) : Bool := partsB f && decide ((frB f).length ≤ 2000)
def chkR (f : Fr) : Int := if frOk f = true then 0 else 8
theorem okS_yes {L : List (List Int)} (h : ∀ i, i < L.length → (nthL L i).length ≤ 400) : okS L = true := by
  unfold okS
  rw [List.all_eq_true]
  intro s hs
  obtain ⟨i, hi, e⟩ := List.getElem_of_mem hs
  have := h i hi
  unfold nthL at this
  rw [List.getElem?_eq_getElem hi, e] at this
  simpa using this
theorem okS_at {L : List (List Int)} (h : okS L = true) (i : Nat) : (nthL L i).length ≤ 400 := by
  unfold okS at h
  rw [List.all_eq_true] at h
  unfold nthL
  cases hi : L[i]? with
  | none => simp
  | some s =>
    have := h s (List.mem_of_getElem? hi)
    simpa using this
theorem okS_no {L : List (List Int)} (i : Nat) (h : 400 < (nthL L i).length) : okS L = false := by
  cases hc : okS L
  · rfl
  · have := okS_at hc i
    omega
/-- What is read of so many strings: them, and how many bytes they have. -/
def readT (l : List Int) : Nat → Option (List (List Int) × Nat)
  | 0 => some ([], 0)
  | c + 1 => match readT l c with
    | none => none
    | some p => match readC (l.drop p.2) 400 1 with
      | none => none
      | some q => some (p.1 ++ [((l.drop p.2).drop q.2).take q.1], p.2 + (q.2 + q.1))
def readS (b : List Int) : Option (List (List Int) × Nat) :=
  match readF b with
  | none => none
  | some p => if 8 < p.1 then none else match readT (b.drop p.2) p.1 with
    | none => none
    | some q => some (q.1, p.2 + q.2)
def readR (k : Int) (b : List Int) : Option (Fr × Nat) :=
  if numK k = true then (match readF b with
    | none => none
    | some p => some (⟨k, p.1, 0, [], []⟩, p.2))
  else if idsK k = true then (match readC b 40 32 with
    | none => none
    | some p => if riseF ((b.drop p.2).take (p.1 * 32)) p.1 = true then some (⟨k, 0, p.1, (b.drop p.2).take (p.1 * 32), []⟩, p.2 + p.1 * 32) else none)
  else if k = 5 then (match readS b with
    | none => none
    | some q => some (⟨k, 0, 0, [], q.1⟩, q.2))
  else none
def parseF (l : List Int) : Option Fr :=
  if l.length = 0 ∨ 2000 < l.length then none else match readR (ith l 0) (l.drop 1) with
    | none => none
    | some p => if p.2 = l.length - 1 then some p.1 else none
theorem nthL_pre (L M : List (List Int)) (i : Nat) (h : i < L.length) : nthL (L ++ M) i = nthL L i := by
  unfold nthL
  rw [List.getElem?_append_left h]
theorem nthL_last (L : List (List Int)) (s : List Int) : nthL (L ++ [s]) L.length = s := by
  unfold nthL
  simp
theorem nthL_out (L : List (List Int)) (i : Nat) (h : L.length ≤ i) : nthL L i = [] := by
  unfold nthL
  rw [List.getElem?_eq_none h]
  rfl
theorem nthL_snoc {p : List Int → Prop} (L : List (List Int)) (s : List Int) (h0 : p []) (h1 : ∀ i, p (nthL L i)) (h2 : p s) (i : Nat) : p (nthL (L ++ [s]) i) := by
  rcases Nat.lt_trichotomy i L.length with h | h | h
  · rw [nthL_pre _ _ _ h]; exact h1 i
  · rw [h, nthL_last]; exact h2
  · rw [nthL_out _ _ (by simp; omega)]; exact h0
theorem txts_pre (L M : List (List Int)) : ∀ k, k ≤ L.length → txts (L ++ M) k = txts L k
  | 0, _ => rfl
  | k + 1, h => by
    unfold txts
    rw [txts_pre L M k (by omega), nthL_pre _ _ _ (by omega)]
theorem txts_more (L : List (List Int)) (c : Nat) : ∀ m, c < m → ∃ r, txts L m = txts L c ++ (textB (nthL L c) ++ r)
  | 0, h => by omega
  | m + 1, h => by
    rcases Nat.lt_or_ge c m with h1 | h1
    · obtain ⟨r, hr⟩ := txts_more L c m h1
      exact ⟨r ++ textB (nthL L m), by rw [show txts L (m + 1) = txts L m ++ textB (nthL L m) from rfl, hr]; simp only [List.append_assoc]⟩
    · obtain rfl : c = m := by omega
      exact ⟨[], by rw [List.append_nil]; rfl⟩
theorem readC_textG (s b : List Int) (M : Nat) (hs : s.length ≤ M) (hM : M ≤ 1000000) : readC (textB s ++ b) (M : Int) 1 = some (s.length, numL s.length) := by
  have h := readF_num s.length (by omega) (s ++ b)
  rw [← List.append_assoc] at h
  unfold readC textB
  rw [h]
  have h2 : ((s.length : Nat) : Int) ≤ (M : Int) ∧ s.length ≤ ((numB s.length ++ s ++ b).length - numL s.length) / 1 := by
    refine ⟨by omega, ?_⟩
    rw [Nat.div_one, List.length_append, List.length_append, numB_length]; omega
  simp only [h2, and_self, if_true]
theorem readC_backG {b : List Int} (hb : Bytes b) {M : Int} {n u : Nat} (h : readC b M 1 = some (n, u)) : b.take (u + n) = textB ((b.drop u).take n) ∧ ((b.drop u).take n).length = n ∧ 1 ≤ u ∧ u + n ≤ b.length ∧ (n : Int) ≤ M := by
  obtain ⟨h1, h2, h3⟩ := readC_some h
  obtain ⟨a1, a2, a3, a4⟩ := readF_some hb h1
  rw [Nat.div_one] at h3
  have hlen : ((b.drop u).take n).length = n := by rw [List.length_take, List.length_drop]; omega
  refine ⟨?_, hlen, by rw [a2]; exact numL_pos n, by omega, h2⟩
  rw [textB, hlen, ← a4, List.take_add]
theorem readT_step {l : List Int} {c : Nat} {L : List (List Int)} {u n v : Nat} (h1 : readT l c = some (L, u)) (h2 : readC (l.drop u) 400 1 = some (n, v)) :
    readT l (c + 1) = some (L ++ [((l.drop u).drop v).take n], u + (v + n)) := by
  unfold readT
  rw [h1]
  simp only [h2]
theorem readT_none {l : List Int} {c : Nat} {L : List (List Int)} {u : Nat} (h1 : readT l c = some (L, u)) (h2 : readC (l.drop u) 400 1 = none) : readT l (c + 1) = none := by
  unfold readT
  rw [h1]
  simp only [h2]
theorem readT_gone {l : List Int} {c : Nat} (h1 : readT l c = none) : ∀ m, c ≤ m → readT l m = none
  | 0, h => by
    obtain rfl : c = 0 := by omega
    exact h1
  | m + 1, h => by
    rcases Nat.lt_or_ge m c with h2 | h2
    · obtain rfl : c = m + 1 := by omega
      exact h1
    · unfold readT
      rw [readT_gone h1 m h2]
theorem readT_back {l : List Int} (hl : Bytes l) : ∀ (c : Nat) (L : List (List Int)) (u : Nat), readT l c = some (L, u) → L.length = c ∧ u ≤ l.length ∧ l.take u = txts L c ∧ (∀ i, (nthL L i).length ≤ 400) ∧ ∀ i, Bytes (nthL L i)
  | 0, L, u, h => by
    have h := Option.some.inj h
    obtain ⟨h1, h2⟩ := Prod.mk.inj h
    subst h1 h2
    exact ⟨rfl, Nat.zero_le _, by rw [List.take_zero]; rfl, fun i => by simp [nthL], fun i => by simp only [nthL, List.getElem?_nil, Option.getD_none]; exact bytes_nil⟩
  | c + 1, L, u, h => by
    cases h1 : readT l c with
    | none => rw [readT_gone h1 (c + 1) (by omega)] at h; cases h
    | some p =>
      obtain ⟨M, v⟩ := p
      obtain ⟨k1, k2, k3, k4, k5⟩ := readT_back hl c M v h1
      cases h2 : readC (l.drop v) 400 1 with
      | none => rw [readT_none h1 h2] at h; cases h
      | some q =>
        obtain ⟨n, x⟩ := q
        rw [readT_step h1 h2] at h
        obtain ⟨e1, e2⟩ := Prod.mk.inj (Option.some.inj h)
        subst e1 e2
        obtain ⟨r1, r2, r3, r4, r5⟩ := readC_backG (bytes_drop l v hl) h2
        rw [List.length_drop] at r4
        refine ⟨by simp [k1], by omega, ?_, nthL_snoc (p := fun s => s.length ≤ 400) _ _ (by simp) k4 (by rw [r2]; omega), nthL_snoc (p := Bytes) _ _ bytes_nil k5 (bytes_take _ _ (bytes_drop _ _ (bytes_drop _ _ hl)))⟩
        rw [List.take_add, r1, k3, show txts (M ++ [(List.drop x (List.drop v l)).take n]) (c + 1) = txts (M ++ [(List.drop x (List.drop v l)).take n]) c ++ textB (nthL (M ++ [(List.drop x (List.drop v l)).take n]) c) from rfl, txts_pre _ _ _ (by omega), ← k1, nthL_last]
theorem readT_txts (L : List (List Int)) (h4 : ∀ i, (nthL L i).length ≤ 400) (m : Nat) (hm : m ≤ L.length) (t : List Int) : ∀ c, c ≤ m → readT (txts L m ++ t) c = some (L.take c, (txts L c).length)
  | 0, _ => rfl
  | c + 1, h => by
    have ih := readT_txts L h4 m hm t c (by omega)
    obtain ⟨r, hr⟩ := txts_more L c m (by omega)
    have hd : (txts L m ++ t).drop (txts L c).length = textB (nthL L c) ++ (r ++ t) := by
      rw [hr, List.append_assoc, List.drop_left' rfl, List.append_assoc]
    have hc := readC_textG (nthL L c) (r ++ t) 400 (h4 c) (by decide)
    rw [← hd] at hc
    rw [readT_step ih hc, hd, text_part]
    have e : L.take (c + 1) = L.take c ++ [nthL L c] := by
      rw [List.take_add_one]
      unfold nthL
      rw [List.getElem?_eq_getElem (by omega)]
      rfl
    rw [e, show txts L (c + 1) = txts L c ++ textB (nthL L c) from rfl, List.length_append, textB_length]
theorem num_nil : nthL [] = fun _ => [] := by funext i; simp [nthL]
theorem readR_back {k : Int} (hk : 0 ≤ k ∧ k < 256) {b : List Int} (hb : Bytes b) (hl : b.length ≤ 100000) {f : Fr} {u : Nat} (h : readR k b = some (f, u)) :
    f.k = k ∧ partsB f = true ∧ frB f = [k] ++ b.take u ∧ u ≤ b.length ∧ f.Fit := by
  unfold readR at h
  by_cases h1 : numK k = true
  · rw [if_pos h1] at h
    cases h2 : readF b with
    | none => rw [h2] at h; cases h
    | some p =>
      obtain ⟨n, v⟩ := p
      rw [h2] at h
      obtain ⟨e1, e2⟩ := Prod.mk.inj (Option.some.inj h)
      subst e1 e2
      obtain ⟨a1, a2, a3, a4⟩ := readF_some hb h2
      refine ⟨rfl, ?_, ?_, a3, ⟨hk, a1, Nat.zero_le _, bytes_nil, rfl, Nat.zero_le _, fun i => by rw [num_nil]; exact bytes_nil, fun i => by rw [num_nil]; simp⟩⟩
      · unfold partsB
        dsimp only
        rw [if_pos h1]
        rfl
      · unfold frB
        dsimp only
        rw [if_pos h1, a4]
  · rw [if_neg h1] at h
    by_cases h3 : idsK k = true
    · rw [if_pos h3] at h
      cases h2 : readC b 40 32 with
      | none => rw [h2] at h; cases h
      | some p =>
        obtain ⟨n, v⟩ := p
        rw [h2] at h
        simp only at h
        by_cases h5 : riseF ((b.drop v).take (n * 32)) n = true
        · rw [if_pos h5] at h
          obtain ⟨e1, e2⟩ := Prod.mk.inj (Option.some.inj h)
          subst e1 e2
          obtain ⟨c1, c2, c3⟩ := readC_some h2
          obtain ⟨a1, a2, a3, a4⟩ := readF_some hb c1
          have hlen : ((b.drop v).take (n * 32)).length = 32 * n := by rw [List.length_take, List.length_drop]; omega
          refine ⟨rfl, ?_, ?_, by omega, ⟨hk, (by decide : 0 < 18446744073709551616), by simp only; omega, bytes_take _ _ (bytes_drop _ _ hb), hlen, Nat.zero_le _, fun i => by rw [num_nil]; exact bytes_nil, fun i => by rw [num_nil]; simp⟩⟩
          · unfold partsB
            dsimp only
            rw [if_neg h1, if_pos h3, h5, decide_eq_true (show n ≤ 40 by omega)]
            rfl
          · unfold frB
            dsimp only
            rw [if_neg h1, if_pos h3, ← a4, List.take_add]
        · rw [if_neg h5] at h; cases h
    · rw [if_neg h3] at h
      by_cases h4 : k = 5
      · rw [if_pos h4] at h
        unfold readS at h
        cases h2 : readF b with
        | none => rw [h2] at h; cases h
        | some p =>
          obtain ⟨n, v⟩ := p
          rw [h2] at h
          simp only at h
          by_cases h5 : 8 < n
          · rw [if_pos h5] at h; cases h
          · rw [if_neg h5] at h
            cases h6 : readT (b.drop v) n with
            | none => rw [h6] at h; cases h
            | some q =>
              obtain ⟨L, x⟩ := q
              rw [h6] at h
              obtain ⟨e1, e2⟩ := Prod.mk.inj (Option.some.inj h)
              subst e1 e2
              obtain ⟨a1, a2, a3, a4⟩ := readF_some hb h2
              obtain ⟨t1, t2, t3, t4, t5⟩ := readT_back (bytes_drop b v hb) n L x h6
              rw [List.length_drop] at t2
              refine ⟨rfl, ?_, ?_, by simp only; omega, ⟨hk, (by decide : 0 < 18446744073709551616), Nat.zero_le _, bytes_nil, rfl, by simp only; omega, t5, fun i => Nat.le_trans (t4 i) (by decide)⟩⟩
              · unfold partsB okL
                dsimp only
                rw [if_neg h1, if_neg h3, okS_yes (fun i _ => t4 i), decide_eq_true h4, decide_eq_true (show L.length ≤ 8 by omega)]
                rfl
              · unfold frB
                dsimp only
                rw [if_neg h1, if_neg h3, t1, ← t3, List.take_add, ← a4]
      · rw [if_neg h4] at h; cases h
theorem nil_of_len {α : Type} {l : List α} (h : l.length = 0) : l = [] := List.eq_nil_of_length_eq_zero h
theorem readR_fr {f : Fr} (ff : f.Fit) (h : partsB f = true) (t : List Int) : readR f.k ((frB f).drop 1 ++ t) = some (f, (frB f).length - 1) := by
  obtain ⟨k, N, n, F, L⟩ := f
  obtain ⟨_, hN, hn, hF, hlen, hl, hL, hs⟩ := ff
  simp only at hN hn hF hlen hl hL hs
  have hd : (frB ⟨k, N, n, F, L⟩).drop 1 = if numK k = true then numB N else if idsK k = true then numB n ++ F else numB L.length ++ txts L L.length := by
    unfold frB
    rfl
  have hc : (frB ⟨k, N, n, F, L⟩).length - 1 = ((frB ⟨k, N, n, F, L⟩).drop 1).length := by rw [List.length_drop]
  rw [hc, hd]
  unfold partsB at h
  dsimp only at h ⊢
  unfold readR
  by_cases h1 : numK k = true
  · rw [if_pos h1, Bool.and_eq_true, decide_eq_true_eq, decide_eq_true_eq] at h
    rw [if_pos h1, if_pos h1]
    obtain ⟨rfl, h2⟩ := h
    obtain rfl := nil_of_len h2
    obtain rfl := nil_of_len (hlen.trans rfl)
    rw [readF_num N hN t, numB_length]
  · rw [if_neg h1] at h
    rw [if_neg h1, if_neg h1]
    by_cases h3 : idsK k = true
    · rw [if_pos h3, Bool.and_eq_true, Bool.and_eq_true, Bool.and_eq_true, decide_eq_true_eq, decide_eq_true_eq, decide_eq_true_eq] at h
      rw [if_pos h3, if_pos h3]
      obtain ⟨rfl, h2, h4, h5⟩ := h
      obtain rfl := nil_of_len h2
      have hc : readC ((numB n ++ F) ++ t) 40 32 = some (n, numL n) := by
        have h := readF_num n (by omega) (F ++ t)
        rw [← List.append_assoc] at h
        unfold readC
        rw [h]
        have h2 : ((n : Nat) : Int) ≤ 40 ∧ n ≤ (((numB n ++ F) ++ t).length - numL n) / 32 := by
          refine ⟨by omega, ?_⟩
          rw [List.length_append, List.length_append, numB_length]; omega
        simp only [h2, and_self, if_true]
      rw [hc]
      simp only
      rw [list_part F t n hlen, if_pos h5, List.length_append, numB_length, hlen, Nat.mul_comm 32 n]
    · rw [if_neg h3, Bool.and_eq_true, Bool.and_eq_true, Bool.and_eq_true, decide_eq_true_eq, decide_eq_true_eq, decide_eq_true_eq] at h
      rw [if_neg h3, if_neg h3]
      obtain ⟨rfl, rfl, rfl, h5⟩ := h
      obtain rfl := nil_of_len (hlen.trans rfl)
      unfold okL at h5
      rw [Bool.and_eq_true, decide_eq_true_eq] at h5
      rw [if_pos rfl]
      unfold readS
      rw [List.append_assoc, readF_num L.length (by omega)]
      simp only
      rw [if_neg (by omega), List.drop_left' (numB_length _), readT_txts L (okS_at h5.2) L.length (Nat.le_refl _) t L.length (Nat.le_refl _)]
      simp only
      rw [List.take_length, List.length_append, numB_length]
theorem frB_ne (f : Fr) : (frB f).length ≠ 0 := by unfold frB; simp
theorem frB_first (f : Fr) : ith (frB f) 0 = f.k := by unfold frB; simp [ith]
theorem parse_fr {f : Fr} (ff : f.Fit) (h : frOk f = true) : parseF (frB f) = some f := by
  unfold frOk at h
  rw [Bool.and_eq_true, decide_eq_true_eq] at h
  unfold parseF
  rw [if_neg (by have := frB_ne f; omega), frB_first]
  have hr := readR_fr ff h.1 []
  rw [List.append_nil] at hr
  rw [hr]
  simp only [if_true]
end Go.Proofs.YtfaojjleapenaabGreatDoor.wir.frm
namespace Go
namespace YtfaojjleapenaabGreatDoor
open RowKit
/-- The value 'v' is a slice of slices of bytes that reads as' 'L'. -/
def RdS (w : World) (v : Value) (L : List (List Int)) : Prop :=
  (∃ a c, v = .slice a 0 c ∧ (a = none → c = 0) ∧ L = []) ∨ ∃ b o c, v = .slice (some ⟨b, o, none⟩) L.length c ∧ L.length ≤ c ∧ c ≤ maxLen ∧ b < w.heap.size ∧ ∀ i, i < L.length → ∃ s, w.cell? ⟨b, o + i, none⟩ = some s ∧ RdB w s (nthL L i)
theorem RdS.mono {w w' : World} {v : Value} {L : List (List Int)} (h : RdS w v L) (hb : Below w.heap.size w w') : RdS w' v L := by
  rcases h with h | ⟨b, o, c, hv, h1, h2, h3, h4⟩
  · exact .inl h
  · refine .inr ⟨b, o, c, hv, h1, h2, Nat.lt_of_lt_of_le h3 hb.size, fun i hi => ?_⟩
    obtain ⟨s, hs, hr⟩ := h4 i hi
    exact ⟨s, (hb.cell (p := (⟨b, o + i, none⟩ : Addr)) h3).trans hs, hr.mono hb⟩
theorem RdS.slice {w : World} {v : Value} {L : List (List Int)} (h : RdS w v L) : ∃ a c, v = .slice a L.length c := by
  rcases h with ⟨a, c, rfl, _, rfl⟩ | ⟨b, o, c, hv, _⟩
  · exact ⟨a, c, rfl⟩
  · exact ⟨_, c, hv⟩
theorem RdS.at {w : World} {a : Option Addr} {n c : Nat} {L : List (List Int)} (h : RdS w (.slice a n c) L) (i : Nat) (hi : i < L.length) : ∃ b o, a = some ⟨b, o, none⟩ ∧ b < w.heap.size ∧ ∃ s, w.cell? ⟨b, o + i, none⟩ = some s ∧ RdB w s (nthL L i) := by
  rcases h with ⟨_, _, _, _, rfl⟩ | ⟨b, o, c', hv, h1, h2, h3, h4⟩
  · exact absurd hi (Nat.not_lt_zero _)
  · cases hv
    exact ⟨b, o, rfl, h3, h4 i hi⟩
theorem RdS.nil (w : World) : RdS w (.slice none 0 0) [] := .inl ⟨none, 0, rfl, fun _ => rfl, rfl⟩
/-- The value reads as' these strings in every world that has kept the blocks from 'base' on. -/
def HeldS (base : Nat) (w : World) (v : Value) (L : List (List Int)) : Prop := ∀ wx : World, (∀ k, base ≤ k → k < w.heap.size → wx.heap[k]? = w.heap[k]?) → w.heap.size ≤ wx.heap.size → RdS wx v L
theorem heldS_nil (base : Nat) (w : World) : HeldS base w (.slice none 0 0) [] := fun wx _ _ => RdS.nil wx
theorem heldS_mono {base : Nat} {w w' : World} {v : Value} {L : List (List Int)} (h : HeldS base w v L) (hb : Below w.heap.size w w') : HeldS base w' v L := fun wx h1 h2 =>
  h wx (fun k k1 k2 => (h1 k k1 (Nat.lt_of_lt_of_le k2 hb.size)).trans (hb.block k k2)) (Nat.le_trans hb.size h2)
theorem heldS_lower {base B : Nat} {w : World} {v : Value} {L : List (List Int)} (h : HeldS B w v L) (hb : base ≤ B) : HeldS base w v L := fun wx h1 h2 => h wx (fun k k1 k2 => h1 k (Nat.le_trans hb k1) k2) h2
theorem heldS_rd {base : Nat} {w : World} {v : Value} {L : List (List Int)} (h : HeldS base w v L) : RdS w v L := h w (fun _ _ _ => rfl) (Nat.le_refl _)
theorem heldI_rd {base : Nat} {w : World} {v : Value} {n : Nat} {F : List Int} (h : HeldI base w v n F) : RdI w v n F := h w (fun _ _ _ => rfl) (Nat.le_refl _)
theorem owns_kept {base : Nat} {e : TypeId} {size : Nat} {w w' : World} {v : Value} {n : Nat} {xs : List Value} (h : w.ownsRow base e size v n xs) (hb : Below w.heap.size w w') : w'.ownsRow base e size v n xs := by
  refine ⟨h.1, ?_⟩
  rcases h.2 with hn | ⟨g, cap, cur, rfl, hbg, hg, rest⟩
  · exact .inl hn
  · exact .inr ⟨g, cap, cur, rfl, hbg, (hb.block g (Array.getElem?_eq_some_iff.1 hg).1).trans hg, rest⟩
theorem owns_same {base : Nat} {e : TypeId} {size : Nat} {w w' : World} {v : Value} {n : Nat} {xs : List Value} (h : w.ownsRow base e size v n xs) (h1 : ∀ k, base ≤ k → k < w.heap.size → w'.heap[k]? = w.heap[k]?) : w'.ownsRow base e size v n xs := by
  refine ⟨h.1, ?_⟩
  rcases h.2 with hn | ⟨g, cap, cur, rfl, hbg, hg, rest⟩
  · exact .inl hn
  · exact .inr ⟨g, cap, cur, rfl, hbg, (h1 g hbg (Array.getElem?_eq_some_iff.1 hg).1).trans hg, rest⟩
/-- A slice of strings that is the call's own, each string too. -/
def OwnL (B : Nat) (T8 TS : TypeId) (w : World) (v : Value) (L : List (List Int)) : Prop :=
  ∃ vs : List Value, vs.length = L.length ∧ w.ownsRow B TS 1 v vs.length vs ∧ ∀ i, i < L.length → ∃ s, vs[i]? = some s ∧ OwnB B T8 w s (nthL L i)
theorem OwnL.nil (w : World) (B : Nat) (T8 TS : TypeId) : OwnL B T8 TS w (.slice none 0 0) [] := ⟨[], rfl, World.ownsRow_nil w B TS 1, fun i hi => absurd hi (Nat.not_lt_zero _)⟩
theorem OwnL.rd {B : Nat} {T8 TS : TypeId} {w : World} {v : Value} {L : List (List Int)} (h : OwnL B T8 TS w v L) : RdS w v L := by
  obtain ⟨vs, hl, ho, hs⟩ := h
  rcases ho.2 with ⟨rfl, h0⟩ | ⟨g, cap, cur, rfl, hb, hg, hn, hm, hz, ht⟩
  · exact .inl ⟨none, 0, rfl, fun _ => rfl, List.eq_nil_of_length_eq_zero (hl.symm.trans h0)⟩
  · refine .inr ⟨g, 0, cap, by rw [hl], by omega, hm, (Array.getElem?_eq_some_iff.1 hg).1, fun i hi => ?_⟩
    obtain ⟨s, h1, h2⟩ := hs i hi
    have hcell := World.ownsRow.cells (g := g) ho rfl i s h1
    rw [addr_add] at hcell
    exact ⟨s, hcell, h2.rd⟩
theorem OwnL.kept {B : Nat} {T8 TS : TypeId} {w w' : World} {v : Value} {L : List (List Int)} (h : OwnL B T8 TS w v L) (hb : Below w.heap.size w w') : OwnL B T8 TS w' v L := by
  obtain ⟨vs, hl, ho, hs⟩ := h
  refine ⟨vs, hl, owns_kept ho hb, fun i hi => ?_⟩
  obtain ⟨s, h1, h2⟩ := hs i hi
  exact ⟨s, h1, h2.kept hb⟩
theorem OwnL.mono {B B' : Nat} {T8 TS : TypeId} {w : World} {v : Value} {L : List (List Int)} (h : OwnL B T8 TS w v L) (hB : B' ≤ B) : OwnL B' T8 TS w v L := by
  obtain ⟨vs, hl, ho, hs⟩ := h
  refine ⟨vs, hl, ⟨ho.1, ?_⟩, fun i hi => ?_⟩
  · rcases ho.2 with hn | ⟨g, cap, cur, rfl, hbg, rest⟩
    · exact .inl hn
    · exact .inr ⟨g, cap, cur, rfl, Nat.le_trans hB hbg, rest⟩
  · obtain ⟨s, h1, h2⟩ := hs i hi
    exact ⟨s, h1, h2.mono hB⟩
theorem OwnL.held {B : Nat} {T8 TS : TypeId} {w : World} {v : Value} {L : List (List Int)} (h : OwnL B T8 TS w v L) : HeldS B w v L := fun wx h1 _ => by
  obtain ⟨vs, hl, ho, hs⟩ := h
  refine OwnL.rd (B := B) (T8 := T8) (TS := TS) ⟨vs, hl, owns_same ho h1, fun i hi => ?_⟩
  obtain ⟨s, k1, k2⟩ := hs i hi
  exact ⟨s, k1, owns_same k2 h1⟩
theorem OwnL.below {B : Nat} {T8 TS : TypeId} {w w' : World} {v : Value} {L : List (List Int)} (h : OwnL B T8 TS w v L) (hg : w.grownBy w' v.ownBlock) (hb : B ≤ w.heap.size) : Below B w w' := by
  obtain ⟨vs, hl, ho, hs⟩ := h
  exact Below.grown (Below.refl B w) hg hb (fun k hk => (World.ownsRow.lt ho k hk).1)
theorem OwnL.slice {B : Nat} {T8 TS : TypeId} {w : World} {v : Value} {L : List (List Int)} (h : OwnL B T8 TS w v L) : ∃ a c, v = .slice a L.length c := h.rd.slice
section
variable {P : Program}
end
end YtfaojjleapenaabGreatDoor
end Go
namespace Go.Proofs.YtfaojjleapenaabGreatDoor.wir.frm
open Go.RowKit Go.YtfaojjleapenaabGreatDoor
set_option linter.unusedVariables false
theorem rowB {B : Nat} {w w' : World} {g : Nat} {b : Obj} (h : w.heap[g]? = some b) (hb : Below B w w') (hg : g < B) : w'.heap[g]? = some b := by
  rw [hb.block g hg]; exact h
theorem below_a (w : World) (o : Obj) : Below w.heap.size w (w.alloc o) := (Below.refl _ _).alloc (Nat.le_refl _) o
theorem hasNumber_any (k : Int) (w : World) :
    Calls Tryz.prog 113 #[.int .u8 k] w fun e w' => e = .returned (.bool (numK k)) ∧ w = w' := by
  by_cases h1 : k = 1
  · subst h1
    go_enter Tryz.func113, Tryz.ntmps113
    go_wp2
    go_ret
    exact ⟨rfl, rfl⟩
  · by_cases h6 : k = 6
    · subst h6
      go_enter Tryz.func113, Tryz.ntmps113
      go_wp2
      go_ret
      exact ⟨rfl, rfl⟩
    · have e := Lib.hid (show numK k = (k == 1 || k == 6) from rfl)
      generalize numK k = R at *
      go_enter Tryz.func113, Tryz.ntmps113
      go_wp2
      go_ret
      exact ⟨ret_bool e.out.symm, rfl⟩
theorem hasIDs_any (k : Int) (w : World) :
    Calls Tryz.prog 114 #[.int .u8 k] w fun e w' => e = .returned (.bool (idsK k)) ∧ w = w' := by
  by_cases h1 : k = 2 ∨ k = 3 ∨ k = 4
  · rcases h1 with rfl | rfl | rfl
    all_goals
      go_enter Tryz.func114, Tryz.ntmps114
      go_wp2
      go_ret
      exact ⟨rfl, rfl⟩
  · have k2 : ¬ k = 2 := fun h => h1 (.inl h)
    have k3 : ¬ k = 3 := fun h => h1 (.inr (.inl h))
    have k4 : ¬ k = 4 := fun h => h1 (.inr (.inr h))
    have e := Lib.hid (show idsK k = (k == 2 || k == 3 || k == 4) by rw [Bool.or_assoc]; rfl)
    generalize idsK k = R at *
    clear h1
    go_enter Tryz.func114, Tryz.ntmps114
    go_wp2
    go_ret
    exact ⟨ret_bool e.out.symm, rfl⟩
set_option maxRecDepth 100000 in
theorem frIncrease_any (F : List Int) (n : Nat) (v : Value) (w : World) (hr : RdI w v n F) (hF : Bytes F) (hn : n ≤ 100000) :
    Calls Tryz.prog 125 #[v] w fun e w' => e = .returned (.bool (riseF F n)) ∧ Below w.heap.size w w' := by
  have hlen := Lib.hid hr.len
  obtain ⟨a, c, rfl⟩ := hr.slice
  have hr' := Lib.hid hr; have hF' := Lib.hid hF
  clear hr hF
  go_enter Tryz.func125, Tryz.ntmps125
  go_wp2
  go_loopw [7] (fun i wr => ∃ k : Nat, (k = 0 ∨ k + 1 ≤ n) ∧ i = .int .i64 k ∧ Below w.heap.size w wr ∧ ∀ j, j < k → cmpF (idF F j) (idF F (j + 1)) < 0) (fun i _ => n - (intOf i).toNat)
  case atStart => exact ⟨0, .inl rfl, rfl, Below.refl _ _, fun j hj => absurd hj (Nat.not_lt_zero _)⟩
  case round =>
    obtain ⟨k, hk, rfl, hb, he⟩ := hrel
    have he' := Lib.hid he; have hb' := Lib.hid hb
    clear he hb
    by_cases hlt : k + 1 < n
    · obtain ⟨b, o, rfl, hbw, hnc, q1, _⟩ := rdI_at hr'.out hb'.out k (by omega)
      obtain ⟨b2, o2, hab, _, _, q2, _⟩ := rdI_at hr'.out hb'.out (k + 1) hlt
      cases hab
      have q1' := Lib.hid q1; have q2' := Lib.hid q2
      have l1 := Lib.hid (idF_length F n k hlen.out (by omega))
      have l2 := Lib.hid (idF_length F n (k + 1) hlen.out hlt)
      have hc := Lib.hid (fun wi => cmp_any (idF F k) (idF F (k + 1)) wi l1.out l2.out (idF_bytes F k hF'.out) (idF_bytes F (k + 1) hF'.out))
      have hno := Lib.hid (fun h => rise_no (F := F) (n := n) k hlt h)
      have hyes := Lib.hid (fun (h : cmpF (idF F k) (idF F (k + 1)) < 0) => (show ∀ j, j < k + 1 → cmpF (idF F j) (idF F (j + 1)) < 0 from fun j hj => by
        rcases Nat.lt_or_ge j k with h1 | h1
        · exact he'.out j h1
        · obtain rfl : j = k := by omega
          exact h))
      clear q1 q2 he' hk
      generalize idF F (k + 1) = B at *
      generalize idF F k = A at *
      generalize cmpF A B = T at *
      have x1 : IntKind.i64.wrap ((k : Int) + 1) = (k : Int) + 1 := IntWalk.i64_in _ (by omega)
      have x2 : (0 : Int) ≤ (k : Int) + 1 := by omega
      have x3 : ((k : Int) + 1).toNat = k + 1 := by omega
      have x4 : (k : Int) + 1 < (n : Int) := by omega
      have x5 : k < n := by omega
      have i1 : Hid ((Tryz.prog.info? 43).map (·.size) = some (idV A).length) := Lib.hid (by rw [idV_length, l1.out]; kernel_rfl)
      have i2 : Hid ((Tryz.prog.info? 43).map (·.size) = some (idV B).length) := Lib.hid (by rw [idV_length, l2.out]; kernel_rfl)
      go_wp2
      refine wp_region_headN (C := fun w' => ∃ n, w' = wr.drewN n) 9 [] (by kernel_rfl) (by kernel_rfl) ⟨1, rfl⟩ ?_
      simp only [List.take_succ_cons, List.take_zero, List.drop_succ_cons, List.drop_zero]
      iterate 3 (refine head_walk (by rfl) (fun K hK => ?_); go_simp; refine hK _ ?_; clear hK K)
      refine head_step (.agg (u8s A)) (by rfl) (qa_load_mid 43 _ rfl b (o + k * 32) rfl A _ Tryz.underlying43 rfl i1.out (fun w' ⟨n, h⟩ => h ▸ range_drewN q1'.out n)) (by rfl) rfl (fun K hK => ?_)
      go_simp
      refine hK _ ?_
      clear hK K
      iterate 4 (refine head_walk (by rfl) (fun K hK => ?_); go_simp; refine hK _ ?_; clear hK K)
      refine head_step (.agg (u8s B)) (by rfl) (qa_load_mid 43 _ rfl b (o + (k + 1) * 32) rfl B _ Tryz.underlying43 rfl i2.out (fun w' ⟨n, h⟩ => h ▸ range_drewN q2'.out n)) (by rfl) rfl (fun K hK => ?_)
      go_simp
      refine hK _ ?_
      clear hK K
      refine head_nil ?_
      rintro w' ⟨nz, rfl⟩
      clear x1 x2 x3 x4
      have hbz := Lib.hid (((Draws.refl wr).drewN nz).below hb'.out)
      go_wp2_with (go_at_call 74; (with_reducible refine (hc.out _).mono ?_); rintro e w2 ⟨rfl, hb2⟩; have hB2 := Lib.hid (hbz.out.trans (hb2.mono hbz.out.size)); clear hb2)
      refine NoPanic.normal ?_
      by_cases hT : T < 0
      · have hh := Lib.hid (hyes.out hT)
        go_wp2
        go_roundw
        case rel => exact ⟨k + 1, .inr (by omega), by go_num, hB2.out, hh.out⟩
        case measure => simp [intOf]; omega
      · have hh := Lib.hid (hno.out (by omega))
        go_wp2
        go_ret
        exact ⟨ret_bool hh.out.symm, hB2.out⟩
    · have hh := Lib.hid (rise_yes (F := F) (n := n) (fun i hi => he'.out i (by rcases hk with h | h <;> omega)))
      have hk' : ¬ (k : Int) < (n : Int) - 1 := by omega
      go_wp2
      go_ret
      exact ⟨ret_bool hh.out.symm, hb'.out⟩
set_option maxRecDepth 100000 in
theorem validStrings_any (L : List (List Int)) (v : Value) (w : World) (hr : RdS w v L) (hn : L.length ≤ 100000) :
    Calls Tryz.prog 126 #[v] w fun e w' => e = .returned (.bool (okL L)) ∧ w = w' := by
  obtain ⟨a, c, rfl⟩ := hr.slice
  have hr' := Lib.hid hr
  clear hr
  by_cases h8 : 8 < L.length
  · have e := Lib.hid (show okL L = false by unfold okL; rw [decide_eq_false (by omega)]; rfl)
    generalize okL L = R at *
    generalize L.length = n at *
    clear hr'
    go_enter Tryz.func126, Tryz.ntmps126
    go_wp2
    go_ret
    exact ⟨ret_bool e.out.symm, rfl⟩
  · have hyes := Lib.hid (fun h : okS L = true => (show okL L = true by unfold okL; rw [decide_eq_true (by omega), h]; rfl))
    have hno := Lib.hid (fun h : okS L = false => (show okL L = false by unfold okL; rw [h, Bool.and_false]))
    generalize okL L = R at *
    go_enter Tryz.func126, Tryz.ntmps126
    go_wp2
    go_loopw [10] (fun i wr => ∃ k : Nat, k ≤ L.length ∧ i = .int .i64 k ∧ w = wr ∧ ∀ j, j < k → (nthL L j).length ≤ 400) (fun i _ => L.length - (intOf i).toNat)
    case atStart => exact ⟨0, Nat.zero_le _, rfl, by trivial, fun j hj => absurd hj (Nat.not_lt_zero _)⟩
    case round =>
      obtain ⟨k, hk, rfl, rfl, he⟩ := hrel
      have he' := Lib.hid he
      clear he
      by_cases hlt : k < L.length
      · obtain ⟨b, o, rfl, hbw, s, hc, hs⟩ := hr'.out.at k hlt
        obtain ⟨sa, sc, rfl⟩ := hs.slice
        obtain ⟨M, hM⟩ : ∃ M, (nthL L k).length = M := ⟨_, rfl⟩
        have hM' := Lib.hid hM
        rw [hM] at hc
        clear hs hM
        by_cases h4 : M ≤ 400
        · have hh := Lib.hid (show ∀ j, j < k + 1 → (nthL L j).length ≤ 400 from fun j hj => by
            rcases Nat.lt_or_ge j k with h1 | h1
            · exact he'.out j h1
            · obtain rfl : j = k := by omega
              rw [hM'.out]; exact h4)
          go_wp2
          go_roundw
          case rel => exact ⟨k + 1, by omega, by go_num, by trivial, hh.out⟩
          case measure => simp [intOf]; omega
        · have hh := Lib.hid (hno.out (okS_no k (by rw [hM'.out]; omega)))
          go_wp2
          go_ret
          exact ⟨ret_bool hh.out.symm, rfl⟩
      · have hh := Lib.hid (hyes.out (okS_yes (fun i hi => he'.out i (by omega))))
        go_wp2
        go_ret
        exact ⟨ret_bool hh.out.symm, rfl⟩
end Go.Proofs.YtfaojjleapenaabGreatDoor.wir.frm
namespace Go.Proofs.YtfaojjleapenaabGreatDoor.wir.frm
open Go.RowKit Go.YtfaojjleapenaabGreatDoor
set_option linter.unusedVariables false
theorem info_frame : (Tryz.prog.info? 105).map (·.size) = some 4 := by kernel_rfl
theorem cellsF {w : World} {g : Nat} {f : Fr} {iv ov : Value} (h : w.heap[g]? = some (.cells (f.c iv ov) 105 (0, 0))) :
    w.cell? ⟨g, 0, none⟩ = some (.int .u8 f.k) ∧ w.cell? ⟨g, 1, none⟩ = some (.int .u64 (f.N : Int)) ∧ w.cell? ⟨g, 2, none⟩ = some iv ∧ w.cell? ⟨g, 3, none⟩ = some ov :=
  ⟨cell_of_row _ _ _ _ _ _ h, cell_of_row _ _ _ _ _ _ h, cell_of_row _ _ _ _ _ _ h, cell_of_row _ _ _ _ _ _ h⟩
theorem parts_num {f : Fr} (h : numK f.k = true) : partsB f = (decide (f.n = 0) && decide (f.L.length = 0)) := if_pos h
theorem parts_ids {f : Fr} (h : numK f.k = false) (h2 : idsK f.k = true) : partsB f = (decide (f.N = 0) && (decide (f.L.length = 0) && (decide (f.n ≤ 40) && riseF f.F f.n))) := by
  unfold partsB
  rw [if_neg (by rw [h]; decide), if_pos h2]
theorem parts_ops {f : Fr} (h : numK f.k = false) (h2 : idsK f.k = false) : partsB f = (decide (f.k = 5) && (decide (f.N = 0) && (decide (f.n = 0) && okL f.L))) := by
  unfold partsB
  rw [if_neg (by rw [h]; decide), if_neg (by rw [h2]; decide)]
set_option maxHeartbeats 2000000 in
set_option maxRecDepth 100000 in
theorem validParts_any (f : Fr) (ff : f.Fit) (iv ov : Value) (w : World) (hi : RdI w iv f.n f.F) (ho : RdS w ov f.L) :
    Calls Tryz.prog 112 #[.agg (f.c iv ov)] w fun e w' => e = .returned (.bool (partsB f)) ∧ Below w.heap.size w w' := by
  obtain ⟨W, hW⟩ : ∃ W, W = w.alloc (.cells (f.c iv ov) 105) := ⟨_, rfl⟩
  have hr0 := heap_alloc_new w (.cells (f.c iv ov) 105)
  have hb0 := (Below.refl w.heap.size w).alloc (Nat.le_refl _) (.cells (f.c iv ov) 105)
  rw [← hW] at hr0 hb0
  obtain ⟨ia, ic, rfl⟩ := hi.slice
  obtain ⟨oa, oc, rfl⟩ := ho.slice
  obtain ⟨c0, c1, c2, c3⟩ := cellsF hr0
  have hb1 := Lib.hid hb0
  have hI := Lib.hid (frIncrease_any f.F f.n _ W (hi.mono hb0) ff.F ff.n)
  have hS := Lib.hid (validStrings_any f.L _ W (ho.mono hb0) ff.l)
  have hK := Lib.hid (fun wz => hasNumber_any f.k wz)
  have hD := Lib.hid (fun wz => hasIDs_any f.k wz)
  have p1 := Lib.hid (fun h => parts_num (f := f) h)
  have p2 := Lib.hid (fun h h2 => parts_ids (f := f) h h2)
  have p3 := Lib.hid (fun h h2 => parts_ops (f := f) h h2)
  clear hr0 hb0 hi ho ff
  generalize partsB f = R at *
  generalize riseF f.F f.n = RB at *
  generalize okL f.L = OK at *
  obtain ⟨k, N, n, F, L⟩ := f
  dsimp only at *
  generalize L.length = m at *
  cases hk : numK k
  · rw [hk] at hK
    replace p2 := Lib.hid (p2.out hk)
    replace p3 := Lib.hid (p3.out hk)
    cases hd : idsK k
    · rw [hd] at hD
      replace p3 := Lib.hid (p3.out hd)
      clear p1 p2 hk hd
      by_cases h5 : k = 5
      · subst h5
        by_cases hN : N = 0
        · subst hN
          by_cases hn : n = 0
          · subst hn
            have e := Lib.hid (show R = OK by rw [p3.out]; simp)
            clear p3
            go_enter Tryz.func112, Tryz.ntmps112
            go_upto_region 1 with fail
            rw [← hW]
            clear hW
            go_wp2_with (first
              | (go_at_call 113; (with_reducible refine (hK.out _).mono ?_); rintro e w2 ⟨rfl, rfl⟩)
              | (go_at_call 114; (with_reducible refine (hD.out _).mono ?_); rintro e w2 ⟨rfl, rfl⟩)
              | (go_at_call 126; (with_reducible refine (hS.out).mono ?_); rintro e w2 ⟨rfl, rfl⟩)
              | (go_at_call 125; (with_reducible refine (hI.out).mono ?_); rintro e w3 ⟨rfl, h3⟩; replace hb1 := Lib.hid (hb1.out.trans (Below.mono h3 hb1.out.size)); clear h3))
            go_ret
            exact ⟨ret_bool (by first | exact e.out.symm | (rw [e.out]; simp <;> omega)), hb1.out⟩
          · have e := Lib.hid (show R = false by rw [p3.out, decide_eq_false hn]; simp)
            clear p3
            go_enter Tryz.func112, Tryz.ntmps112
            go_upto_region 1 with fail
            rw [← hW]
            clear hW
            go_wp2_with (first
              | (go_at_call 113; (with_reducible refine (hK.out _).mono ?_); rintro e w2 ⟨rfl, rfl⟩)
              | (go_at_call 114; (with_reducible refine (hD.out _).mono ?_); rintro e w2 ⟨rfl, rfl⟩)
              | (go_at_call 126; (with_reducible refine (hS.out).mono ?_); rintro e w2 ⟨rfl, rfl⟩)
              | (go_at_call 125; (with_reducible refine (hI.out).mono ?_); rintro e w3 ⟨rfl, h3⟩; replace hb1 := Lib.hid (hb1.out.trans (Below.mono h3 hb1.out.size)); clear h3))
            go_ret
            exact ⟨ret_bool (by first | exact e.out.symm | (rw [e.out]; simp <;> omega)), hb1.out⟩
        · have e := Lib.hid (show R = false by rw [p3.out, decide_eq_false hN]; simp)
          clear p3
          go_enter Tryz.func112, Tryz.ntmps112
          go_upto_region 1 with fail
          rw [← hW]
          clear hW
          go_wp2_with (first
            | (go_at_call 113; (with_reducible refine (hK.out _).mono ?_); rintro e w2 ⟨rfl, rfl⟩)
            | (go_at_call 114; (with_reducible refine (hD.out _).mono ?_); rintro e w2 ⟨rfl, rfl⟩)
            | (go_at_call 126; (with_reducible refine (hS.out).mono ?_); rintro e w2 ⟨rfl, rfl⟩)
            | (go_at_call 125; (with_reducible refine (hI.out).mono ?_); rintro e w3 ⟨rfl, h3⟩; replace hb1 := Lib.hid (hb1.out.trans (Below.mono h3 hb1.out.size)); clear h3))
          go_ret
          exact ⟨ret_bool (by first | exact e.out.symm | (rw [e.out]; simp <;> omega)), hb1.out⟩
      · have e := Lib.hid (show R = false by rw [p3.out, decide_eq_false h5]; simp)
        clear p3
        go_enter Tryz.func112, Tryz.ntmps112
        go_upto_region 1 with fail
        rw [← hW]
        clear hW
        go_wp2_with (first
          | (go_at_call 113; (with_reducible refine (hK.out _).mono ?_); rintro e w2 ⟨rfl, rfl⟩)
          | (go_at_call 114; (with_reducible refine (hD.out _).mono ?_); rintro e w2 ⟨rfl, rfl⟩)
          | (go_at_call 126; (with_reducible refine (hS.out).mono ?_); rintro e w2 ⟨rfl, rfl⟩)
          | (go_at_call 125; (with_reducible refine (hI.out).mono ?_); rintro e w3 ⟨rfl, h3⟩; replace hb1 := Lib.hid (hb1.out.trans (Below.mono h3 hb1.out.size)); clear h3))
        go_ret
        exact ⟨ret_bool (by first | exact e.out.symm | (rw [e.out]; simp <;> omega)), hb1.out⟩
    · rw [hd] at hD
      replace p2 := Lib.hid (p2.out hd)
      clear p1 p3 hk hd
      by_cases hN : N = 0
      · subst hN
        by_cases hm : m = 0
        · subst hm
          by_cases hn : n ≤ 40
          · have e := Lib.hid (show R = RB by rw [p2.out, decide_eq_true hn]; simp)
            clear p2
            go_enter Tryz.func112, Tryz.ntmps112
            go_upto_region 1 with fail
            rw [← hW]
            clear hW
            go_wp2_with (first
              | (go_at_call 113; (with_reducible refine (hK.out _).mono ?_); rintro e w2 ⟨rfl, rfl⟩)
              | (go_at_call 114; (with_reducible refine (hD.out _).mono ?_); rintro e w2 ⟨rfl, rfl⟩)
              | (go_at_call 126; (with_reducible refine (hS.out).mono ?_); rintro e w2 ⟨rfl, rfl⟩)
              | (go_at_call 125; (with_reducible refine (hI.out).mono ?_); rintro e w3 ⟨rfl, h3⟩; replace hb1 := Lib.hid (hb1.out.trans (Below.mono h3 hb1.out.size)); clear h3))
            go_ret
            exact ⟨ret_bool (by first | exact e.out.symm | (rw [e.out]; simp <;> omega)), hb1.out⟩
          · have e := Lib.hid (show R = false by rw [p2.out, decide_eq_false hn]; simp)
            clear p2
            go_enter Tryz.func112, Tryz.ntmps112
            go_upto_region 1 with fail
            rw [← hW]
            clear hW
            go_wp2_with (first
              | (go_at_call 113; (with_reducible refine (hK.out _).mono ?_); rintro e w2 ⟨rfl, rfl⟩)
              | (go_at_call 114; (with_reducible refine (hD.out _).mono ?_); rintro e w2 ⟨rfl, rfl⟩)
              | (go_at_call 126; (with_reducible refine (hS.out).mono ?_); rintro e w2 ⟨rfl, rfl⟩)
              | (go_at_call 125; (with_reducible refine (hI.out).mono ?_); rintro e w3 ⟨rfl, h3⟩; replace hb1 := Lib.hid (hb1.out.trans (Below.mono h3 hb1.out.size)); clear h3))
            go_ret
            exact ⟨ret_bool (by first | exact e.out.symm | (rw [e.out]; simp <;> omega)), hb1.out⟩
        · have e := Lib.hid (show R = false by rw [p2.out, decide_eq_false hm]; simp)
          clear p2
          go_enter Tryz.func112, Tryz.ntmps112
          go_upto_region 1 with fail
          rw [← hW]
          clear hW
          go_wp2_with (first
            | (go_at_call 113; (with_reducible refine (hK.out _).mono ?_); rintro e w2 ⟨rfl, rfl⟩)
            | (go_at_call 114; (with_reducible refine (hD.out _).mono ?_); rintro e w2 ⟨rfl, rfl⟩)
            | (go_at_call 126; (with_reducible refine (hS.out).mono ?_); rintro e w2 ⟨rfl, rfl⟩)
            | (go_at_call 125; (with_reducible refine (hI.out).mono ?_); rintro e w3 ⟨rfl, h3⟩; replace hb1 := Lib.hid (hb1.out.trans (Below.mono h3 hb1.out.size)); clear h3))
          go_ret
          exact ⟨ret_bool (by first | exact e.out.symm | (rw [e.out]; simp <;> omega)), hb1.out⟩
      · have e := Lib.hid (show R = false by rw [p2.out, decide_eq_false hN]; simp)
        clear p2
        go_enter Tryz.func112, Tryz.ntmps112
        go_upto_region 1 with fail
        rw [← hW]
        clear hW
        go_wp2_with (first
          | (go_at_call 113; (with_reducible refine (hK.out _).mono ?_); rintro e w2 ⟨rfl, rfl⟩)
          | (go_at_call 114; (with_reducible refine (hD.out _).mono ?_); rintro e w2 ⟨rfl, rfl⟩)
          | (go_at_call 126; (with_reducible refine (hS.out).mono ?_); rintro e w2 ⟨rfl, rfl⟩)
          | (go_at_call 125; (with_reducible refine (hI.out).mono ?_); rintro e w3 ⟨rfl, h3⟩; replace hb1 := Lib.hid (hb1.out.trans (Below.mono h3 hb1.out.size)); clear h3))
        go_ret
        exact ⟨ret_bool (by first | exact e.out.symm | (rw [e.out]; simp <;> omega)), hb1.out⟩
  · rw [hk] at hK
    replace p1 := Lib.hid (p1.out hk)
    clear p2 p3 hk
    by_cases hn : n = 0
    · subst hn
      by_cases hm : m = 0
      · subst hm
        have e := Lib.hid (show R = true by rw [p1.out]; simp)
        clear p1
        go_enter Tryz.func112, Tryz.ntmps112
        go_upto_region 1 with fail
        rw [← hW]
        clear hW
        go_wp2_with (first
          | (go_at_call 113; (with_reducible refine (hK.out _).mono ?_); rintro e w2 ⟨rfl, rfl⟩)
          | (go_at_call 114; (with_reducible refine (hD.out _).mono ?_); rintro e w2 ⟨rfl, rfl⟩)
          | (go_at_call 126; (with_reducible refine (hS.out).mono ?_); rintro e w2 ⟨rfl, rfl⟩)
          | (go_at_call 125; (with_reducible refine (hI.out).mono ?_); rintro e w3 ⟨rfl, h3⟩; replace hb1 := Lib.hid (hb1.out.trans (Below.mono h3 hb1.out.size)); clear h3))
        go_ret
        exact ⟨ret_bool (by first | exact e.out.symm | (rw [e.out]; simp <;> omega)), hb1.out⟩
      · have e := Lib.hid (show R = false by rw [p1.out, decide_eq_false hm]; simp)
        clear p1
        go_enter Tryz.func112, Tryz.ntmps112
        go_upto_region 1 with fail
        rw [← hW]
        clear hW
        go_wp2_with (first
          | (go_at_call 113; (with_reducible refine (hK.out _).mono ?_); rintro e w2 ⟨rfl, rfl⟩)
          | (go_at_call 114; (with_reducible refine (hD.out _).mono ?_); rintro e w2 ⟨rfl, rfl⟩)
          | (go_at_call 126; (with_reducible refine (hS.out).mono ?_); rintro e w2 ⟨rfl, rfl⟩)
          | (go_at_call 125; (with_reducible refine (hI.out).mono ?_); rintro e w3 ⟨rfl, h3⟩; replace hb1 := Lib.hid (hb1.out.trans (Below.mono h3 hb1.out.size)); clear h3))
        go_ret
        exact ⟨ret_bool (by first | exact e.out.symm | (rw [e.out]; simp <;> omega)), hb1.out⟩
    · have e := Lib.hid (show R = false by rw [p1.out, decide_eq_false hn]; simp)
      clear p1
      go_enter Tryz.func112, Tryz.ntmps112
      go_upto_region 1 with fail
      rw [← hW]
      clear hW
      go_wp2_with (first
        | (go_at_call 113; (with_reducible refine (hK.out _).mono ?_); rintro e w2 ⟨rfl, rfl⟩)
        | (go_at_call 114; (with_reducible refine (hD.out _).mono ?_); rintro e w2 ⟨rfl, rfl⟩)
        | (go_at_call 126; (with_reducible refine (hS.out).mono ?_); rintro e w2 ⟨rfl, rfl⟩)
        | (go_at_call 125; (with_reducible refine (hI.out).mono ?_); rintro e w3 ⟨rfl, h3⟩; replace hb1 := Lib.hid (hb1.out.trans (Below.mono h3 hb1.out.size)); clear h3))
      go_ret
      exact ⟨ret_bool (by first | exact e.out.symm | (rw [e.out]; simp <;> omega)), hb1.out⟩
end Go.Proofs.YtfaojjleapenaabGreatDoor.wir.frm
namespace Go.Proofs.YtfaojjleapenaabGreatDoor.wir.frm
open Go.RowKit Go.YtfaojjleapenaabGreatDoor
set_option linter.unusedVariables false
theorem txts_len (L : List (List Int)) (h : ∀ i, (nthL L i).length ≤ 400) : ∀ k, (txts L k).length ≤ 409 * k
  | 0 => by simp [txts]
  | k + 1 => by
    have ih := txts_len L h k
    have h1 := h k
    have h2 := numL_le (nthL L k).length (by omega)
    rw [show txts L (k + 1) = txts L k ++ textB (nthL L k) from rfl, List.length_append, textB_length]
    omega
theorem okL_parts {L : List (List Int)} (h : okL L = true) : L.length ≤ 8 ∧ ∀ i, (nthL L i).length ≤ 400 := by
  unfold okL at h
  rw [Bool.and_eq_true, decide_eq_true_eq] at h
  exact ⟨h.1, okS_at h.2⟩
theorem own_byte (W : World) (x : Int) : OwnB W.heap.size 5 (W.alloc (.cells #[.int .u8 x] 5)) (.slice (some ⟨W.heap.size, 0, none⟩) 1 1) [x] :=
  ownB_row (cs := [x]) (heap_alloc_new W (.cells #[.int .u8 x] 5)) 1 rfl (by decide) (Nat.le_refl W.heap.size)
set_option maxHeartbeats 2000000 in
set_option maxRecDepth 100000 in
theorem write_any (f : Fr) (ff : f.Fit) (hp : partsB f = true) (iv ov : Value) (w : World) (hi : RdI w iv f.n f.F) (ho : RdS w ov f.L) :
    Calls Tryz.prog 89 #[.agg (f.c iv ov)] w fun e w' => ∃ sv, e = .returned sv ∧ OwnB w.heap.size 5 w' sv (frB f) ∧ Below w.heap.size w w' := by
  obtain ⟨W, hW⟩ : ∃ W, W = w.alloc (.cells (f.c iv ov) 105) := ⟨_, rfl⟩
  have hr0 := heap_alloc_new w (.cells (f.c iv ov) 105)
  have hb0 := (Below.refl w.heap.size w).alloc (Nat.le_refl _) (.cells (f.c iv ov) 105)
  rw [← hW] at hr0 hb0
  obtain ⟨ia, ic, rfl⟩ := hi.slice
  obtain ⟨oa, oc, rfl⟩ := ho.slice
  have hrow := Lib.hid hr0
  have hmids := Lib.hid (fun (wz : World) (h : Below W.heap.size W wz) => (cellsF (rowB hrow.out h (Array.getElem?_eq_some_iff.1 hr0).1)))
  obtain ⟨c0, c1, c2, c3⟩ := cellsF hr0
  have hb1 := Lib.hid hb0
  have hi' := Lib.hid (hi.mono hb0)
  have ho' := Lib.hid (ho.mono hb0)
  have hK := Lib.hid (fun wz => hasNumber_any f.k wz)
  have hD := Lib.hid (fun wz => hasIDs_any f.k wz)
  have ffh := Lib.hid ff
  have p1 := Lib.hid (fun h => (parts_num (f := f) h).symm.trans hp)
  have p2 := Lib.hid (fun h h2 => (parts_ids (f := f) h h2).symm.trans hp)
  have p3 := Lib.hid (fun h h2 => (parts_ops (f := f) h h2).symm.trans hp)
  have hfr := Lib.hid (show frB f = [f.k] ++ (if numK f.k = true then numB f.N else if idsK f.k = true then numB f.n ++ f.F else numB f.L.length ++ txts f.L f.L.length) from rfl)
  have hOw := Lib.hid (own_byte W f.k)
  have hBw := Lib.hid (below_a W (.cells #[.int .u8 f.k] 5))
  clear hr0 hb0 hi ho ff hp
  go_enter Tryz.func89, Tryz.ntmps89
  go_upto_region 1 with fail
  rw [← hW]
  clear hW
  go_upto_region 2 with fail
  generalize W.alloc (.cells #[.int .u8 f.k] 5) = W1 at *
  generalize Value.slice (some ⟨W.heap.size, 0, none⟩) 1 1 = sv at *
  obtain ⟨sa, sc, rfl⟩ := own_slice hOw.out 1 rfl
  replace c0 := (hmids.out _ hBw.out).1
  replace c1 := (hmids.out _ hBw.out).2.1
  replace c2 := (hmids.out _ hBw.out).2.2.1
  replace c3 := (hmids.out _ hBw.out).2.2.2
  cases hk : numK f.k
  · rw [hk] at hK hfr
    rw [if_neg (by decide)] at hfr
    replace p2 := Lib.hid (p2.out hk)
    replace p3 := Lib.hid (p3.out hk)
    cases hd : idsK f.k
    · rw [hd] at hD hfr
      rw [if_neg (by decide)] at hfr
      replace p3 := p3.out hd
      rw [Bool.and_eq_true, Bool.and_eq_true, Bool.and_eq_true] at p3
      obtain ⟨hl8, hl4⟩ := okL_parts p3.2.2.2
      have hnu := Lib.hid (fun (wz : World) => number_any f.L.length (by omega) wz)
      have hln := Lib.hid (numL_le f.L.length (by omega))
      have hlt := Lib.hid (txts_len f.L hl4)
      have h4 := Lib.hid hl4
      have hN0 := Lib.hid (numB_length f.L.length)
      have hu6 : IntKind.u64.wrap (f.L.length : Int) = (f.L.length : Int) := IntWalk.u64_in _ (by omega)
      clear p1 p2 p3 hk hd hl4
      generalize hm : f.L.length = m at *
      have hm' := Lib.hid hm
      clear hm
      go_upto_region 7 with (first
        | (go_at_call 113; (with_reducible refine (hK.out _).mono ?_); rintro e w2 ⟨rfl, rfl⟩)
        | (go_at_call 114; (with_reducible refine (hD.out _).mono ?_); rintro e w2 ⟨rfl, rfl⟩))
      go_wp2_with (first
        | (go_at_call 35; (with_reducible refine (hnu.out _).mono ?_); rintro e w4 ⟨rfl, q1, q2⟩; replace hOw := Lib.hid (hOw.out.kept q2); replace hBw := Lib.hid (hBw.out.trans (q2.mono hBw.out.size)); have hr := Lib.hid (rdB_row q1 _ (numB_length _) (Nat.le_trans hln.out (by decide))); clear q1 q2)
        | (refine appendB rfl _ _ 22 rfl W.heap.size 5 Tryz.underlying22 (by kernel_rfl) _ rfl [f.k] hOw.out _ rfl (numB m) hr.out (by rw [hN0.out, List.length_singleton]; have h1 := hln.out; omega) hBw.out.size ?_))
      intro v5 w5 h1 h2
      replace hBw := Lib.hid (hBw.out.trans (hOw.out.below h2 hBw.out.size))
      clear hOw hr h2 hnu
      have hOw := Lib.hid h1
      clear h1
      refine Stop.go ?_
      have c3 := (hmids.out _ hBw.out).2.2.2
      have hw5 := Lib.hid hBw.out.size
      go_wp2
      go_loopw [3, 45] (fun b i wr => ∃ k : Nat, k ≤ m ∧ i = .int .i64 k ∧ OwnB W.heap.size 5 wr b (([f.k] ++ numB m) ++ txts f.L k) ∧ Below W.heap.size W wr) (fun _ i _ => m - (intOf i).toNat)
      case atStart => exact ⟨0, Nat.zero_le _, rfl, by rw [show txts f.L 0 = [] from rfl, List.append_nil]; exact hOw.out, hBw.out⟩
      case round =>
        obtain ⟨k, hk, rfl, ho, hb⟩ := hrel
        obtain ⟨ba, bc, rfl⟩ := own_slice ho _ rfl
        have ho2 := Lib.hid ho
        have hb2 := Lib.hid hb
        obtain ⟨Z, hZ⟩ : ∃ Z, (([f.k] ++ numB m) ++ txts f.L k).length = Z := ⟨_, rfl⟩
        have hZ' := Lib.hid hZ
        have hZ2 : Z ≤ 4000 := by
          have h1 := hlt.out k
          have h2 := hln.out
          rw [← hZ, List.length_append, List.length_append, List.length_singleton, hN0.out]
          omega
        rw [hZ]
        clear ho hb hZ
        by_cases hlt2 : k < m
        · obtain ⟨b, o, rfl, hbw, s, hc, hs⟩ := ho'.out.at k (by rw [hm'.out]; exact hlt2)
          have hc2 := (hb2.out.cell (p := (⟨b, o + k, none⟩ : Addr)) hbw).trans hc
          have hs2 := Lib.hid (hs.mono hb2.out)
          obtain ⟨qa, qc, rfl⟩ := hs.slice
          have hby := Lib.hid (fun (wz : World) (h : RdB wz (.slice qa (nthL f.L k).length qc) (nthL f.L k)) => bytes_any _ _ wz h (Nat.le_trans (h4.out k) (by decide)))
          have htl := Lib.hid (show (textB (nthL f.L k)).length ≤ 409 by rw [textB_length]; have h1 := h4.out k; have h2 := numL_le (nthL f.L k).length (by omega); omega)
          clear hs hc
          go_wp2_with (first
            | (go_at_call 62; (with_reducible refine (hby.out _ hs2.out).mono ?_); rintro e w6 ⟨g6, rfl, q0, q1, q2⟩; have ho3 := Lib.hid (ho2.out.kept q2); have hb3 := Lib.hid (hb2.out.trans (q2.mono hb2.out.size)); have hr := Lib.hid (rdB_row q1 _ rfl (Nat.le_trans htl.out (by decide))); clear q0 q1 q2)
            | (refine appendB rfl _ _ 22 rfl W.heap.size 5 Tryz.underlying22 (by kernel_rfl) _ rfl (([f.k] ++ numB m) ++ txts f.L k) (by have h := ho3.out; rw [hZ'.out] at h; exact h) _ rfl (textB (nthL f.L k)) hr.out (by rw [hZ'.out]; have h1 := htl.out; omega) hb3.out.size ?_))
          intro v7 w7 h1 h2
          have hb4 := Lib.hid (hb3.out.trans ((by have h := ho3.out; rw [hZ'.out] at h; exact h : OwnB W.heap.size 5 w6 (.slice ba Z bc) (([f.k] ++ numB m) ++ txts f.L k)).below h2 hb3.out.size))
          have ho4 := Lib.hid (show OwnB W.heap.size 5 w7 v7 (([f.k] ++ numB m) ++ txts f.L (k + 1)) by rw [show (([f.k] ++ numB m) ++ txts f.L (k + 1)) = f.k :: (numB m ++ (txts f.L k ++ textB (nthL f.L k))) by simp [txts]]; exact h1)
          clear h1 h2 ho3 hb3 hr hby hs2
          refine Stop.go ?_
          go_wp2
          go_roundw
          case rel => exact ⟨k + 1, by omega, by go_num, ho4.out, hb4.out⟩
          case measure => simp [intOf]; omega
        · obtain rfl : k = m := by omega
          go_wp2
          go_ret
          exact ⟨_, rfl, by rw [hfr.out, ← List.append_assoc]; have h := ho2.out.mono hb1.out.size; rw [hZ'.out] at h; exact h, hb1.out.trans (hb2.out.mono hb1.out.size)⟩
    · rw [hd] at hD hfr
      rw [if_pos rfl] at hfr
      replace p2 := p2.out hd
      rw [Bool.and_eq_true, Bool.and_eq_true, Bool.and_eq_true, decide_eq_true_eq, decide_eq_true_eq, decide_eq_true_eq] at p2
      obtain ⟨_, _, hn, hri⟩ := p2
      have hid := Lib.hid (fun (wz : World) (h : Below W.heap.size W wz) => ids_ok f.F f.n (.slice ia f.n ic) wz (hi'.out.mono h) ffh.out.F (by omega) hri)
      have hln := Lib.hid (numL_le f.n (by omega))
      have hlF := Lib.hid ffh.out.len
      clear p1 p3 hk hd
      go_wp2_with (first
        | (go_at_call 113; (with_reducible refine (hK.out _).mono ?_); rintro e w2 ⟨rfl, rfl⟩)
        | (go_at_call 114; (with_reducible refine (hD.out _).mono ?_); rintro e w2 ⟨rfl, rfl⟩)
        | (go_at_call 61; (with_reducible refine (hid.out _ hBw.out).mono ?_); rintro e w4 ⟨g4, rfl, q0, q1, q2⟩; replace hOw := Lib.hid (hOw.out.kept q2); replace hBw := Lib.hid (hBw.out.trans (q2.mono hBw.out.size)); have hr := Lib.hid (rdB_row q1 _ (by rw [List.length_append, numB_length, hlF.out]) (by have h1 := hln.out; unfold maxLen; omega)); clear q0 q1 q2)
        | (refine appendB rfl _ _ 22 rfl W.heap.size 5 Tryz.underlying22 (by kernel_rfl) _ rfl [f.k] hOw.out _ rfl (numB f.n ++ f.F) hr.out (by rw [List.length_append, numB_length, hlF.out, List.length_singleton]; have h1 := hln.out; omega) hBw.out.size ?_))
      intro v5 w5 h1 h2
      replace hBw := Lib.hid (hBw.out.trans (hOw.out.below h2 hBw.out.size))
      refine Stop.go ?_
      go_wp2
      go_ret
      exact ⟨_, rfl, by rw [hfr.out]; exact h1.mono hb1.out.size, hb1.out.trans (hBw.out.mono hb1.out.size)⟩
  · rw [hk] at hK hfr
    rw [if_pos rfl] at hfr
    have hnu := Lib.hid (fun (wz : World) => number_any f.N ffh.out.N wz)
    have hln := Lib.hid (numL_le f.N ffh.out.N)
    clear p1 p2 p3 hk
    go_wp2_with (first
      | (go_at_call 113; (with_reducible refine (hK.out _).mono ?_); rintro e w2 ⟨rfl, rfl⟩)
      | (go_at_call 35; (with_reducible refine (hnu.out _).mono ?_); rintro e w4 ⟨rfl, q1, q2⟩; replace hOw := Lib.hid (hOw.out.kept q2); replace hBw := Lib.hid (hBw.out.trans (q2.mono hBw.out.size)); have hr := Lib.hid (rdB_row q1 _ (numB_length _) (Nat.le_trans hln.out (by decide))); clear q1 q2)
      | (refine appendB rfl _ _ 22 rfl W.heap.size 5 Tryz.underlying22 (by kernel_rfl) _ rfl [f.k] hOw.out _ rfl (numB f.N) hr.out (by rw [numB_length, List.length_singleton]; have h1 := hln.out; omega) hBw.out.size ?_))
    intro v5 w5 h1 h2
    replace hBw := Lib.hid (hBw.out.trans (hOw.out.below h2 hBw.out.size))
    refine Stop.go ?_
    go_wp2
    go_ret
    exact ⟨_, rfl, by rw [hfr.out]; exact h1.mono hb1.out.size, hb1.out.trans (hBw.out.mono hb1.out.size)⟩
end Go.Proofs.YtfaojjleapenaabGreatDoor.wir.frm
namespace Go.Proofs.YtfaojjleapenaabGreatDoor.wir.frm
open Go.RowKit Go.YtfaojjleapenaabGreatDoor
set_option linter.unusedVariables false
theorem chkR_no {f : Fr} (h : partsB f = false) : chkR f = 8 := by
  unfold chkR frOk
  rw [h]
  rfl
theorem chkR_long {f : Fr} (h : 2000 < (frB f).length) : chkR f = 8 := by
  unfold chkR frOk
  rw [decide_eq_false (by omega), Bool.and_false]
  rfl
theorem chkR_ok {f : Fr} (h : partsB f = true) (h2 : (frB f).length ≤ 2000) : chkR f = 0 := by
  unfold chkR frOk
  rw [h, decide_eq_true h2]
  rfl
set_option maxHeartbeats 2000000 in
set_option maxRecDepth 100000 in
theorem frCheck_any (f : Fr) (ff : f.Fit) (iv ov : Value) (w : World) (hi : RdI w iv f.n f.F) (ho : RdS w ov f.L) :
    Calls Tryz.prog 88 #[.agg (f.c iv ov)] w fun e w' => e = .returned (.int .i64 (chkR f)) ∧ Below w.heap.size w w' := by
  obtain ⟨W, hW⟩ : ∃ W, W = w.alloc (.cells (f.c iv ov) 105) := ⟨_, rfl⟩
  have hr0 := heap_alloc_new w (.cells (f.c iv ov) 105)
  have hb0 := (Below.refl w.heap.size w).alloc (Nat.le_refl _) (.cells (f.c iv ov) 105)
  rw [← hW] at hr0 hb0
  obtain ⟨ia, ic, rfl⟩ := hi.slice
  obtain ⟨oa, oc, rfl⟩ := ho.slice
  have hlt := (Array.getElem?_eq_some_iff.1 hr0).1
  have hrows := Lib.hid (fun (wz : World) (h : Below W.heap.size W wz) => rowB hr0 h hlt)
  have hb1 := Lib.hid hb0
  have hB := Lib.hid (Below.refl W.heap.size W)
  have hP := Lib.hid (fun (wz : World) (h : Below W.heap.size W wz) => validParts_any f ff _ _ wz ((hi.mono hb0).mono h) ((ho.mono hb0).mono h))
  cases hp : partsB f
  · have e := Lib.hid (chkR_no hp)
    rw [hp] at hP
    generalize chkR f = R at *
    clear hp hr0 hb0 hi ho ff
    go_enter Tryz.func88, Tryz.ntmps88
    go_upto_region 1 with fail
    rw [← hW]
    clear hW
    go_wp2_with (first | (refine wpList_load_row_g rfl 105 _ rfl w.heap.size rfl 105 (f.c (.slice ia f.n ic) (.slice oa f.L.length oc)) (0, 0) _ (hrows.out _ hB.out) Tryz.underlying105 rfl info_frame ?_) | (go_at_call 112; (with_reducible refine (hP.out _ hB.out).mono ?_); rintro e w3 ⟨rfl, h3⟩; replace hB := Lib.hid (hB.out.trans (Below.mono h3 hB.out.size)); clear h3))
    go_ret
    exact ⟨ret_int e.out.symm, hb1.out.trans (hB.out.mono hb1.out.size)⟩
  · have hw := Lib.hid (fun (wz : World) (h : Below W.heap.size W wz) => write_any f ff hp _ _ wz ((hi.mono hb0).mono h) ((ho.mono hb0).mono h))
    have hlong := Lib.hid (fun h => chkR_long (f := f) h)
    have hok := Lib.hid (fun h => chkR_ok (f := f) hp h)
    rw [hp] at hP
    obtain ⟨Z, hZ⟩ : ∃ Z, (frB f).length = Z := ⟨_, rfl⟩
    rw [hZ] at hlong hok
    have hZ' := Lib.hid hZ
    generalize chkR f = R at *
    clear hp hr0 hb0 hi ho ff hZ
    by_cases h2 : 2000 < Z
    · have e := Lib.hid (hlong.out h2)
      go_enter Tryz.func88, Tryz.ntmps88
      go_upto_region 1 with fail
      rw [← hW]
      clear hW
      go_wp2_with (first | (refine wpList_load_row_g rfl 105 _ rfl w.heap.size rfl 105 (f.c (.slice ia f.n ic) (.slice oa f.L.length oc)) (0, 0) _ (hrows.out _ hB.out) Tryz.underlying105 rfl info_frame ?_) | (go_at_call 112; (with_reducible refine (hP.out _ hB.out).mono ?_); rintro e w3 ⟨rfl, h3⟩; replace hB := Lib.hid (hB.out.trans (Below.mono h3 hB.out.size)); clear h3) | (go_at_call 89; (with_reducible refine (hw.out _ hB.out).mono ?_); rintro e w3 ⟨sv, rfl, hO, h3⟩; obtain ⟨sa, sc, rfl⟩ := own_slice hO _ hZ'.out; clear hO; replace hB := Lib.hid (hB.out.trans (Below.mono h3 hB.out.size)); clear h3))
      go_ret
      exact ⟨ret_int e.out.symm, hb1.out.trans (hB.out.mono hb1.out.size)⟩
    · have e := Lib.hid (hok.out (by omega))
      go_enter Tryz.func88, Tryz.ntmps88
      go_upto_region 1 with fail
      rw [← hW]
      clear hW
      go_wp2_with (first | (refine wpList_load_row_g rfl 105 _ rfl w.heap.size rfl 105 (f.c (.slice ia f.n ic) (.slice oa f.L.length oc)) (0, 0) _ (hrows.out _ hB.out) Tryz.underlying105 rfl info_frame ?_) | (go_at_call 112; (with_reducible refine (hP.out _ hB.out).mono ?_); rintro e w3 ⟨rfl, h3⟩; replace hB := Lib.hid (hB.out.trans (Below.mono h3 hB.out.size)); clear h3) | (go_at_call 89; (with_reducible refine (hw.out _ hB.out).mono ?_); rintro e w3 ⟨sv, rfl, hO, h3⟩; obtain ⟨sa, sc, rfl⟩ := own_slice hO _ hZ'.out; clear hO; replace hB := Lib.hid (hB.out.trans (Below.mono h3 hB.out.size)); clear h3))
      go_ret
      exact ⟨ret_int e.out.symm, hb1.out.trans (hB.out.mono hb1.out.size)⟩
theorem chkR_yes {f : Fr} (h : frOk f = true) : chkR f = 0 := if_pos h
theorem frOk_parts {f : Fr} (h : frOk f = true) : partsB f = true ∧ (frB f).length ≤ 2000 := by
  unfold frOk at h
  rw [Bool.and_eq_true, decide_eq_true_eq] at h
  exact h
set_option maxHeartbeats 2000000 in
set_option maxRecDepth 100000 in
theorem frEncode_ok (f : Fr) (ff : f.Fit) (h0 : frOk f = true) (iv ov : Value) (w : World) (hi : RdI w iv f.n f.F) (ho : RdS w ov f.L) :
    Calls Tryz.prog 58 #[.agg (f.c iv ov)] w fun e w' => ∃ sv, e = .returned (.tuple #[sv, .int .i64 0]) ∧ OwnB w.heap.size 5 w' sv (frB f) ∧ Below w.heap.size w w' := by
  obtain ⟨W, hW⟩ : ∃ W, W = w.alloc (.cells (f.c iv ov) 105) := ⟨_, rfl⟩
  have hr0 := heap_alloc_new w (.cells (f.c iv ov) 105)
  have hb0 := (Below.refl w.heap.size w).alloc (Nat.le_refl _) (.cells (f.c iv ov) 105)
  rw [← hW] at hr0 hb0
  obtain ⟨ia, ic, rfl⟩ := hi.slice
  obtain ⟨oa, oc, rfl⟩ := ho.slice
  have hlt := (Array.getElem?_eq_some_iff.1 hr0).1
  have hrows := Lib.hid (fun (wz : World) (h : Below W.heap.size W wz) => rowB hr0 h hlt)
  have hb1 := Lib.hid hb0
  have hB := Lib.hid (Below.refl W.heap.size W)
  have hC := Lib.hid (fun (wz : World) (h : Below W.heap.size W wz) => frCheck_any f ff _ _ wz ((hi.mono hb0).mono h) ((ho.mono hb0).mono h))
  have hw := Lib.hid (fun (wz : World) (h : Below W.heap.size W wz) => write_any f ff (frOk_parts h0).1 _ _ wz ((hi.mono hb0).mono h) ((ho.mono hb0).mono h))
  rw [chkR_yes h0] at hC
  clear hr0 hb0 hi ho ff h0
  go_enter Tryz.func58, Tryz.ntmps58
  go_upto_region 1 with fail
  rw [← hW]
  clear hW
  go_wp2_with (first | (refine wpList_load_row_g rfl 105 _ rfl w.heap.size rfl 105 (f.c (.slice ia f.n ic) (.slice oa f.L.length oc)) (0, 0) _ (hrows.out _ hB.out) Tryz.underlying105 rfl info_frame ?_) | (go_at_call 88; (with_reducible refine (hC.out _ hB.out).mono ?_); rintro e w3 ⟨rfl, h3⟩; replace hB := Lib.hid (hB.out.trans (Below.mono h3 hB.out.size)); clear h3) | (go_at_call 89; (with_reducible refine (hw.out _ hB.out).mono ?_); rintro e w3 ⟨sv, rfl, hO, h3⟩; replace hO := Lib.hid (hO.mono (Nat.le_trans hb1.out.size hB.out.size)); replace hB := Lib.hid (hB.out.trans (Below.mono h3 hB.out.size)); clear h3))
  go_ret2
  exact ⟨_, rfl, hO.out, hb1.out.trans (hB.out.mono hb1.out.size)⟩
end Go.Proofs.YtfaojjleapenaabGreatDoor.wir.frm
namespace Go.Proofs.YtfaojjleapenaabGreatDoor.wir.frm
open Go.RowKit Go.YtfaojjleapenaabGreatDoor
set_option linter.unusedVariables false
theorem ownNe {B : Nat} {E T : TypeId} {w : World} {v : Value} {l : List Int} (h : OwnB B E w v l) {g : Nat} {cs : Array Value} {fr : Nat × Nat} (hg : w.heap[g]? = some (.cells cs T fr)) (hT : T ≠ E) : some g ≠ v.ownBlock := by
  rcases h.2 with ⟨rfl, _⟩ | ⟨k, cap, cur, rfl, hb, hk, _⟩
  · intro e; cases e
  · intro e
    simp only [Value.ownBlock, Option.some.injEq] at e
    subst e
    rw [hg] at hk
    injection hk with hk
    injection hk with _ h2 _
    exact hT h2
theorem own_setCell {B : Nat} {E T : TypeId} {w : World} {v : Value} {l : List Int} (h : OwnB B E w v l) {g : Nat} {cs : Array Value} (hg : w.heap[g]? = some (.cells cs T (0, 0))) (hT : T ≠ E) (i : Nat) (x : Value) : OwnB B E (w.setCell ⟨g, i, none⟩ x) v l := by
  have hne := ownNe h hg hT
  rw [setCell_eq hg]
  refine ⟨h.1, ?_⟩
  rcases h.2 with hn | ⟨k, cap, cur, rfl, hb, hk, rest⟩
  · exact .inl hn
  · refine .inr ⟨k, cap, cur, rfl, hb, (setRow_other w g k _ ?_).trans hk, rest⟩
    intro e
    exact hne (by rw [← e]; rfl)
theorem run_makeLs (w : World) (k : IntKind) (n : Nat) (hn : n ≤ 1000) : (Instr.makeSlice 26 (.int k (n : Int)) (.int k (n : Int))).run Tryz.prog w = .ok (.slice (some ⟨w.heap.size, 0, none⟩) n n) (w.alloc (.cells (madeCells #[.slice none 0 0] n) 22)) := by
  obtain ⟨i, hi, hz, hs, hb⟩ := info_parts (show (Tryz.prog.info? 22).map (fun i => (i.zero, i.size, i.bytes)) = some (some (.slice none 0 0), 1, 24) by kernel_rfl)
  have h := run_make (P := Tryz.prog) w 26 22 i (.slice none 0 0) Tryz.underlying26 hi hz k k (n : Int) (n : Int) (by omega) (by omega) (by rw [hb]; omega) (by omega)
  rw [h, hs]
  simp only [Int.toNat_natCast, Nat.mul_one, Value.cells]
/-- The row of a slice of strings, the first k of which are there. -/
def StrRow (B g n k : Nat) (T8 TS : TypeId) (w : World) (L : List (List Int)) : Prop :=
  ∃ vs : List Value, vs.length = k ∧ L.length = k ∧ w.heap[g]? = some (.cells (vs ++ List.replicate (n - k) (Value.slice none 0 0)).toArray TS (0, 0)) ∧ ∀ i, i < k → ∃ s, vs[i]? = some s ∧ OwnB B T8 w s (nthL L i)
theorem strRow_zero (B n : Nat) (T8 TS : TypeId) (w : World) : StrRow B w.heap.size n 0 T8 TS (w.alloc (.cells (madeCells #[.slice none 0 0] n) TS)) [] := by
  refine ⟨[], rfl, rfl, ?_, fun i hi => absurd hi (Nat.not_lt_zero _)⟩
  rw [heap_alloc_new, Nat.sub_zero, List.nil_append]
  congr 2
  apply Array.ext'
  rw [toList_madeCells_one]
theorem strRow_kept {B g n k : Nat} {T8 TS : TypeId} {w w' : World} {L : List (List Int)} (h : StrRow B g n k T8 TS w L) (hb : Below w.heap.size w w') : StrRow B g n k T8 TS w' L := by
  obtain ⟨vs, h1, h2, h3, h4⟩ := h
  refine ⟨vs, h1, h2, rowB h3 hb (Array.getElem?_eq_some_iff.1 h3).1, fun i hi => ?_⟩
  obtain ⟨s, k1, k2⟩ := h4 i hi
  exact ⟨s, k1, k2.kept hb⟩
theorem strRow_set {B g n k : Nat} {T8 TS : TypeId} {w : World} {L : List (List Int)} (h : StrRow B g n k T8 TS w L) (hk : k < n) (hT : TS ≠ T8) {s : Value} {l : List Int} (hs : OwnB B T8 w s l) : StrRow B g n (k + 1) T8 TS (w.setCell ⟨g, k, none⟩ s) (L ++ [l]) := by
  obtain ⟨vs, h1, h2, h3, h4⟩ := h
  refine ⟨vs ++ [s], by simp [h1], by simp [h2], ?_, fun i hi => ?_⟩
  · rw [setCell_row h3 k s]
    congr 2
    apply Array.ext'
    rw [Array.toList_setIfInBounds, List.set_append_right _ _ (by omega), h1, Nat.sub_self, show n - k = (n - (k + 1)) + 1 by omega, List.replicate_succ, List.set_cons_zero, List.append_assoc, List.singleton_append]
  · rcases Nat.lt_or_ge i k with h5 | h5
    · obtain ⟨x, k1, k2⟩ := h4 i h5
      refine ⟨x, by rw [List.getElem?_append_left (by omega)]; exact k1, ?_⟩
      rw [nthL_pre _ _ _ (by omega)]
      exact own_setCell k2 h3 hT k s
    · obtain rfl : i = k := by omega
      refine ⟨s, by rw [← h1]; simp, ?_⟩
      rw [show nthL (L ++ [l]) i = l by rw [← h2]; exact nthL_last L l]
      exact own_setCell hs h3 hT i s
theorem strRow_own {B g n : Nat} {T8 TS : TypeId} {w : World} {L : List (List Int)} (h : StrRow B g n n T8 TS w L) (hB : B ≤ g) (hn : n ≤ 1000) : OwnL B T8 TS w (.slice (some ⟨g, 0, none⟩) n n) L := by
  obtain ⟨vs, h1, h2, h3, h4⟩ := h
  refine ⟨vs, h1.trans h2.symm, ⟨by simp, .inr ⟨g, n, _, by rw [h1], hB, h3, by omega, by unfold maxLen; omega, by simp [h1], ?_⟩⟩, fun i hi => h4 i (by omega)⟩
  rw [Nat.mul_one, Nat.sub_self, List.replicate_zero, List.append_nil, List.take_length]
theorem strRow_cell {B g n k : Nat} {T8 TS : TypeId} {w : World} {L : List (List Int)} (h : StrRow B g n k T8 TS w L) (hk : k < n) : w.cell? ⟨g, k, none⟩ = some (.slice none 0 0) ∧ w.frozen? ⟨g, k, none⟩ = false := by
  obtain ⟨vs, h1, h2, h3, h4⟩ := h
  refine ⟨?_, frozen_of_row _ _ k _ _ h3⟩
  rw [cell_of_row _ _ _ _ _ _ h3, List.getElem?_toArray, List.getElem?_append_right (by omega), List.getElem?_replicate, if_pos (by omega)]
theorem rdB_from {w : World} {b o n c : Nat} {l : List Int} (h : RdB w (.slice (some ⟨b, o, none⟩) n c) l) (hn : l.length = n) (U : Nat) (hU : U ≤ n) :
    (c = U → RdB w (.slice (some ⟨b, o, none⟩) 0 0) (l.drop U)) ∧ (¬ c = U → RdB w (.slice (some ⟨b, o + U, none⟩) (n - U) (c - U)) (l.drop U)) := by
  rcases h with ⟨a', c', e, h1, rfl⟩ | ⟨b', o', c', e, h1, h2, h3, h4⟩
  · cases e
    obtain rfl : U = 0 := by omega
    exact ⟨fun _ => .inl ⟨_, _, rfl, (fun h => by cases h), rfl⟩, fun _ => .inl ⟨_, _, rfl, (fun h => by cases h), rfl⟩⟩
  · cases e
    have hl : (l.drop U).length = l.length - U := List.length_drop
    refine ⟨fun hc => ?_, fun hc => .inr ⟨b, o + U, c - U, by rw [hl], by rw [hl]; omega, by unfold maxLen at *; omega, h3, fun i hi => ?_⟩⟩
    · subst hc
      exact .inl ⟨_, _, rfl, (fun h => by cases h), List.drop_eq_nil_of_le (by omega)⟩
    · rw [hl] at hi
      rw [ith_drop, Nat.add_assoc]
      exact h4 (U + i) (by omega)
def strPost (w : World) (b : List Int) (e : Ending) (w' : World) : Prop :=
  Below w.heap.size w w' ∧ (readS b = none → e = .returned (.tuple #[.slice none 0 0, .int .i64 0, .int .i64 12])) ∧ ∀ L u, readS b = some (L, u) → ∃ v, e = .returned (.tuple #[v, .int .i64 ((u : Nat) : Int), .int .i64 0]) ∧ OwnL w.heap.size 5 22 w' v L
theorem readS_no {b : List Int} (h : readF b = none) : readS b = none := by unfold readS; rw [h]
theorem readS_many {b : List Int} {n u : Nat} (h : readF b = some (n, u)) (h8 : 8 < n) : readS b = none := by unfold readS; rw [h]; exact if_pos h8
theorem readS_gone {b : List Int} {n u : Nat} (h : readF b = some (n, u)) (h8 : ¬ 8 < n) (ht : readT (b.drop u) n = none) : readS b = none := by
  unfold readS; rw [h]; simp only; rw [if_neg h8, ht]
theorem readS_yes {b : List Int} {n u v : Nat} {L : List (List Int)} (h : readF b = some (n, u)) (h8 : ¬ 8 < n) (ht : readT (b.drop u) n = some (L, v)) : readS b = some (L, u + v) := by
  unfold readS; rw [h]; simp only; rw [if_neg h8, ht]
set_option maxHeartbeats 2000000 in
set_option maxRecDepth 100000 in
theorem readStrings_any (b : List Int) (bv : Value) (w : World) (hr : RdB w bv b) (hb : Bytes b) (hl : b.length ≤ 100000) :
    Calls Tryz.prog 115 #[bv] w (strPost w b) := by
  have hn := readNumber_any b bv w hr hb
  cases hre : readF b with
  | none =>
    obtain ⟨e1, e2, e3⟩ := rd_none hre
    rw [e1, e2, e3] at hn
    have hs := Lib.hid (readS_no hre)
    have hn' := Lib.hid hn
    obtain ⟨a, c, rfl⟩ := hr.slice
    generalize hp : strPost w b = PO at *
    have hp' := Lib.hid hp
    clear hn hr hb hl hre e1 e2 e3 hp
    generalize b.length = NB at *
    go_enter Tryz.func115, Tryz.ntmps115
    go_wp2_with (go_at_call 46; (with_reducible refine (hn'.out).mono ?_); rintro e w1 ⟨rfl, rfl⟩)
    rw [← hp'.out]
    exact ⟨Below.refl _ _, fun _ => rfl, fun L u h => by rw [hs.out] at h; cases h⟩
  | some p =>
    obtain ⟨n, u⟩ := p
    obtain ⟨e1, e2, e3⟩ := rd_some hre
    obtain ⟨hn64, hu, hul, _⟩ := readF_some hb hre
    rw [e1, e2, e3] at hn
    have hn' := Lib.hid hn
    by_cases h8 : 8 < n
    · have hs := Lib.hid (readS_many hre h8)
      obtain ⟨a, c, rfl⟩ := hr.slice
      generalize hp : strPost w b = PO at *
      have hp' := Lib.hid hp
      clear hn hr hb hl hre e1 e2 e3 hp hul hu
      generalize b.length = NB at *
      go_enter Tryz.func115, Tryz.ntmps115
      go_wp2_with (go_at_call 46; (with_reducible refine (hn'.out).mono ?_); rintro e w1 ⟨rfl, rfl⟩)
      rw [← hp'.out]
      exact ⟨Below.refl _ _, fun _ => rfl, fun L u h => by rw [hs.out] at h; cases h⟩
    · have hu1 := numL_pos n
      rw [← hu] at hu1
      rcases hr with ⟨a, c, rfl, _, rfl⟩ | ⟨bb, o, c, rfl, r1, r2, r3, r4⟩
      · simp at hul; omega
      have hrd : RdB w (.slice (some ⟨bb, o, none⟩) b.length c) b := .inr ⟨bb, o, c, rfl, r1, r2, r3, r4⟩
      have hrd' := Lib.hid hrd
      have hgone := Lib.hid (fun h => readS_gone hre h8 h)
      have hyes := Lib.hid (fun L v h => readS_yes (L := L) (v := v) hre h8 h)
      have hgo := Lib.hid (fun (k : Nat) (h : readT (b.drop u) k = none) (hk : k ≤ n) => readT_gone h n hk)
      have hbu := Lib.hid (bytes_drop b u hb)
      have hbb := Lib.hid hb
      have hback := Lib.hid (fun k L x h => readT_back (bytes_drop b u hb) k L x h)
      obtain ⟨NB, hNB⟩ : ∃ NB, b.length = NB := ⟨_, rfl⟩
      have hNB' := Lib.hid hNB
      rw [hNB] at hn' hrd' hl hul r1 ⊢
      have hmk := fun (wx : World) => run_makeLs wx .u64 n (by omega)
      have hz0 := Lib.hid (strRow_zero w.heap.size n 5 22 w)
      have hB0 := Lib.hid (below_a w (.cells (madeCells #[.slice none 0 0] n) 22))
      generalize hp : strPost w b = PO at *
      have hp' := Lib.hid hp
      have h8' : (n : Int) ≤ 8 := by omega
      clear hn hrd hb hre e1 e2 e3 hp hNB r4 hu
      unfold maxLen at r2
      go_enter Tryz.func115, Tryz.ntmps115
      go_wp2_with (go_at_call 46; (with_reducible refine (hn'.out).mono ?_); rintro e w1 ⟨rfl, rfl⟩)
      generalize hW : w.alloc (.cells (madeCells #[.slice none 0 0] n) 22) = W at *
      have hW' := Lib.hid hW
      clear hW hmk
      go_loopw [6, 29] (fun x i wr => ∃ (k v : Nat) (L : List (List Int)), k ≤ n ∧ i = .int .i64 k ∧ x = .int .i64 ((u + v : Nat) : Int) ∧ readT (b.drop u) k = some (L, v) ∧ Below w.heap.size w wr ∧ w.heap.size < wr.heap.size ∧ StrRow w.heap.size w.heap.size n k 5 22 wr L) (fun _ i _ => n - (intOf i).toNat)
      case atStart => exact ⟨0, 0, [], Nat.zero_le _, rfl, rfl, rfl, hB0.out, by rw [← hW'.out]; simp, hz0.out⟩
      case round =>
        obtain ⟨k, v, L, hk, rfl, rfl, hT, hBr, hgs, hS⟩ := hrel
        obtain ⟨b1, b2, _, b4, _⟩ := hback.out k L v hT
        rw [List.length_drop, hNB'.out] at b2
        have hBr' := Lib.hid hBr
        have hS' := Lib.hid hS
        have hT' := Lib.hid hT
        by_cases hlt : k < n
        · obtain ⟨U, hU⟩ : ∃ U, u + v = U := ⟨_, rfl⟩
          have hdd : (b.drop u).drop v = b.drop U := by rw [List.drop_drop, hU]
          have hUn : U ≤ NB := by omega
          have hrr := rdB_from (hrd'.out.mono hBr) hNB'.out U hUn
          have hbd := bytes_drop b U hbb.out
          have hdl : (b.drop U).length ≤ 1000000 := by rw [List.length_drop, hNB'.out]; omega
          have hUh := Lib.hid hU
          rw [hU]
          cases hq : readC (b.drop U) 400 1 with
          | none =>
            have hs := Lib.hid (hgone.out (hgo.out (k + 1) (readT_none hT (by rw [hdd]; exact hq)) (by omega)))
            have hno := Lib.hid (fun bv (h : RdB wr bv (b.drop U)) => readBytes_no (b.drop U) bv 400 (by decide) (by decide) wr h hbd hdl hq)
            clear hBr hS hT hq hbd hdl hdd hU b1 b2 b4 hgone hyes hgo hback
            rcases Decidable.em (c = U) with rfl | hcU
            · have hr1 := Lib.hid (hrr.1 rfl)
              clear hrr
              go_wp2_with (go_at_call 48; (with_reducible refine (hno.out _ hr1.out).mono ?_); rintro e w1 ⟨rfl, rfl⟩)
              rw [← hp'.out]
              exact ⟨hBr'.out, fun _ => rfl, fun L u h => by rw [hs.out] at h; cases h⟩
            · have hr1 := Lib.hid (hrr.2 hcU)
              clear hrr
              go_wp2_with (go_at_call 48; (with_reducible refine (hno.out _ hr1.out).mono ?_); rintro e w1 ⟨rfl, rfl⟩)
              rw [← hp'.out]
              exact ⟨hBr'.out, fun _ => rfl, fun L u h => by rw [hs.out] at h; cases h⟩
          | some q =>
            obtain ⟨m, x⟩ := q
            have hT1 := Lib.hid (readT_step hT (by rw [hdd]; exact hq))
            rw [hdd] at hT1
            obtain ⟨r1', r2', r3', r4', r5'⟩ := readC_backG hbd hq
            have hok := Lib.hid (fun bv (h : RdB wr bv (b.drop U)) => readBytes_ok (b.drop U) bv 400 (by decide) (by decide) wr h hbd hdl m x hq)
            rw [List.length_drop, hNB'.out] at r4'
            obtain ⟨V, hV⟩ : ∃ V, x + m = V := ⟨_, rfl⟩
            rw [hV] at hok hT1 r4'
            have hl1 := Lib.hid r2'
            generalize ((b.drop U).drop x).take m = l1 at *
            have hwr : IntKind.i64.wrap ((U : Int) + (V : Int)) = (U : Int) + (V : Int) := IntWalk.i64_in _ (by omega)
            have hfin := Lib.hid (show ((U : Int) + (V : Int)) = ((u + (v + V) : Nat) : Int) by omega)
            have hm4 : m ≤ 400 := by omega
            clear hBr hS hT hq hbd hdl hdd hU hgone hyes hgo hback r1' r2' r3' r5' hV b1 b2 b4
            have hnext := Lib.hid (fun (w1 : World) (h : StrRow w.heap.size w.heap.size n k 5 22 w1 L) (hr : w1.heap[wr.heap.size]? = some (.cells (u8s l1) 5 (0, 0))) => strRow_set h hlt (by decide) (ownB_row hr m hl1.out (by unfold maxLen; omega) (Nat.le_of_lt hgs)))
            rcases Decidable.em (c = U) with rfl | hcU
            · have hr1 := Lib.hid (hrr.1 rfl)
              clear hrr
              go_wp2_with (go_at_call 48; (with_reducible refine (hok.out _ hr1.out).mono ?_); rintro e w1 ⟨rfl, q1, q2⟩; have hz1 := q2.size; have hS1 := Lib.hid (strRow_kept hS'.out q2); have hB1 := Lib.hid (hBr'.out.trans (q2.mono hBr'.out.size)); have hq1 := Lib.hid q1; obtain ⟨hc1, hf1⟩ := strRow_cell hS1.out hlt; clear q1 q2)
              go_roundw
              case rel => exact ⟨k + 1, v + V, L ++ [l1], by omega, by go_num, by rw [hfin.out], hT1.out, hB1.out.setCell (Nat.le_refl _) _, by simpa [World.setCell] using Nat.lt_of_lt_of_le hgs hz1, hnext.out _ hS1.out hq1.out⟩
              case measure => simp [intOf]; omega
            · have hr1 := Lib.hid (hrr.2 hcU)
              clear hrr
              go_wp2_with (go_at_call 48; (with_reducible refine (hok.out _ hr1.out).mono ?_); rintro e w1 ⟨rfl, q1, q2⟩; have hz1 := q2.size; have hS1 := Lib.hid (strRow_kept hS'.out q2); have hB1 := Lib.hid (hBr'.out.trans (q2.mono hBr'.out.size)); have hq1 := Lib.hid q1; obtain ⟨hc1, hf1⟩ := strRow_cell hS1.out hlt; clear q1 q2)
              go_roundw
              case rel => exact ⟨k + 1, v + V, L ++ [l1], by omega, by go_num, by rw [hfin.out], hT1.out, hB1.out.setCell (Nat.le_refl _) _, by simpa [World.setCell] using Nat.lt_of_lt_of_le hgs hz1, hnext.out _ hS1.out hq1.out⟩
              case measure => simp [intOf]; omega
        · obtain rfl : k = n := by omega
          have hs := Lib.hid (hyes.out L v hT)
          have ho := Lib.hid (strRow_own hS (Nat.le_refl _) (by omega))
          go_wp2
          rw [← hp'.out]
          exact ⟨hBr'.out, (fun h => by rw [hs.out] at h; cases h), fun L' u' h => by rw [hs.out] at h; cases h; exact ⟨_, rfl, ho.out⟩⟩
end Go.Proofs.YtfaojjleapenaabGreatDoor.wir.frm

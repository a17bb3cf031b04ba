/- Layer 7: frames, their bytes, and what is read (maths). -/
import Derived.Test.YtegffpjhdodldaaI05
import Derived.Test.YtegffpjhdodldaaP01
namespace Go.Proofs.Ytegffpjhdodldaa
open Go.RowKit Go.Ytegffpjhdodldaa
set_option linter.unusedVariables false
/-- A frame: its kind, its number, n ids (their bytes, one behind the other, are F), its strings. -/
structure Fr where
  k : Int
  N : Nat
  n : Nat
  F : List Int
  L : List (List Int)
abbrev Fr.c (f : Fr) (iv ov : Value) : Array Value := #[.int .u8 f.k, .int .u64 (f.N : Int), iv, ov]
structure Fr.Fit (f : Fr) : Prop where
  k : 0 ≤ f.k ∧ f.k < 256
  N : f.N < 18446744073709551616
  n : f.n ≤ 100000
  F : Bytes f.F
  len : f.F.length = 32 * f.n
  l : f.L.length ≤ 100000
  L : ∀ i, Bytes (nthL f.L i)
  s : ∀ i, (nthL f.L i).length ≤ 1000000
def numK (k : Int) : Bool := decide (k = 1) || decide (k = 6)
def idsK (k : Int) : Bool := decide (k = 2) || (decide (k = 3) || decide (k = 4))
def okS (L : List (List Int)) : Bool := L.all fun s => decide (s.length ≤ 400)
def okL (L : List (List Int)) : Bool := decide (L.length ≤ 8) && okS L
def partsB (f : Fr) : Bool :=
  if numK f.k = true then decide (f.n = 0) && decide (f.L.length = 0)
  else if idsK f.k = true then decide (f.N = 0) && (decide (f.L.length = 0) && (decide (f.n ≤ 40) && riseF f.F f.n))
  else decide (f.k = 5) && (decide (f.N = 0) && (decide (f.n = 0) && okL f.L))
/-- The bytes of the first strings. -/
def txts (L : List (List Int)) : Nat → List Int
  | 0 => []
  | k + 1 => txts L k ++ textB (nthL L k)
def frB (f : Fr) : List Int := [f.k] ++ (if numK f.k = true then numB f.N else if idsK f.k = true then numB f.n ++ f.F else numB f.L.length ++ txts f.L f.L.length)
def frOk (f : Fr) : Bool := partsB f && decide ((frB f).length ≤ 2000)
def chkR (f : Fr) : Int := if frOk f = true then 0 else 8
theorem okS_yes {L : List (List Int)} (h : ∀ i, i < L.length → (nthL L i).length ≤ 400) : okS L = true := by
  unfold okS
  rw [List.all_eq_true]
  intro s hs
  obtain ⟨i, hi, e⟩ := List.getElem_of_mem hs
  have := h i hi
  unfold nthL at this
  rw [List.getElem?_eq_getElem hi, e] at this
  simpa using this
theorem okS_at {L : List (List Int)} (h : okS L = true) (i : Nat) : (nthL L i).length ≤ 400 := by
  unfold okS at h
  rw [List.all_eq_true] at h
  unfold nthL
  cases hi : L[i]? with
  | none => simp
  | some s =>
    have := h s (List.mem_of_getElem? hi)
    simpa using this
theorem okS_no {L : List (List Int)} (i : Nat) (h : 400 < (nthL L i).length) : okS L = false := by
  cases hc : okS L
  · rfl
  · have := okS_at hc i
    omega
/-- What is read of so many strings: them, and how many bytes they have. -/
def readT (l : List Int) : Nat → Option (List (List Int) × Nat)
  | 0 => some ([], 0)
  | c + 1 => match readT l c with
    | none => none
    | some p => match readC (l.drop p.2) 400 1 with
      | none => none
      | some q => some (p.1 ++ [((l.drop p.2).drop q.2).take q.1], p.2 + (q.2 + q.1))
def readS (b : List Int) : Option (List (List Int) × Nat) :=
  match readF b with
  | none => none
  | some p => if 8 < p.1 then none else match readT (b.drop p.2) p.1 with
    | none => none
    | some q => some (q.1, p.2 + q.2)
def readR (k : Int) (b : List Int) : Option (Fr × Nat) :=
  if numK k = true then (match readF b with
    | none => none
    | some p => some (⟨k, p.1, 0, [], []⟩, p.2))
  else if idsK k = true then (match readC b 40 32 with
    | none => none
    | some p => if riseF ((b.drop p.2).take (p.1 * 32)) p.1 = true then some (⟨k, 0, p.1, (b.drop p.2).take (p.1 * 32), []⟩, p.2 + p.1 * 32) else none)
  else if k = 5 then (match readS b with
    | none => none
    | some q => some (⟨k, 0, 0, [], q.1⟩, q.2))
  else none
def parseF (l : List Int) : Option Fr :=
  if l.length = 0 ∨ 2000 < l.length then none else match readR (ith l 0) (l.drop 1) with
    | none => none
    | some p => if p.2 = l.length - 1 then some p.1 else none
theorem nthL_pre (L M : List (List Int)) (i : Nat) (h : i < L.length) : nthL (L ++ M) i = nthL L i := by
  unfold nthL
  rw [List.getElem?_append_left h]
theorem nthL_last (L : List (List Int)) (s : List Int) : nthL (L ++ [s]) L.length = s := by
  unfold nthL
  simp
theorem nthL_out (L : List (List Int)) (i : Nat) (h : L.length ≤ i) : nthL L i = [] := by
  unfold nthL
  rw [List.getElem?_eq_none h]
  rfl
theorem nthL_snoc {p : List Int → Prop} (L : List (List Int)) (s : List Int) (h0 : p []) (h1 : ∀ i, p (nthL L i)) (h2 : p s) (i : Nat) : p (nthL (L ++ [s]) i) := by
  rcases Nat.lt_trichotomy i L.length with h | h | h
  · rw [nthL_pre _ _ _ h]; exact h1 i
  · rw [h, nthL_last]; exact h2
  · rw [nthL_out _ _ (by simp; omega)]; exact h0
theorem txts_pre (L M : List (List Int)) : ∀ k, k ≤ L.length → txts (L ++ M) k = txts L k
  | 0, _ => rfl
  | k + 1, h => by
    unfold txts
    rw [txts_pre L M k (by omega), nthL_pre _ _ _ (by omega)]
theorem txts_more (L : List (List Int)) (c : Nat) : ∀ m, c < m → ∃ r, txts L m = txts L c ++ (textB (nthL L c) ++ r)
  | 0, h => by omega
  | m + 1, h => by
    rcases Nat.lt_or_ge c m with h1 | h1
    · obtain ⟨r, hr⟩ := txts_more L c m h1
      exact ⟨r ++ textB (nthL L m), by rw [show txts L (m + 1) = txts L m ++ textB (nthL L m) from rfl, hr]; simp only [List.append_assoc]⟩
    · obtain rfl : c = m := by omega
      exact ⟨[], by rw [List.append_nil]; rfl⟩
theorem readC_textG (s b : List Int) (M : Nat) (hs : s.length ≤ M) (hM : M ≤ 1000000) : readC (textB s ++ b) (M : Int) 1 = some (s.length, numL s.length) := by
  have h := readF_num s.length (by omega) (s ++ b)
  rw [← List.append_assoc] at h
  unfold readC textB
  rw [h]
  have h2 : ((s.length : Nat) : Int) ≤ (M : Int) ∧ s.length ≤ ((numB s.length ++ s ++ b).length - numL s.length) / 1 := by
    refine ⟨by omega, ?_⟩
    rw [Nat.div_one, List.length_append, List.length_append, numB_length]; omega
  simp only [h2, and_self, if_true]
theorem readC_backG {b : List Int} (hb : Bytes b) {M : Int} {n u : Nat} (h : readC b M 1 = some (n, u)) : b.take (u + n) = textB ((b.drop u).take n) ∧ ((b.drop u).take n).length = n ∧ 1 ≤ u ∧ u + n ≤ b.length ∧ (n : Int) ≤ M := by
  obtain ⟨h1, h2, h3⟩ := readC_some h
  obtain ⟨a1, a2, a3, a4⟩ := readF_some hb h1
  rw [Nat.div_one] at h3
  have hlen : ((b.drop u).take n).length = n := by rw [List.length_take, List.length_drop]; omega
  refine ⟨?_, hlen, by rw [a2]; exact numL_pos n, by omega, h2⟩
  rw [textB, hlen, ← a4, List.take_add]
theorem readT_step {l : List Int} {c : Nat} {L : List (List Int)} {u n v : Nat} (h1 : readT l c = some (L, u)) (h2 : readC (l.drop u) 400 1 = some (n, v)) :
    readT l (c + 1) = some (L ++ [((l.drop u).drop v).take n], u + (v + n)) := by
  unfold readT
  rw [h1]
  simp only [h2]
theorem readT_none {l : List Int} {c : Nat} {L : List (List Int)} {u : Nat} (h1 : readT l c = some (L, u)) (h2 : readC (l.drop u) 400 1 = none) : readT l (c + 1) = none := by
  unfold readT
  rw [h1]
  simp only [h2]
theorem readT_gone {l : List Int} {c : Nat} (h1 : readT l c = none) : ∀ m, c ≤ m → readT l m = none
  | 0, h => by
    obtain rfl : c = 0 := by omega
    exact h1
  | m + 1, h => by
    rcases Nat.lt_or_ge m c with h2 | h2
    · obtain rfl : c = m + 1 := by omega
      exact h1
    · unfold readT
      rw [readT_gone h1 m h2]
theorem readT_back {l : List Int} (hl : Bytes l) : ∀ (c : Nat) (L : List (List Int)) (u : Nat), readT l c = some (L, u) → L.length = c ∧ u ≤ l.length ∧ l.take u = txts L c ∧ (∀ i, (nthL L i).length ≤ 400) ∧ ∀ i, Bytes (nthL L i)
  | 0, L, u, h => by
    have h := Option.some.inj h
    obtain ⟨h1, h2⟩ := Prod.mk.inj h
    subst h1 h2
    exact ⟨rfl, Nat.zero_le _, by rw [List.take_zero]; rfl, fun i => by simp [nthL], fun i => by simp only [nthL, List.getElem?_nil, Option.getD_none]; exact bytes_nil⟩
  | c + 1, L, u, h => by
    cases h1 : readT l c with
    | none => rw [readT_gone h1 (c + 1) (by omega)] at h; cases h
    | some p =>
      obtain ⟨M, v⟩ := p
      obtain ⟨k1, k2, k3, k4, k5⟩ := readT_back hl c M v h1
      cases h2 : readC (l.drop v) 400 1 with
      | none => rw [readT_none h1 h2] at h; cases h
      | some q =>
        obtain ⟨n, x⟩ := q
        rw [readT_step h1 h2] at h
        obtain ⟨e1, e2⟩ := Prod.mk.inj (Option.some.inj h)
        subst e1 e2
        obtain ⟨r1, r2, r3, r4, r5⟩ := readC_backG (bytes_drop l v hl) h2
        rw [List.length_drop] at r4
        refine ⟨by simp [k1], by omega, ?_, nthL_snoc (p := fun s => s.length ≤ 400) _ _ (by simp) k4 (by rw [r2]; omega), nthL_snoc (p := Bytes) _ _ bytes_nil k5 (bytes_take _ _ (bytes_drop _ _ (bytes_drop _ _ hl)))⟩
        rw [List.take_add, r1, k3, show txts (M ++ [(List.drop x (List.drop v l)).take n]) (c + 1) = txts (M ++ [(List.drop x (List.drop v l)).take n]) c ++ textB (nthL (M ++ [(List.drop x (List.drop v l)).take n]) c) from rfl, txts_pre _ _ _ (by omega), ← k1, nthL_last]
theorem readT_txts (L : List (List Int)) (h4 : ∀ i, (nthL L i).length ≤ 400) (m : Nat) (hm : m ≤ L.length) (t : List Int) : ∀ c, c ≤ m → readT (txts L m ++ t) c = some (L.take c, (txts L c).length)
  | 0, _ => rfl
  | c + 1, h => by
    have ih := readT_txts L h4 m hm t c (by omega)
    obtain ⟨r, hr⟩ := txts_more L c m (by omega)
    have hd : (txts L m ++ t).drop (txts L c).length = textB (nthL L c) ++ (r ++ t) := by
      rw [hr, List.append_assoc, List.drop_left' rfl, List.append_assoc]
    have hc := readC_textG (nthL L c) (r ++ t) 400 (h4 c) (by decide)
    rw [← hd] at hc
    rw [readT_step ih hc, hd, text_part]
    have e : L.take (c + 1) = L.take c ++ [nthL L c] := by
      rw [List.take_add_one]
      unfold nthL
      rw [List.getElem?_eq_getElem (by omega)]
      rfl
    rw [e, show txts L (c + 1) = txts L c ++ textB (nthL L c) from rfl, List.length_append, textB_length]
theorem take_one_cons {l : List Int} (h : l.length ≠ 0) : [ith l 0] ++ l.drop 1 = l := by
  cases l with
  | nil => simp at h
  | cons x l => simp [ith]
theorem kinds_apart {k : Int} (h : numK k = true) : idsK k = false := by
  unfold numK at h
  unfold idsK
  simp only [Bool.or_eq_true, decide_eq_true_eq] at h
  simp only [Bool.or_eq_false_iff, decide_eq_false_iff_not]
  omega
theorem num_nil : nthL [] = fun _ => [] := by funext i; simp [nthL]
theorem readR_back {k : Int} (hk : 0 ≤ k ∧ k < 256) {b : List Int} (hb : Bytes b) (hl : b.length ≤ 100000) {f : Fr} {u : Nat} (h : readR k b = some (f, u)) :
    f.k = k ∧ partsB f = true ∧ frB f = [k] ++ b.take u ∧ u ≤ b.length ∧ f.Fit := by
  unfold readR at h
  by_cases h1 : numK k = true
  · rw [if_pos h1] at h
    cases h2 : readF b with
    | none => rw [h2] at h; cases h
    | some p =>
      obtain ⟨n, v⟩ := p
      rw [h2] at h
      obtain ⟨e1, e2⟩ := Prod.mk.inj (Option.some.inj h)
      subst e1 e2
      obtain ⟨a1, a2, a3, a4⟩ := readF_some hb h2
      refine ⟨rfl, ?_, ?_, a3, ⟨hk, a1, Nat.zero_le _, bytes_nil, rfl, Nat.zero_le _, fun i => by rw [num_nil]; exact bytes_nil, fun i => by rw [num_nil]; simp⟩⟩
      · unfold partsB
        dsimp only
        rw [if_pos h1]
        rfl
      · unfold frB
        dsimp only
        rw [if_pos h1, a4]
  · rw [if_neg h1] at h
    by_cases h3 : idsK k = true
    · rw [if_pos h3] at h
      cases h2 : readC b 40 32 with
      | none => rw [h2] at h; cases h
      | some p =>
        obtain ⟨n, v⟩ := p
        rw [h2] at h
        simp only at h
        by_cases h5 : riseF ((b.drop v).take (n * 32)) n = true
        · rw [if_pos h5] at h
          obtain ⟨e1, e2⟩ := Prod.mk.inj (Option.some.inj h)
          subst e1 e2
          obtain ⟨c1, c2, c3⟩ := readC_some h2
          obtain ⟨a1, a2, a3, a4⟩ := readF_some hb c1
          have hlen : ((b.drop v).take (n * 32)).length = 32 * n := by rw [List.length_take, List.length_drop]; omega
          refine ⟨rfl, ?_, ?_, by omega, ⟨hk, (by decide : 0 < 18446744073709551616), by simp only; omega, bytes_take _ _ (bytes_drop _ _ hb), hlen, Nat.zero_le _, fun i => by rw [num_nil]; exact bytes_nil, fun i => by rw [num_nil]; simp⟩⟩
          · unfold partsB
            dsimp only
            rw [if_neg h1, if_pos h3, h5, decide_eq_true (show n ≤ 40 by omega)]
            rfl
          · unfold frB
            dsimp only
            rw [if_neg h1, if_pos h3, ← a4, List.take_add]
        · rw [if_neg h5] at h; cases h
    · rw [if_neg h3] at h
      by_cases h4 : k = 5
      · rw [if_pos h4] at h
        unfold readS at h
        cases h2 : readF b with
        | none => rw [h2] at h; cases h
        | some p =>
          obtain ⟨n, v⟩ := p
          rw [h2] at h
          simp only at h
          by_cases h5 : 8 < n
          · rw [if_pos h5] at h; cases h
          · rw [if_neg h5] at h
            cases h6 : readT (b.drop v) n with
            | none => rw [h6] at h; cases h
            | some q =>
              obtain ⟨L, x⟩ := q
              rw [h6] at h
              obtain ⟨e1, e2⟩ := Prod.mk.inj (Option.some.inj h)
              subst e1 e2
              obtain ⟨a1, a2, a3, a4⟩ := readF_some hb h2
              obtain ⟨t1, t2, t3, t4, t5⟩ := readT_back (bytes_drop b v hb) n L x h6
              rw [List.length_drop] at t2
              refine ⟨rfl, ?_, ?_, by simp only; omega, ⟨hk, (by decide : 0 < 18446744073709551616), Nat.zero_le _, bytes_nil, rfl, by simp only; omega, t5, fun i => Nat.le_trans (t4 i) (by decide)⟩⟩
              · unfold partsB okL
                dsimp only
                rw [if_neg h1, if_neg h3, okS_yes (fun i _ => t4 i), decide_eq_true h4, decide_eq_true (show L.length ≤ 8 by omega)]
                rfl
              · unfold frB
                dsimp only
                rw [if_neg h1, if_neg h3, t1, ← t3, List.take_add, ← a4]
      · rw [if_neg h4] at h; cases h
theorem nil_of_len {α : Type} {l : List α} (h : l.length = 0) : l = [] := List.eq_nil_of_length_eq_zero h
theorem readR_fr {f : Fr} (ff : f.Fit) (h : partsB f = true) (t : List Int) : readR f.k ((frB f).drop 1 ++ t) = some (f, (frB f).length - 1) := by
  obtain ⟨k, N, n, F, L⟩ := f
  obtain ⟨_, hN, hn, hF, hlen, hl, hL, hs⟩ := ff
  simp only at hN hn hF hlen hl hL hs
  have hd : (frB ⟨k, N, n, F, L⟩).drop 1 = if numK k = true then numB N else if idsK k = true then numB n ++ F else numB L.length ++ txts L L.length := by
    unfold frB
    rfl
  have hc : (frB ⟨k, N, n, F, L⟩).length - 1 = ((frB ⟨k, N, n, F, L⟩).drop 1).length := by rw [List.length_drop]
  rw [hc, hd]
  unfold partsB at h
  dsimp only at h ⊢
  unfold readR
  by_cases h1 : numK k = true
  · rw [if_pos h1, Bool.and_eq_true, decide_eq_true_eq, decide_eq_true_eq] at h
    rw [if_pos h1, if_pos h1]
    obtain ⟨rfl, h2⟩ := h
    obtain rfl := nil_of_len h2
    obtain rfl := nil_of_len (hlen.trans rfl)
    rw [readF_num N hN t, numB_length]
  · rw [if_neg h1] at h
    rw [if_neg h1, if_neg h1]
    by_cases h3 : idsK k = true
    · rw [if_pos h3, Bool.and_eq_true, Bool.and_eq_true, Bool.and_eq_true, decide_eq_true_eq, decide_eq_true_eq, decide_eq_true_eq] at h
      rw [if_pos h3, if_pos h3]
      obtain ⟨rfl, h2, h4, h5⟩ := h
      obtain rfl := nil_of_len h2
      have hc : readC ((numB n ++ F) ++ t) 40 32 = some (n, numL n) := by
        have h := readF_num n (by omega) (F ++ t)
        rw [← List.append_assoc] at h
        unfold readC
        rw [h]
        have h2 : ((n : Nat) : Int) ≤ 40 ∧ n ≤ (((numB n ++ F) ++ t).length - numL n) / 32 := by
          refine ⟨by omega, ?_⟩
          rw [List.length_append, List.length_append, numB_length]; omega
        simp only [h2, and_self, if_true]
      rw [hc]
      simp only
      rw [list_part F t n hlen, if_pos h5, List.length_append, numB_length, hlen, Nat.mul_comm 32 n]
    · rw [if_neg h3, Bool.and_eq_true, Bool.and_eq_true, Bool.and_eq_true, decide_eq_true_eq, decide_eq_true_eq, decide_eq_true_eq] at h
      rw [if_neg h3, if_neg h3]
      obtain ⟨rfl, rfl, rfl, h5⟩ := h
      obtain rfl := nil_of_len (hlen.trans rfl)
      unfold okL at h5
      rw [Bool.and_eq_true, decide_eq_true_eq] at h5
      rw [if_pos rfl]
      unfold readS
      rw [List.append_assoc, readF_num L.length (by omega)]
      simp only
      rw [if_neg (by omega), List.drop_left' (numB_length _), readT_txts L (okS_at h5.2) L.length (Nat.le_refl _) t L.length (Nat.le_refl _)]
      simp only
      rw [List.take_length, List.length_append, numB_length]
theorem frB_ne (f : Fr) : (frB f).length ≠ 0 := by unfold frB; simp
theorem frB_first (f : Fr) : ith (frB f) 0 = f.k := by unfold frB; simp [ith]
theorem frB_pos (f : Fr) : 1 ≤ (frB f).length := by have := frB_ne f; omega
theorem parse_fr {f : Fr} (ff : f.Fit) (h : frOk f = true) : parseF (frB f) = some f := by
  unfold frOk at h
  rw [Bool.and_eq_true, decide_eq_true_eq] at h
  unfold parseF
  rw [if_neg (by have := frB_ne f; omega), frB_first]
  have hr := readR_fr ff h.1 []
  rw [List.append_nil] at hr
  rw [hr]
  simp only [if_true]
theorem parse_back {l : List Int} (hl : Bytes l) {f : Fr} (h : parseF l = some f) : frB f = l ∧ frOk f = true ∧ f.Fit := by
  unfold parseF at h
  by_cases h1 : l.length = 0 ∨ 2000 < l.length
  · rw [if_pos h1] at h; cases h
  · rw [if_neg h1] at h
    cases h2 : readR (ith l 0) (l.drop 1) with
    | none => rw [h2] at h; cases h
    | some p =>
      obtain ⟨g, u⟩ := p
      rw [h2] at h
      simp only at h
      by_cases h3 : u = l.length - 1
      · rw [if_pos h3] at h
        have e := Option.some.inj h
        subst e
        obtain ⟨a1, a2, a3, a4, a5⟩ := readR_back (hl 0) (bytes_drop l 1 hl) (by rw [List.length_drop]; omega) h2
        have e : frB g = l := by
          rw [a3, h3, List.take_of_length_le (by rw [List.length_drop]; omega)]
          exact take_one_cons (by omega)
        refine ⟨e, ?_, a5⟩
        unfold frOk
        rw [Bool.and_eq_true, decide_eq_true_eq, e]
        exact ⟨a2, by omega⟩
      · rw [if_neg h3] at h; cases h
/-- The bytes of one frame do not begin those of another one. -/
theorem fr_prefix {f g : Fr} (ff : f.Fit) (fg : g.Fit) (hf : partsB f = true) (hg : partsB g = true) {t : List Int} (h : frB f ++ t = frB g) : f = g := by
  have h1 := readR_fr ff hf t
  have h2 := readR_fr fg hg []
  have e : (frB f).drop 1 ++ t = (frB g).drop 1 := by
    rw [← h, List.drop_append_of_le_length (frB_pos f)]
  have ek : f.k = g.k := by
    rw [← frB_first f, ← frB_first g, ← h, ith_append, if_pos (show 0 < (frB f).length from frB_pos f)]
  rw [List.append_nil, ← e, ← ek, h1] at h2
  exact congrArg Prod.fst (Option.some.inj h2)
theorem parse_long {f : Fr} (ff : f.Fit) (h : frOk f = true) (x : Int) : parseF (frB f ++ [x]) = none := by
  unfold frOk at h
  rw [Bool.and_eq_true] at h
  unfold parseF
  by_cases h1 : (frB f ++ [x]).length = 0 ∨ 2000 < (frB f ++ [x]).length
  · rw [if_pos h1]
  · rw [if_neg h1, ith_append, if_pos (show 0 < (frB f).length from frB_pos f), frB_first, List.drop_append_of_le_length (frB_pos f), readR_fr ff h.1 [x]]
    simp only
    rw [if_neg (by rw [List.length_append, List.length_singleton]; have := frB_pos f; omega)]
theorem parse_cut {f : Fr} (ff : f.Fit) (h : frOk f = true) (hb : Bytes (frB f)) : parseF ((frB f).take ((frB f).length - 1)) = none := by
  cases hp : parseF ((frB f).take ((frB f).length - 1)) with
  | none => rfl
  | some g =>
    exfalso
    obtain ⟨a1, a2, a3⟩ := parse_back (bytes_take _ _ hb) hp
    unfold frOk at h a2
    rw [Bool.and_eq_true] at h a2
    have h3 : frB g ++ (frB f).drop ((frB f).length - 1) = frB f := by rw [a1, List.take_append_drop]
    have e := fr_prefix a3 ff a2.1 h.1 h3
    have h4 := congrArg List.length a1
    rw [List.length_take, e] at h4
    have := frB_pos f
    omega
end Go.Proofs.Ytegffpjhdodldaa

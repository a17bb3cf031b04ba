/- The maths of the order of values: what begins a number, and places as single numbers. Contracts of package value: where values stand. Contracts of package value: Cmp. rises: values that come one after the other. -/
import Derived.Test.YtnknkiiikeefgaaGreatDoorW01
import Derived.Lib.ItoaNum
import Derived.Test.YtnknkiiikeefgaaGreatDoorV01
import Derived.Test.YtnknkiiikeefgaaGreatDoorLexL
import Derived.Deep.MidRow
namespace Go.Proofs.YtnknkiiikeefgaaGreatDoor.wir.val
open Go.RowKit Go.YtnknkiiikeefgaaGreatDoor
set_option linter.unusedVariables false
def cutD (n : Nat) : Nat := n * 2 ^ (64 - Lib.bitLen n)
def cutB (n : Nat) : Nat := if n = 0 then 0 else (1022 + Lib.bitLen n) * 4503599627370496 + cutD n / 2048 % 4503599627370496
def cutR (n : Nat) : Nat := if n = 0 then 0 else cutD n % 2048
theorem bitLen_in (n : Nat) (h0 : n ≠ 0) (h : n < 18446744073709551616) : 1 ≤ Lib.bitLen n ∧ Lib.bitLen n ≤ 64 ∧ 2 ^ (Lib.bitLen n - 1) ≤ n ∧ n < 2 ^ Lib.bitLen n := by
  obtain ⟨a, b, c⟩ := Lib.bitLenAux_bounds 64 n h h0
  have hL : Lib.bitLenAux 64 n ≤ 64 := Lib.bitLen_le n 64 (Nat.le_refl _) h
  exact ⟨a, hL, b, c⟩
theorem cutD_in (n : Nat) (h0 : n ≠ 0) (h : n < 18446744073709551616) : 9223372036854775808 ≤ cutD n ∧ cutD n < 18446744073709551616 := by
  obtain ⟨h1, h2, h3, h4⟩ := bitLen_in n h0 h
  unfold cutD
  generalize Lib.bitLen n = L at *
  have hp : 0 < 2 ^ (64 - L) := Nat.pow_pos (by decide)
  constructor
  · have : 2 ^ (L - 1) * 2 ^ (64 - L) ≤ n * 2 ^ (64 - L) := Nat.mul_le_mul_right _ h3
    rw [← Nat.pow_add, show L - 1 + (64 - L) = 63 by omega] at this
    exact this
  · have : n * 2 ^ (64 - L) < 2 ^ L * 2 ^ (64 - L) := Nat.mul_lt_mul_of_pos_right h4 hp
    rw [← Nat.pow_add, show L + (64 - L) = 64 by omega] at this
    exact this
theorem cutB_lt (n : Nat) (h : n < 18446744073709551616) : cutB n < 9223372036854775808 := by
  unfold cutB
  split
  · decide
  · rename_i h0
    have := (bitLen_in n h0 h).2.1
    omega
theorem cutR_lt (n : Nat) : cutR n < 2048 := by unfold cutR; split <;> omega
/-- With n all before it are less: by what begins them, then by the rest. -/
theorem cut_less (n m : Nat) (hm : m < 18446744073709551616) (h : n < m) : cutB n < cutB m ∨ cutB n = cutB m ∧ cutR n < cutR m := by
  have hm0 : m ≠ 0 := by omega
  by_cases hn0 : n = 0
  · subst hn0
    refine .inl ?_
    have := (bitLen_in m hm0 hm).1
    unfold cutB
    rw [if_pos rfl, if_neg hm0]
    omega
  obtain ⟨n1, n2, n3, n4⟩ := bitLen_in n hn0 (by omega)
  obtain ⟨m1, m2, m3, m4⟩ := bitLen_in m hm0 hm
  obtain ⟨d1, d2⟩ := cutD_in n hn0 (by omega)
  obtain ⟨e1, e2⟩ := cutD_in m hm0 hm
  have hL : Lib.bitLen n ≤ Lib.bitLen m := by
    rcases Nat.lt_or_ge (Lib.bitLen m) (Lib.bitLen n) with hlt | hge
    · have : 2 ^ Lib.bitLen m ≤ 2 ^ (Lib.bitLen n - 1) := Nat.pow_le_pow_right (by decide) (by omega)
      omega
    · exact hge
  unfold cutB cutR
  rw [if_neg hn0, if_neg hm0, if_neg hn0, if_neg hm0]
  rcases Nat.lt_or_eq_of_le hL with hlt | heq
  · refine .inl ?_
    generalize Lib.bitLen n = L at *
    generalize Lib.bitLen m = M at *
    omega
  · have hD : cutD n < cutD m := by
      unfold cutD
      rw [heq]
      exact Nat.mul_lt_mul_of_pos_right h (Nat.pow_pos (by decide))
    rw [heq]
    generalize cutD n = D at *
    generalize cutD m = E at *
    omega
theorem cut_inj (n m : Nat) (hn : n < 18446744073709551616) (hm : m < 18446744073709551616) (h1 : cutB n = cutB m) (h2 : cutR n = cutR m) : n = m := by
  rcases Nat.lt_trichotomy n m with h | h | h
  · rcases cut_less n m hm h with h | h <;> omega
  · exact h
  · rcases cut_less m n hn h with h | h <;> omega
def rankF (b : Nat) : Nat := if b < 9223372036854775808 then b + 9223372036854775808 else 18446744073709551615 - b
def plF (k n : Int) (b : Nat) : Nat := if k = 1 then (if n < 0 then rankF (9223372036854775808 + cutB (-n).toNat) else rankF (cutB n.toNat)) else if k = 2 then rankF b else 18446744073709551615
def plR (k n : Int) : Int := if k = 1 then (if n < 0 then -(cutR (-n).toNat : Int) else (cutR n.toNat : Int)) else 0
/-- The place of a value, as one number. -/
def plP (k n : Int) (b : Nat) : Int := ((plF k n b : Int) * 4096 + plR k n) * 4 + k
theorem rankF_lt (b : Nat) (h : b < 18446744073709551616) : rankF b < 18446744073709551616 := by unfold rankF; split <;> omega
theorem rankF_inj (b c : Nat) (hb : b < 18446744073709551616) (hc : c < 18446744073709551616) (h : rankF b = rankF c) : b = c := by
  unfold rankF at h; split at h <;> split at h <;> omega
theorem plR_in (k n : Int) : -2048 < plR k n ∧ plR k n < 2048 := by
  have h1 := cutR_lt (-n).toNat
  have h2 := cutR_lt n.toNat
  unfold plR; split
  · split <;> omega
  · omega
def cmpI (a b : Int) : Int := if a < b then -1 else if b < a then 1 else 0
def orI (a b : Int) : Int := if a = 0 then b else a
theorem cmpI_place (k n : Int) (b : Nat) (k' n' : Int) (b' : Nat) (hk : 1 ≤ k ∧ k ≤ 3) (hk' : 1 ≤ k' ∧ k' ≤ 3) :
    orI (cmpI (plF k n b) (plF k' n' b')) (orI (cmpI (plR k n) (plR k' n')) (cmpI k k')) = cmpI (plP k n b) (plP k' n' b') := by
  have h1 := plR_in k n
  have h2 := plR_in k' n'
  unfold plP
  generalize (plF k n b : Int) = f at *
  generalize (plF k' n' b' : Int) = f' at *
  generalize plR k n = r at *
  generalize plR k' n' = r' at *
  unfold cmpI orI
  rcases Int.lt_trichotomy f f' with h | h | h
  · rw [if_pos h, if_neg (by decide), if_pos (by omega)]
  · subst h
    rw [if_neg (Int.lt_irrefl _), if_neg (Int.lt_irrefl _), if_pos rfl]
    rcases Int.lt_trichotomy r r' with h | h | h
    · rw [if_pos h, if_neg (by decide), if_pos (by omega)]
    · subst h
      rw [if_neg (Int.lt_irrefl _), if_neg (Int.lt_irrefl _), if_pos rfl]
      rcases Int.lt_trichotomy k k' with h | h | h
      · rw [if_pos h, if_pos (by omega)]
      · subst h
        simp
      · rw [if_neg (by omega), if_pos h, if_neg (by omega), if_pos (by omega)]
    · simp only [if_neg (show ¬ r < r' by omega), if_pos h, show ¬ ((1 : Int) = 0) by decide, if_false]
      rw [if_neg (by omega), if_pos (by omega)]
  · simp only [if_neg (show ¬ f < f' by omega), if_pos h, show ¬ ((1 : Int) = 0) by decide, if_false]
    rw [if_neg (by omega), if_pos (by omega)]
/-- Numbers are ordered as whole numbers. -/
theorem plP_number (n m : Int) (hn : -9223372036854775808 ≤ n ∧ n ≤ 9223372036854775807) (hm : -9223372036854775808 ≤ m ∧ m ≤ 9223372036854775807) (b c : Nat) (h : n < m) : plP 1 n b < plP 1 m c := by
  have a1 := cutR_lt (-n).toNat
  have a2 := cutR_lt n.toNat
  have a3 := cutR_lt (-m).toNat
  have a4 := cutR_lt m.toNat
  have b1 := cutB_lt (-n).toNat (by omega)
  have b2 := cutB_lt n.toNat (by omega)
  have b3 := cutB_lt (-m).toNat (by omega)
  have b4 := cutB_lt m.toNat (by omega)
  unfold plP plF plR rankF
  simp only [if_true]
  by_cases hn0 : n < 0
  · by_cases hm0 : m < 0
    · have := cut_less (-m).toNat (-n).toNat (by omega) (by omega)
      simp only [if_pos hn0, if_pos hm0, if_neg (show ¬ 9223372036854775808 + cutB (-n).toNat < 9223372036854775808 by omega), if_neg (show ¬ 9223372036854775808 + cutB (-m).toNat < 9223372036854775808 by omega)]
      omega
    · simp only [if_pos hn0, if_neg hm0, if_neg (show ¬ 9223372036854775808 + cutB (-n).toNat < 9223372036854775808 by omega), if_pos b4]
      omega
  · have hm0 : ¬ m < 0 := by omega
    have := cut_less n.toNat m.toNat (by omega) (by omega)
    simp only [if_neg hn0, if_neg hm0, if_pos b2, if_pos b4]
    omega
theorem plP_num_inj (n m : Int) (hn : -9223372036854775808 ≤ n ∧ n ≤ 9223372036854775807) (hm : -9223372036854775808 ≤ m ∧ m ≤ 9223372036854775807) (b c : Nat) (h : plP 1 n b = plP 1 m c) : n = m := by
  rcases Int.lt_trichotomy n m with g | g | g
  · have := plP_number n m hn hm b c g; omega
  · exact g
  · have := plP_number m n hm hn c b g; omega
theorem plP_kind (k n : Int) (b : Nat) (k' n' : Int) (b' : Nat) (hk : 1 ≤ k ∧ k ≤ 3) (hk' : 1 ≤ k' ∧ k' ≤ 3) (h : plP k n b = plP k' n' b') : k = k' := by
  unfold plP at h; omega
theorem plP_flt_inj (n m : Int) (b c : Nat) (hb : b < 18446744073709551616) (hc : c < 18446744073709551616) (h : plP 2 n b = plP 2 m c) : b = c := by
  unfold plP plF plR at h
  simp only [show ¬ ((2 : Int) = 1) by decide, if_false, if_true] at h
  exact rankF_inj b c hb hc (by omega)
end Go.Proofs.YtnknkiiikeefgaaGreatDoor.wir.val
namespace Go.Proofs.YtnknkiiikeefgaaGreatDoor.wir.val
open Go.RowKit Go.YtnknkiiikeefgaaGreatDoor
set_option linter.unusedVariables false
theorem and_two63 (b : Nat) : b &&& 2 ^ 63 = if b.testBit 63 = true then 2 ^ 63 else 0 := by
  apply Nat.eq_of_testBit_eq
  intro i
  rw [Nat.testBit_and, Nat.testBit_two_pow]
  by_cases hi : 63 = i
  · subst hi
    rw [show decide (63 = 63) = true from rfl, Bool.and_true]
    cases b.testBit 63
    · rfl
    · rw [if_pos rfl, Nat.testBit_two_pow]; rfl
  · have : (if b.testBit 63 = true then 2 ^ 63 else 0 : Nat).testBit i = false := by
      split
      · rw [Nat.testBit_two_pow]; simpa using hi
      · simp
    rw [this]; simp [hi]
theorem and_sign (b : Nat) (hb : b < 18446744073709551616) : bits .and .u64 (b : Int) 9223372036854775808 = if b < 9223372036854775808 then 0 else 9223372036854775808 := by
  have h := bits_and_nat b (2 ^ 63) hb (by omega)
  rw [and_two63] at h
  have ht : b.testBit 63 = decide (¬ b < 9223372036854775808) := by
    rw [Nat.testBit_eq_decide_div_mod_eq]
    exact Bool.eq_iff_iff.2 (by simp only [decide_eq_true_eq]; omega)
  rw [ht] at h
  refine (show _ = bits .and .u64 (b : Int) ((2 ^ 63 : Nat) : Int) from rfl).trans (h.trans ?_)
  by_cases hlt : b < 9223372036854775808
  · rw [if_pos hlt, if_neg (by simp [hlt])]; rfl
  · rw [if_neg hlt, if_pos (by simp [hlt])]; rfl
theorem xor_max (n : Nat) (h : n < 18446744073709551616) : bits BinOp.xor IntKind.u64 IntKind.u64.max (n : Int) = 18446744073709551615 - (n : Int) := by
  show IntKind.u64.wrap ((BitVec.ofInt 64 IntKind.u64.max ^^^ BitVec.ofInt 64 (n : Int)).toNat : Int) = _
  rw [show BitVec.ofInt 64 IntKind.u64.max = BitVec.allOnes 64 from rfl, BitVec.allOnes_xor, BitVec.toNat_not, BitVec.toNat_ofInt, IntKind.wrap_u64]
  omega
theorem or_sign (b : Nat) (hb : b < 9223372036854775808) : bits .or .u64 (b : Int) 9223372036854775808 = ((b + 9223372036854775808 : Nat) : Int) := by
  have h := bits_or_nat b 9223372036854775808 (by omega) (by omega)
  rw [Nat.or_comm, show (9223372036854775808 : Nat) = 2 ^ 63 * 1 by decide, ← Nat.two_pow_add_eq_or_of_lt (by omega) 1] at h
  rw [show (9223372036854775808 : Int) = ((2 ^ 63 * 1 : Nat) : Int) by decide, h]
  omega
theorem sign_or (b : Nat) (hb : b < 9223372036854775808) : bits .or .u64 9223372036854775808 (b : Int) = ((9223372036854775808 + b : Nat) : Int) := by
  have h := bits_or_nat 9223372036854775808 b (by omega) (by omega)
  rw [show (9223372036854775808 : Nat) = 2 ^ 63 * 1 by decide, ← Nat.two_pow_add_eq_or_of_lt (by omega) 1] at h
  rw [show (9223372036854775808 : Int) = ((2 ^ 63 * 1 : Nat) : Int) by decide, h]
abbrev plA (f : Nat) (r k : Int) : Value := .agg #[.int .u64 (f : Int), .int .i64 r, .int .u8 k]
theorem place_one (f : Nat) (r k : Int) : (#[Value.int .u64 (f : Int), .int .i64 r, .int .u8 k] : Array Value).all (·.oneCell') = true := by simp [Value.oneCell']
end Go.Proofs.YtnknkiiikeefgaaGreatDoor.wir.val
namespace Go.Proofs.YtnknkiiikeefgaaGreatDoor.wir.val
open Go.RowKit Go.YtnknkiiikeefgaaGreatDoor
set_option linter.unusedVariables false
def orL : List Int → Int
  | [] => 0
  | a :: l => if a = 0 then orL l else a
theorem orL_at : ∀ (l : List Int) (k : Nat), k < l.length → (∀ j, j < k → ith l j = 0) → ith l k ≠ 0 → orL l = ith l k
  | a :: l, 0, _, _, h => by
    have : ith (a :: l) 0 = a := rfl
    rw [this] at h ⊢
    unfold orL; rw [if_neg h]
  | a :: l, k + 1, hk, h0, h => by
    have ha : a = 0 := h0 0 (by omega)
    have e : ith (a :: l) (k + 1) = ith l k := by simp [ith]
    rw [e] at h ⊢
    unfold orL; rw [if_pos ha]
    exact orL_at l k (by simpa using hk) (fun j hj => by have := h0 (j + 1) (by omega); simpa [ith] using this) h
theorem orL_none : ∀ (l : List Int), (∀ j, j < l.length → ith l j = 0) → orL l = 0
  | [], _ => rfl
  | a :: l, h => by
    have ha : a = 0 := h 0 (by simp)
    unfold orL; rw [if_pos ha]
    exact orL_none l (fun j hj => by have := h (j + 1) (by simpa using hj); simpa [ith] using this)
def i64s (l : List Int) : Array Value := (l.map (Value.int .i64)).toArray
theorem i64s_get (l : List Int) (j : Nat) (h : j < l.length) : (i64s l)[j]? = some (.int .i64 (ith l j)) := by simp [i64s, ith, h]
theorem orL_three (a b c : Int) : orL [a, b, c] = orI a (orI b c) := by
  simp only [orL, orI]
  split
  · split
    · split <;> simp_all
    · rfl
  · rfl
theorem orL_two (a b : Int) : orL [a, b] = orI a b := by
  simp only [orL, orI]
  split
  · split <;> simp_all
  · rfl
theorem compareBytes_sI : ∀ (l m : List UInt8), Lib.compareBytes l m = cmpF (l.map fun c => (c.toNat : Int)) (m.map fun c => (c.toNat : Int))
  | [], [] => rfl
  | [], _ :: _ => rfl
  | _ :: _, [] => rfl
  | a :: xs, b :: ys => by
    have h1 : (a < b) ↔ ((a.toNat : Int) < (b.toNat : Int)) := by rw [UInt8.lt_iff_toNat_lt]; omega
    have h2 : (b < a) ↔ ((b.toNat : Int) < (a.toNat : Int)) := by rw [UInt8.lt_iff_toNat_lt]; omega
    simp only [Lib.compareBytes, List.map_cons, cmpF, compareBytes_sI xs ys, h1, h2]
/-- What Cmp answers for two valid values. -/
def cmpV (k n : Int) (b : Nat) (s : ByteArray) (k' n' : Int) (b' : Nat) (s' : ByteArray) : Int := orI (cmpI (plP k n b) (plP k' n' b')) (cmpF (sI s) (sI s'))
theorem valid_kind {k n : Int} {b : Nat} {s : ByteArray} (h : validV k n b s = true) : 1 ≤ k ∧ k ≤ 3 := by
  unfold validV at h
  split at h
  · omega
  · split at h
    · omega
    · split at h
      · omega
      · cases h
structure VFit (k n : Int) (b : Nat) (s : ByteArray) : Prop where
  k : 0 ≤ k ∧ k < 256
  n : -9223372036854775808 ≤ n ∧ n ≤ 9223372036854775807
  b : b < 18446744073709551616
  s : s.size ≤ 1000000
end Go.Proofs.YtnknkiiikeefgaaGreatDoor.wir.val
namespace Go.Proofs.YtnknkiiikeefgaaGreatDoor.wir.val
open Go.RowKit Go.YtnknkiiikeefgaaGreatDoor
set_option linter.unusedVariables false
theorem quiet_mid {P : Program} {C : World → Prop} {o : Oper} {a : Act} (ty : TypeId) (x : Operand) (ho : o.op = .load ty x) (g k : Nat) (hx : a.eval x = .pointer (some ⟨g, k, none⟩)) (cs : List Value) (d : TypeDesc)
    (hC : ∀ w, C w → w.rangeAt g k cs) (hu : P.underlying ty = some d) (hd : d.isRow = true) (hi : (P.info? ty).map (·.size) = some cs.length) : ∀ w, C w → o.quietAt P a C w (.agg cs.toArray) := by
  intro w hw
  unfold Oper.quietAt execOp
  simp only [ho, hx, Instr.loadAt, Instr.sureAddr, Sem.run_bind, Sem.run_pure, Result.andThen_ok, run_loadVar_mid w g k ty cs d (hC w hw) hu hd hi]
  exact ⟨rfl, rfl⟩
/-- A value. -/
structure Va where
  k : Int
  n : Int
  b : Nat
  s : ByteArray
abbrev Va.l (v : Va) : List Value := [.int .u8 v.k, .int .i64 v.n, .int .u64 (v.b : Int), .string v.s]
abbrev Va.v (v : Va) : Value := vA v.k v.n v.b v.s
abbrev Va.fit (v : Va) : Prop := VFit v.k v.n v.b v.s
abbrev Va.ok (v : Va) : Bool := validV v.k v.n v.b v.s
abbrev Va.cmp (v u : Va) : Int := cmpV v.k v.n v.b v.s u.k u.n u.b u.s
def vaAt (L : List Va) (i : Nat) : Va := L[i]?.getD ⟨0, 0, 0, ⟨#[]⟩⟩
def rowV (L : List Va) : Array Value := (L.flatMap Va.l).toArray
theorem flat_at : ∀ (L : List Va) (i j : Nat), i < L.length → j < 4 → (L.flatMap Va.l)[4 * i + j]? = (vaAt L i).l[j]?
  | v :: L, 0, j, _, hj => by
    rw [List.flatMap_cons, List.getElem?_append_left (by simp; omega)]
    simp [vaAt]
  | v :: L, i + 1, j, h, hj => by
    rw [List.flatMap_cons, List.getElem?_append_right (by simp; omega)]
    have e : 4 * (i + 1) + j - v.l.length = 4 * i + j := by simp; omega
    rw [e, flat_at L i j (by simpa using h) hj]
    simp [vaAt]
theorem range_of_row {w : World} {g : Nat} {L : List Va} {T : TypeId} {fr : Nat × Nat} (h : w.heap[g]? = some (.cells (rowV L) T fr)) (i : Nat) (hi : i < L.length) : w.rangeAt g (i * 4) (vaAt L i).l := by
  intro j v hj
  have hj4 : j < 4 := by
    have := (List.getElem?_eq_some_iff.1 hj).1
    simpa using this
  rw [cell_of_row _ _ _ _ _ _ h, rowV, List.getElem?_toArray, Nat.mul_comm, flat_at L i j hi hj4]
  exact hj
theorem cmpI_anti (a b : Int) : cmpI b a = - cmpI a b := by unfold cmpI; split <;> split <;> omega
theorem cmpI_self (a : Int) : cmpI a a = 0 := by simp [cmpI]
theorem orI_neg (a b : Int) : orI (-a) (-b) = - orI a b := by unfold orI; split <;> split <;> omega
theorem cmpV_anti (u v : Va) : v.cmp u = - u.cmp v := by
  unfold Va.cmp cmpV
  rw [cmpI_anti, cmp_anti, orI_neg]
theorem cmpV_self (u : Va) : u.cmp u = 0 := by
  unfold Va.cmp cmpV
  rw [cmpI_self, cmp_self]; rfl
end Go.Proofs.YtnknkiiikeefgaaGreatDoor.wir.val

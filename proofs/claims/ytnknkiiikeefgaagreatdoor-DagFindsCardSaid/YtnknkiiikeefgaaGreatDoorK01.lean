/- Layer 6: operations are read from bytes: the maths. -/
import Derived.Test.YtnknkiiikeefgaaGreatDoorK02
import Derived.Test.YtnknkiiikeefgaaGreatDoorU01
namespace Go.Proofs.YtnknkiiikeefgaaGreatDoor.wir.val
open Go.RowKit Go.YtnknkiiikeefgaaGreatDoor
set_option linter.unusedVariables false
theorem rNum_back {l m : List Int} (hl : Bytes l) {n : Nat} (h : rNum l = some (n, m)) : l = numB n ++ m ∧ n < 18446744073709551616 := by
  unfold rNum at h
  cases h1 : readF l with
  | none => rw [h1] at h; cases h
  | some p =>
    obtain ⟨a, u⟩ := p
    rw [h1] at h
    obtain ⟨e1, e2⟩ := Prod.mk.inj (Option.some.inj h)
    subst e1 e2
    obtain ⟨a1, a2, a3, a4⟩ := readF_some hl h1
    exact ⟨by rw [← a4, List.take_append_drop], a1⟩
theorem rNum_enc {n : Nat} (h : n < 18446744073709551616) (m : List Int) : rNum (numB n ++ m) = some (n, m) := by
  unfold rNum
  rw [readF_num n h m]
  simp only
  rw [List.drop_left' (numB_length n)]
theorem rSmall_back {l m : List Int} (hl : Bytes l) {n : Nat} (h : rSmall l = some (n, m)) : l = numB n ++ m ∧ n < 4294967296 := by
  unfold rSmall at h
  cases h1 : rNum l with
  | none => rw [h1] at h; cases h
  | some p =>
    rw [h1] at h
    simp only at h
    by_cases h2 : 4294967295 < p.1
    · rw [if_pos h2] at h; cases h
    · rw [if_neg h2] at h
      obtain rfl := Option.some.inj h
      exact ⟨(rNum_back hl h1).1, by simp only at h2; omega⟩
theorem rSmall_enc {n : Nat} (h : n < 4294967296) (m : List Int) : rSmall (numB n ++ m) = some (n, m) := by
  unfold rSmall
  rw [rNum_enc (Nat.lt_trans h (by decide)) m]
  simp only
  rw [if_neg (by omega)]
theorem rIds_back {l m F : List Int} (hl : Bytes l) {n : Nat} (h : rIds l = some ((n, F), m)) : l = (numB n ++ F) ++ m ∧ n ≤ 4 ∧ F.length = 32 * n ∧ riseF F n = true := by
  unfold rIds at h
  cases h1 : readC l 4 32 with
  | none => rw [h1] at h; cases h
  | some p =>
    obtain ⟨a, u⟩ := p
    rw [h1] at h
    simp only at h
    by_cases h2 : riseF ((l.drop u).take (a * 32)) a = true
    · rw [if_pos h2] at h
      obtain ⟨e1, e2⟩ := Prod.mk.inj (Option.some.inj h)
      obtain ⟨e3, e4⟩ := Prod.mk.inj e1
      subst e2 e3 e4
      obtain ⟨c1, c2, c3⟩ := readC_some h1
      obtain ⟨a1, a2, a3, a4⟩ := readF_some hl c1
      have hlen : ((l.drop u).take (a * 32)).length = 32 * a := by rw [List.length_take, List.length_drop]; omega
      refine ⟨?_, by omega, hlen, h2⟩
      rw [← a4, ← List.take_add, List.take_append_drop]
    · rw [if_neg h2] at h; cases h
theorem rIds_enc {n : Nat} {F : List Int} (hn : n ≤ 4) (hF : F.length = 32 * n) (hR : riseF F n = true) (m : List Int) : rIds ((numB n ++ F) ++ m) = some ((n, F), m) := by
  have hc : readC ((numB n ++ F) ++ m) 4 32 = some (n, numL n) := by
    have h := readF_num n (by omega) (F ++ m)
    rw [← List.append_assoc] at h
    unfold readC
    rw [h]
    have h2 : ((n : Nat) : Int) ≤ 4 ∧ n ≤ (((numB n ++ F) ++ m).length - numL n) / 32 := by
      refine ⟨by omega, ?_⟩
      rw [List.length_append, List.length_append, numB_length]; omega
    simp only [h2, and_self, if_true]
  unfold rIds
  rw [hc]
  simp only
  rw [list_part F m n hF, if_pos hR, List.drop_left' (by rw [List.length_append, numB_length, hF]; omega)]
theorem rKey_back {l m : List Int} (hl : Bytes l) {s : ByteArray} (h : rKey l = some (s, m)) : l = textB (sI s) ++ m ∧ s.size ≤ 20 := by
  unfold rKey at h
  cases h1 : readC l 20 1 with
  | none => rw [h1] at h; cases h
  | some p =>
    obtain ⟨n, u⟩ := p
    rw [h1] at h
    obtain ⟨e1, e2⟩ := Prod.mk.inj (Option.some.inj h)
    subst e1 e2
    obtain ⟨h1, h2, h3⟩ := readC_some h1
    obtain ⟨a1, a2, a3, a4⟩ := readF_some hl h1
    rw [Nat.div_one] at h3
    have hlen : ((l.drop u).take n).length = n := by rw [List.length_take, List.length_drop]; omega
    refine ⟨?_, by rw [toS_size, hlen]; omega⟩
    rw [sI_toS _ (bytes_take _ _ (bytes_drop _ _ hl)), textB, hlen, ← a4, ← List.take_add, List.take_append_drop]
theorem rKey_enc {s : ByteArray} (hs : s.size ≤ 20) (m : List Int) : rKey (textB (sI s) ++ m) = some (s, m) := by
  have e : textB (sI s) = numB s.size ++ sI s := by unfold textB; rw [sI_length]
  have hC : readC (textB (sI s) ++ m) 20 1 = some (s.size, numL s.size) := by
    rw [e]
    unfold readC
    rw [List.append_assoc, readF_num _ (by omega)]
    simp only
    rw [if_pos]
    refine ⟨by omega, ?_⟩
    rw [Nat.div_one, List.length_append, List.length_append, numB_length, sI_length]; omega
  unfold rKey
  rw [hC]
  simp only
  have h1 : (textB (sI s) ++ m).drop (numL s.size + s.size) = m := List.drop_left' (by rw [e, List.length_append, numB_length, sI_length])
  have h2 : ((textB (sI s) ++ m).drop (numL s.size)).take s.size = sI s := by rw [e, List.append_assoc, List.drop_left' (numB_length _), List.take_left' (sI_length s)]
  rw [h1, h2, toS_sI]
theorem rVal_back {l m : List Int} (hl : Bytes l) {v : Va} (h : rVal l = some (v, m)) : l = encB v.k v.n v.b v.s ++ m ∧ v.fit ∧ v.ok = true := by
  unfold rVal at h
  cases h1 : decF l with
  | none => rw [h1] at h; cases h
  | some p =>
    obtain ⟨a, u⟩ := p
    rw [h1] at h
    obtain ⟨e1, e2⟩ := Prod.mk.inj (Option.some.inj h)
    subst e1 e2
    obtain ⟨a1, a2, a3, a4, a5⟩ := decF_some hl h1
    exact ⟨by rw [a5, List.take_append_drop], a1, a2⟩
theorem rVal_enc {v : Va} (fv : v.fit) (hv : v.ok = true) (m : List Int) : rVal (encB v.k v.n v.b v.s ++ m) = some (v, m) := by
  unfold rVal
  rw [decF_enc _ _ _ _ fv hv m]
  simp only
  rw [List.drop_left' rfl]
def Ac.B (c : Ac) : List Int := ([c.k] ++ (if c.k = 1 then [] else textB (sI c.key))) ++ (if c.k = 4 then encB c.v.k c.v.n c.v.b c.v.s else [])
theorem cons_of {l : List Int} (h : ¬ l.length = 0) : l = [ith l 0] ++ l.drop 1 := by
  cases l with
  | nil => simp at h
  | cons x l => simp [ith]
theorem rAct_back {l m : List Int} (hl : Bytes l) {c : Ac} (h : rAct l = some (c, m)) : l = c.B ++ m ∧ (0 ≤ c.k ∧ c.k < 256) ∧ c.key.size ≤ 20 ∧ c.v.fit := by
  unfold rAct at h
  by_cases h0 : l.length = 0
  · rw [if_pos h0] at h; cases h
  rw [if_neg h0] at h
  by_cases h1 : ith l 0 = 1
  · rw [if_pos h1] at h
    obtain ⟨e1, e2⟩ := Prod.mk.inj (Option.some.inj h)
    subst e1 e2
    refine ⟨?_, hl 0, Nat.zero_le _, fit_zero⟩
    unfold Ac.B
    simp only
    rw [if_pos h1, if_neg (by omega), List.append_nil, List.append_nil]
    exact cons_of h0
  · rw [if_neg h1] at h
    cases h2 : rKey (l.drop 1) with
    | none => rw [h2] at h; cases h
    | some p =>
      obtain ⟨s, r⟩ := p
      rw [h2] at h
      simp only at h
      obtain ⟨k1, k2⟩ := rKey_back (bytes_drop _ _ hl) h2
      by_cases h4 : ith l 0 = 4
      · rw [if_pos h4] at h
        cases h5 : rVal r with
        | none => rw [h5] at h; cases h
        | some q =>
          obtain ⟨v, r2⟩ := q
          rw [h5] at h
          obtain ⟨e1, e2⟩ := Prod.mk.inj (Option.some.inj h)
          subst e1 e2
          have hr : Bytes r := by
            have hb := bytes_drop l 1 hl
            rw [k1] at hb
            have := bytes_drop _ (textB (sI s)).length hb
            rwa [List.drop_left' rfl] at this
          obtain ⟨v1, v2, v3⟩ := rVal_back hr h5
          refine ⟨?_, hl 0, k2, v2⟩
          unfold Ac.B
          simp only
          rw [if_neg h1, if_pos h4, List.append_assoc, List.append_assoc, ← v1, ← k1]
          exact cons_of h0
      · rw [if_neg h4] at h
        obtain ⟨e1, e2⟩ := Prod.mk.inj (Option.some.inj h)
        subst e1 e2
        refine ⟨?_, hl 0, k2, fit_zero⟩
        unfold Ac.B
        simp only
        rw [if_neg h1, if_neg h4, List.append_nil, List.append_assoc, ← k1]
        exact cons_of h0
theorem rAct_enc {c : Ac} (fv : c.v.fit) (hA : actB c.k c.key c.v = true) (m : List Int) : rAct (c.B ++ m) = some (c, m) := by
  obtain ⟨k, key, v⟩ := c
  simp only at fv hA
  unfold Ac.B
  simp only
  unfold actB at hA
  unfold rAct
  rw [List.append_assoc, List.append_assoc, List.singleton_append, if_neg (by simp), ith_cons_zero, List.drop_one, List.tail_cons]
  by_cases k1 : k = 1
  · rw [if_pos k1, Bool.and_eq_true, decide_eq_true_eq] at hA
    rw [if_pos k1, if_pos k1, if_neg (by omega), zeroV_eq hA.2, size_nil hA.1]
    rfl
  · rw [if_neg k1] at hA
    rw [if_neg k1, if_neg k1]
    by_cases k2 : k = 2 ∨ k = 3
    · rw [if_pos k2, Bool.and_eq_true] at hA
      have k4 : ¬ k = 4 := by omega
      rw [rKey_enc (keyB_size hA.1)]
      simp only
      rw [if_neg k4, if_neg k4, zeroV_eq hA.2]
      rfl
    · rw [if_neg k2] at hA
      by_cases k4 : k = 4
      · rw [if_pos k4, Bool.and_eq_true] at hA
        rw [rKey_enc (keyB_size hA.1)]
        simp only
        rw [if_pos k4, if_pos k4, rVal_enc fv hA.2]
      · rw [if_neg k4] at hA
        cases hA
theorem bytes_tail {a m : List Int} (h : Bytes (a ++ m)) : Bytes m := by
  have := bytes_drop _ a.length h
  rwa [List.drop_left' rfl] at this
theorem bytes_head {a m : List Int} (h : Bytes (a ++ m)) : Bytes a := by
  have := bytes_take _ a.length h
  rwa [List.take_left' rfl] at this
theorem encO_parts (o : Od) (m : List Int) : encO o ++ m = [111] ++ (numB o.au ++ ((numB o.n ++ o.F) ++ (numB o.st ++ ((Ac.B ⟨o.k, o.key, o.v⟩) ++ (numB o.e ++ (numB o.s ++ m)))))) := by
  unfold encO msgB Ac.B
  simp only [List.append_assoc]
theorem rOp_back {l m : List Int} (hl : Bytes l) {o : Od} (h : rOp l = some (o, m)) : l = encO o ++ m ∧ o.Fit ∧ o.n ≤ 4 ∧ o.F.length = 32 * o.n ∧ riseF o.F o.n = true := by
  unfold rOp at h
  by_cases h0 : l.length = 0
  · rw [if_pos h0] at h; cases h
  rw [if_neg h0] at h
  by_cases h1 : ith l 0 = 111
  · rw [if_pos h1] at h
    have e0 := cons_of h0
    rw [h1] at e0
    have hl1 := bytes_drop l 1 hl
    generalize l.drop 1 = l1 at *
    cases g1 : rSmall l1 with
    | none => rw [g1] at h; cases h
    | some a =>
    obtain ⟨au, l2⟩ := a
    rw [g1] at h
    obtain ⟨e1, b1⟩ := rSmall_back hl1 g1
    rw [e1] at hl1
    have hl2 := bytes_tail hl1
    cases g2 : rIds l2 with
    | none => simp only [g2] at h; cases h
    | some a =>
    obtain ⟨⟨n, F⟩, l3⟩ := a
    simp only [g2] at h
    obtain ⟨e2, b2, b3, b4⟩ := rIds_back hl2 g2
    rw [e2] at hl2
    have hl3 := bytes_tail hl2
    have hF := bytes_tail (bytes_head hl2)
    cases g3 : rNum l3 with
    | none => simp only [g3] at h; cases h
    | some a =>
    obtain ⟨st, l4⟩ := a
    simp only [g3] at h
    obtain ⟨e3, b5⟩ := rNum_back hl3 g3
    rw [e3] at hl3
    have hl4 := bytes_tail hl3
    cases g4 : rAct l4 with
    | none => simp only [g4] at h; cases h
    | some a =>
    obtain ⟨c, l5⟩ := a
    simp only [g4] at h
    obtain ⟨e4, b6, b7, b8⟩ := rAct_back hl4 g4
    rw [e4] at hl4
    have hl5 := bytes_tail hl4
    cases g5 : rSmall l5 with
    | none => simp only [g5] at h; cases h
    | some a =>
    obtain ⟨x, l6⟩ := a
    simp only [g5] at h
    obtain ⟨e5, b9⟩ := rSmall_back hl5 g5
    rw [e5] at hl5
    have hl6 := bytes_tail hl5
    cases g6 : rSmall l6 with
    | none => simp only [g6] at h; cases h
    | some a =>
    obtain ⟨y, l7⟩ := a
    simp only [g6] at h
    obtain ⟨e6, b10⟩ := rSmall_back hl6 g6
    obtain ⟨r1, r2⟩ := Prod.mk.inj (Option.some.inj h)
    subst r1 r2
    refine ⟨?_, ⟨b1, hF, Nat.le_trans b2 (by decide), b5, b6, Nat.le_trans b7 (by decide), b8, b9, b10⟩, b2, b3, b4⟩
    rw [encO_parts]
    simp only
    rw [← e6, ← e5, ← e4, ← e3, ← e2, ← e1]
    exact e0
  · rw [if_neg h1] at h; cases h
theorem rOp_enc {o : Od} (fo : o.Fit) (hn : o.n ≤ 4) (hF : o.F.length = 32 * o.n) (hR : riseF o.F o.n = true) (hA : actB o.k o.key o.v = true) (m : List Int) : rOp (encO o ++ m) = some (o, m) := by
  rw [encO_parts]
  unfold rOp
  rw [if_neg (by simp), List.singleton_append, ith_cons_zero, if_pos rfl, List.drop_one, List.tail_cons, rSmall_enc fo.au]
  simp only
  rw [rIds_enc hn hF hR]
  simp only
  rw [rNum_enc fo.st]
  simp only
  rw [rAct_enc (c := ⟨o.k, o.key, o.v⟩) fo.v hA]
  simp only
  rw [rSmall_enc fo.e]
  simp only
  rw [rSmall_enc fo.s]
theorem decO_back {l : List Int} (hl : Bytes l) {o : Od} (h : decO l = some o) : encO o = l ∧ o.Fit ∧ chkO o = 0 ∧ o.F.length = 32 * o.n := by
  unfold decO at h
  cases h1 : rOp l with
  | none => rw [h1] at h; cases h
  | some p =>
    obtain ⟨p, m⟩ := p
    rw [h1] at h
    simp only at h
    by_cases h2 : m.length = 0 ∧ chkO p = 0
    · rw [if_pos h2] at h
      obtain rfl := Option.some.inj h
      obtain ⟨a1, a2, a3, a4, a5⟩ := rOp_back hl h1
      rw [List.eq_nil_of_length_eq_zero h2.1, List.append_nil] at a1
      exact ⟨a1.symm, a2, h2.2, a4⟩
    · rw [if_neg h2] at h; cases h
theorem decO_enc {o : Od} (fo : o.Fit) (hF : o.F.length = 32 * o.n) (h : chkO o = 0) : decO (encO o) = some o := by
  obtain ⟨h1, h2, h3⟩ := chk_zero h
  have := rOp_enc fo h1 hF h2 h3 []
  rw [List.append_nil] at this
  unfold decO
  rw [this]
  simp only
  rw [if_pos ⟨rfl, h⟩]
end Go.Proofs.YtnknkiiikeefgaaGreatDoor.wir.val

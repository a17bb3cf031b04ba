/- Texts that the row stands on, part 6. -/
import Derived.Test.YtfaojjleapenaabGreatDoorRNamesJq05
import Derived.Lib.AppendZeros
namespace Go.Proofs.YtfaojjleapenaabGreatDoor.wir.val
open Go.RowKit Go.YtfaojjleapenaabGreatDoor
set_option linter.unusedVariables false
theorem size_nil {s : ByteArray} (h : s.size = 0) : s = ⟨#[]⟩ := by
  cases s with | mk a => simp only [ByteArray.mk.injEq]; exact Array.eq_empty_of_size_eq_zero h
theorem zeroV_eq {v : Va} (h : zeroV v = true) : v = ⟨0, 0, 0, ⟨#[]⟩⟩ := by
  unfold zeroV eqB at h
  simp only [Bool.and_eq_true, decide_eq_true_eq] at h
  obtain ⟨h1, h2, h3, h4⟩ := h
  obtain ⟨k, n, b, s⟩ := v
  simp only at h1 h2 h3 h4
  rw [h1, h2, h3, h4]
theorem keyB_size {s : ByteArray} (h : keyB s = true) : s.size ≤ 20 := by
  unfold keyB at h
  simp only [Bool.and_eq_true, decide_eq_true_eq] at h
  exact h.2.1
end Go.Proofs.YtfaojjleapenaabGreatDoor.wir.val
namespace Go.Proofs.YtfaojjleapenaabGreatDoor.wir.val
open Go.RowKit Go.YtfaojjleapenaabGreatDoor
set_option linter.unusedVariables false
end Go.Proofs.YtfaojjleapenaabGreatDoor.wir.val
namespace Go.Proofs.YtfaojjleapenaabGreatDoor.wir.val
open Go.RowKit Go.YtfaojjleapenaabGreatDoor
set_option linter.unusedVariables false
end Go.Proofs.YtfaojjleapenaabGreatDoor.wir.val
namespace Go.Proofs.YtfaojjleapenaabGreatDoor.wir.val
open Go.RowKit Go.YtfaojjleapenaabGreatDoor
set_option linter.unusedVariables false
theorem rNum_back {l m : List Int} (hl : Bytes l) {n : Nat} (h : rNum l = some (n, m)) : l = numB n ++ m ∧ n < 18446744073709551616 := by
  unfold rNum at h
  cases h1 : readF l with
  | none => rw [h1] at h; cases h
  | some p =>
    obtain ⟨a, u⟩ := p
    rw [h1] at h
    obtain ⟨e1, e2⟩ := Prod.mk.inj (Option.some.inj h)
    subst e1 e2
    obtain ⟨a1, a2, a3, a4⟩ := readF_some hl h1
    exact ⟨by rw [← a4, List.take_append_drop], a1⟩
theorem rNum_enc {n : Nat} (h : n < 18446744073709551616) (m : List Int) : rNum (numB n ++ m) = some (n, m) := by
  unfold rNum
  rw [readF_num n h m]
  simp only
  rw [List.drop_left' (numB_length n)]
theorem rSmall_back {l m : List Int} (hl : Bytes l) {n : Nat} (h : rSmall l = some (n, m)) : l = numB n ++ m ∧ n < 4294967296 := by
  unfold rSmall at h
  cases h1 : rNum l with
  | none => rw [h1] at h; cases h
  | some p =>
    rw [h1] at h
    simp only at h
    by_cases h2 : 4294967295 < p.1
    · rw [if_pos h2] at h; cases h
    · rw [if_neg h2] at h
      obtain rfl := Option.some.inj h
      exact ⟨(rNum_back hl h1).1, by simp only at h2; omega⟩
theorem rSmall_enc {n : Nat} (h : n < 4294967296) (m : List Int) : rSmall (numB n ++ m) = some (n, m) := by
  unfold rSmall
  rw [rNum_enc (Nat.lt_trans h (by decide)) m]
  simp only
  rw [if_neg (by omega)]
theorem rIds_back {l m F : List Int} (hl : Bytes l) {n : Nat} (h : rIds l = some ((n, F), m)) : l = (numB n ++ F) ++ m ∧ n ≤ 4 ∧ F.length = 32 * n ∧ riseF F n = true := by
  unfold rIds at h
  cases h1 : readC l 4 32 with
  | none => rw [h1] at h; cases h
  | some p =>
    obtain ⟨a, u⟩ := p
    rw [h1] at h
    simp only at h
    by_cases h2 : riseF ((l.drop u).take (a * 32)) a = true
    · rw [if_pos h2] at h
      obtain ⟨e1, e2⟩ := Prod.mk.inj (Option.some.inj h)
      obtain ⟨e3, e4⟩ := Prod.mk.inj e1
      subst e2 e3 e4
      obtain ⟨c1, c2, c3⟩ := readC_some h1
      obtain ⟨a1, a2, a3, a4⟩ := readF_some hl c1
      have hlen : ((l.drop u).take (a * 32)).length = 32 * a := by rw [List.length_take, List.length_drop]; omega
      refine ⟨?_, by omega, hlen, h2⟩
      rw [← a4, ← List.take_add, List.take_append_drop]
    · rw [if_neg h2] at h; cases h
theorem rIds_enc {n : Nat} {F : List Int} (hn : n ≤ 4) (hF : F.length = 32 * n) (hR : riseF F n = true) (m : List Int) : rIds ((numB n ++ F) ++ m) = some ((n, F), m) := by
  have hc : readC ((numB n ++ F) ++ m) 4 32 = some (n, numL n) := by
    have h := readF_num n (by omega) (F ++ m)
    rw [← List.append_assoc] at h
    unfold readC
    rw [h]
    have h2 : ((n : Nat) : Int) ≤ 4 ∧ n ≤ (((numB n ++ F) ++ m).length - numL n) / 32 := by
      refine ⟨by omega, ?_⟩
      rw [List.length_append, List.length_append, numB_length]; omega
    simp only [h2, and_self, if_true]
  unfold rIds
  rw [hc]
  simp only
  rw [list_part F m n hF, if_pos hR, List.drop_left' (by rw [List.length_append, numB_length, hF]; omega)]
theorem rKey_back {l m : List Int} (hl : Bytes l) {s : ByteArray} (h : rKey l = some (s, m)) : l = textB (sI s) ++ m ∧ s.size ≤ 20 := by
  unfold rKey at h
  cases h1 : readC l 20 1 with
  | none => rw [h1] at h; cases h
  | some p =>
    obtain ⟨n, u⟩ := p
    rw [h1] at h
    obtain ⟨e1, e2⟩ := Prod.mk.inj (Option.some.inj h)
    subst e1 e2
    obtain ⟨h1, h2, h3⟩ := readC_some h1
    obtain ⟨a1, a2, a3, a4⟩ := readF_some hl h1
    rw [Nat.div_one] at h3
    have hlen : ((l.drop u).take n).length = n := by rw [List.length_take, List.length_drop]; omega
    refine ⟨?_, by rw [toS_size, hlen]; omega⟩
    rw [sI_toS _ (bytes_take _ _ (bytes_drop _ _ hl)), textB, hlen, ← a4, ← List.take_add, List.take_append_drop]
theorem rKey_enc {s : ByteArray} (hs : s.size ≤ 20) (m : List Int) : rKey (textB (sI s) ++ m) = some (s, m) := by
  have e : textB (sI s) = numB s.size ++ sI s := by unfold textB; rw [sI_length]
  have hC : readC (textB (sI s) ++ m) 20 1 = some (s.size, numL s.size) := by
    rw [e]
    unfold readC
    rw [List.append_assoc, readF_num _ (by omega)]
    simp only
    rw [if_pos]
    refine ⟨by omega, ?_⟩
    rw [Nat.div_one, List.length_append, List.length_append, numB_length, sI_length]; omega
  unfold rKey
  rw [hC]
  simp only
  have h1 : (textB (sI s) ++ m).drop (numL s.size + s.size) = m := List.drop_left' (by rw [e, List.length_append, numB_length, sI_length])
  have h2 : ((textB (sI s) ++ m).drop (numL s.size)).take s.size = sI s := by rw [e, List.append_assoc, List.drop_left' (numB_length _), List.take_left' (sI_length s)]
  rw [h1, h2, toS_sI]
theorem rVal_back {l m : List Int} (hl : Bytes l) {v : Va} (h : rVal l = some (v, m)) : l = encB v.k v.n v.b v.s ++ m ∧ v.fit ∧ v.ok = true := by
  unfold rVal at h
  cases h1 : decF l with
  | none => rw [h1] at h; cases h
  | some p =>
    obtain ⟨a, u⟩ := p
    rw [h1] at h
    obtain ⟨e1, e2⟩ := Prod.mk.inj (Option.some.inj h)
    subst e1 e2
    obtain ⟨a1, a2, a3, a4, a5⟩ := decF_some hl h1
    exact ⟨by rw [a5, List.take_append_drop], a1, a2⟩
theorem rVal_enc {v : Va} (fv : v.fit) (hv : v.ok = true) (m : List Int) : rVal (encB v.k v.n v.b v.s ++ m) = some (v, m) := by
  unfold rVal
  rw [decF_enc _ _ _ _ fv hv m]
  simp only
  rw [List.drop_left' rfl]
def Ac.B (c : Ac) : List Int := ([c.k] ++ (if c.k = 1 then [] else textB (sI c.key))) ++ (if c.k = 4 then encB c.v.k c.v.n c.v.b c.v.s else [])
theorem cons_of {l : List Int} (h : ¬ l.length = 0) : l = [ith l 0] ++ l.drop 1 := by
  cases l with
  | nil => simp at h
  | cons x l => simp [ith]
theorem rAct_back {l m : List Int} (hl : Bytes l) {c : Ac} (h : rAct l = some (c, m)) : l = c.B ++ m ∧ (0 ≤ c.k ∧ c.k < 256) ∧ c.key.size ≤ 20 ∧ c.v.fit := by
  unfold rAct at h
  by_cases h0 : l.length = 0
  · rw [if_pos h0] at h; cases h
  rw [if_neg h0] at h
  by_cases h1 : ith l 0 = 1
  · rw [if_pos h1] at h
    obtain ⟨e1, e2⟩ := Prod.mk.inj (Option.some.inj h)
    subst e1 e2
    refine ⟨?_, hl 0, Nat.zero_le _, fit_zero⟩
    unfold Ac.B
    simp only
    rw [if_pos h1, if_neg (by omega), List.append_nil, List.append_nil]
    exact cons_of h0
  · rw [if_neg h1] at h
    cases h2 : rKey (l.drop 1) with
    | none => rw [h2] at h; cases h
    | some p =>
      obtain ⟨s, r⟩ := p
      rw [h2] at h
      simp only at h
      obtain ⟨k1, k2⟩ := rKey_back (bytes_drop _ _ hl) h2
      by_cases h4 : ith l 0 = 4
      · rw [if_pos h4] at h
        cases h5 : rVal r with
        | none => rw [h5] at h; cases h
        | some q =>
          obtain ⟨v, r2⟩ := q
          rw [h5] at h
          obtain ⟨e1, e2⟩ := Prod.mk.inj (Option.some.inj h)
          subst e1 e2
          have hr : Bytes r := by
            have hb := bytes_drop l 1 hl
            rw [k1] at hb
            have := bytes_drop _ (textB (sI s)).length hb
            rwa [List.drop_left' rfl] at this
          obtain ⟨v1, v2, v3⟩ := rVal_back hr h5
          refine ⟨?_, hl 0, k2, v2⟩
          unfold Ac.B
          simp only
          rw [if_neg h1, if_pos h4, List.append_assoc, List.append_assoc, ← v1, ← k1]
          exact cons_of h0
      · rw [if_neg h4] at h
        obtain ⟨e1, e2⟩ := Prod.mk.inj (Option.some.inj h)
        subst e1 e2
        refine ⟨?_, hl 0, k2, fit_zero⟩
        unfold Ac.B
        simp only
        rw [if_neg h1, if_neg h4, List.append_nil, List.append_assoc, ← k1]
        exact cons_of h0
theorem rAct_enc {c : Ac} (fv : c.v.fit) (hA : actB c.k c.key c.v = true) (m : List Int) : rAct (c.B ++ m) = some (c, m) := by
  obtain ⟨k, key, v⟩ := c
  simp only at fv hA
  unfold Ac.B
  simp only
  unfold actB at hA
  unfold rAct
  rw [List.append_assoc, List.append_assoc, List.singleton_append, if_neg (by simp), ith_cons_zero, List.drop_one, List.tail_cons]
  by_cases k1 : k = 1
  · rw [if_pos k1, Bool.and_eq_true, decide_eq_true_eq] at hA
    rw [if_pos k1, if_pos k1, if_neg (by omega), zeroV_eq hA.2, size_nil hA.1]
    rfl
  · rw [if_neg k1] at hA
    rw [if_neg k1, if_neg k1]
    by_cases k2 : k = 2 ∨ k = 3
    · rw [if_pos k2, Bool.and_eq_true] at hA
      have k4 : ¬ k = 4 := by omega
      rw [rKey_enc (keyB_size hA.1)]
      simp only
      rw [if_neg k4, if_neg k4, zeroV_eq hA.2]
      rfl
    · rw [if_neg k2] at hA
      by_cases k4 : k = 4
      · rw [if_pos k4, Bool.and_eq_true] at hA
        rw [rKey_enc (keyB_size hA.1)]
        simp only
        rw [if_pos k4, if_pos k4, rVal_enc fv hA.2]
      · rw [if_neg k4] at hA
        cases hA
theorem bytes_tail {a m : List Int} (h : Bytes (a ++ m)) : Bytes m := by
  have := bytes_drop _ a.length h
  rwa [List.drop_left' rfl] at this
theorem bytes_head {a m : List Int} (h : Bytes (a ++ m)) : Bytes a := by
  have := bytes_take _ a.length h
  rwa [List.take_left' rfl] at this
theorem encO_parts (o : Od) (m : List Int) : encO o ++ m = [111] ++ (numB o.au ++ ((numB o.n ++ o.F) ++ (numB o.st ++ ((Ac.B ⟨o.k, o.key, o.v⟩) ++ (numB o.e ++ (numB o.s ++ m)))))) := by
  unfold encO msgB Ac.B
  simp only [List.append_assoc]
theorem rOp_back {l m : List Int} (hl : Bytes l) {o : Od} (h : rOp l = some (o, m)) : l = encO o ++ m ∧ o.Fit ∧ o.n ≤ 4 ∧ o.F.length = 32 * o.n ∧ riseF o.F o.n = true := by
  unfold rOp at h
  by_cases h0 : l.length = 0
  · rw [if_pos h0] at h; cases h
  rw [if_neg h0] at h
  by_cases h1 : ith l 0 = 111
  · rw [if_pos h1] at h
    have e0 := cons_of h0
    rw [h1] at e0
    have hl1 := bytes_drop l 1 hl
    generalize l.drop 1 = l1 at *
    cases g1 : rSmall l1 with
    | none => rw [g1] at h; cases h
    | some a =>
    obtain ⟨au, l2⟩ := a
    rw [g1] at h
    obtain ⟨e1, b1⟩ := rSmall_back hl1 g1
    rw [e1] at hl1
    have hl2 := bytes_tail hl1
    cases g2 : rIds l2 with
    | none => simp only [g2] at h; cases h
    | some a =>
    obtain ⟨⟨n, F⟩, l3⟩ := a
    simp only [g2] at h
    obtain ⟨e2, b2, b3, b4⟩ := rIds_back hl2 g2
    rw [e2] at hl2
    have hl3 := bytes_tail hl2
    have hF := bytes_tail (bytes_head hl2)
    cases g3 : rNum l3 with
    | none => simp only [g3] at h; cases h
    | some a =>
    obtain ⟨st, l4⟩ := a
    simp only [g3] at h
    obtain ⟨e3, b5⟩ := rNum_back hl3 g3
    rw [e3] at hl3
    have hl4 := bytes_tail hl3
    cases g4 : rAct l4 with
    | none => simp only [g4] at h; cases h
    | some a =>
    obtain ⟨c, l5⟩ := a
    simp only [g4] at h
    obtain ⟨e4, b6, b7, b8⟩ := rAct_back hl4 g4
    rw [e4] at hl4
    have hl5 := bytes_tail hl4
    cases g5 : rSmall l5 with
    | none => simp only [g5] at h; cases h
    | some a =>
    obtain ⟨x, l6⟩ := a
    simp only [g5] at h
    obtain ⟨e5, b9⟩ := rSmall_back hl5 g5
    rw [e5] at hl5
    have hl6 := bytes_tail hl5
    cases g6 : rSmall l6 with
    | none => simp only [g6] at h; cases h
    | some a =>
    obtain ⟨y, l7⟩ := a
    simp only [g6] at h
    obtain ⟨e6, b10⟩ := rSmall_back hl6 g6
    obtain ⟨r1, r2⟩ := Prod.mk.inj (Option.some.inj h)
    subst r1 r2
    refine ⟨?_, ⟨b1, hF, Nat.le_trans b2 (by decide), b5, b6, Nat.le_trans b7 (by decide), b8, b9, b10⟩, b2, b3, b4⟩
    rw [encO_parts]
    simp only
    rw [← e6, ← e5, ← e4, ← e3, ← e2, ← e1]
    exact e0
  · rw [if_neg h1] at h; cases h
theorem rOp_enc {o : Od} (fo : o.Fit) (hn : o.n ≤ 4) (hF : o.F.length = 32 * o.n) (hR : riseF o.F o.n = true) (hA : actB o.k o.key o.v = true) (m : List Int) : rOp (encO o ++ m) = some (o, m) := by
  rw [encO_parts]
  unfold rOp
  rw [if_neg (by simp), List.singleton_append, ith_cons_zero, if_pos rfl, List.drop_one, List.tail_cons, rSmall_enc fo.au]
  simp only
  rw [rIds_enc hn hF hR]
  simp only
  rw [rNum_enc fo.st]
  simp only
  rw [rAct_enc (c := ⟨o.k, o.key, o.v⟩) fo.v hA]
  simp only
  rw [rSmall_enc fo.e]
  simp only
  rw [rSmall_enc fo.s]
theorem decO_back {l : List Int} (hl : Bytes l) {o : Od} (h : decO l = some o) : encO o = l ∧ o.Fit ∧ chkO o = 0 ∧ o.F.length = 32 * o.n := by
  unfold decO at h
  cases h1 : rOp l with
  | none => rw [h1] at h; cases h
  | some p =>
    obtain ⟨p, m⟩ := p
    rw [h1] at h
    simp only at h
    by_cases h2 : m.length = 0 ∧ chkO p = 0
    · rw [if_pos h2] at h
      obtain rfl := Option.some.inj h
      obtain ⟨a1, a2, a3, a4, a5⟩ := rOp_back hl h1
      rw [List.eq_nil_of_length_eq_zero h2.1, List.append_nil] at a1
      exact ⟨a1.symm, a2, h2.2, a4⟩
    · rw [if_neg h2] at h; cases h
theorem decO_enc {o : Od} (fo : o.Fit) (hF : o.F.length = 32 * o.n) (h : chkO o = 0) : decO (encO o) = some o := by
  obtain ⟨h1, h2, h3⟩ := chk_zero h
  have := rOp_enc fo h1 hF h2 h3 []
  rw [List.append_nil] at this
  unfold decO
  rw [this]
  simp only
  rw [if_pos ⟨rfl, h⟩]
end Go.Proofs.YtfaojjleapenaabGreatDoor.wir.val
namespace Go.Proofs.YtfaojjleapenaabGreatDoor.wir.val
open Go.RowKit Go.YtfaojjleapenaabGreatDoor
set_option linter.unusedVariables false
def decPost (w : World) (l : List Int) (e : Ending) (w' : World) : Prop :=
  Below w.heap.size w w' ∧ ((decO l = none ∧ e = .returned (.tuple #[.agg (zO.c (.slice none 0 0)), .int .i64 12])) ∨
    ∃ (o : Od) (a : Option Addr) (c : Nat), decO l = some o ∧ e = .returned (.tuple #[.agg (o.c (.slice a o.n c)), .int .i64 0]) ∧ HeldI w.heap.size w' (.slice a o.n c) o.n o.F)
theorem decPost_eq {w w' : World} {l : List Int} {e e' : Ending} (h : decPost w l e w') (he : e' = e) : decPost w l e' w' := he ▸ h
theorem dec_no {l : List Int} (h : rOp l = none) : decO l = none := by unfold decO; rw [h]
theorem dec_rest {l m : List Int} {o : Od} (h : rOp l = some (o, m)) (hm : ¬ m.length = 0) : decO l = none := by unfold decO; rw [h]; simp only; rw [if_neg (fun x => hm x.1)]
theorem dec_chk {l m : List Int} {o : Od} (h : rOp l = some (o, m)) (hm : ¬ chkO o = 0) : decO l = none := by unfold decO; rw [h]; simp only; rw [if_neg (fun x => hm x.2)]
theorem dec_yes {l m : List Int} {o : Od} (h : rOp l = some (o, m)) (hm : m.length = 0) (hc : chkO o = 0) : decO l = some o := by unfold decO; rw [h]; simp only; rw [if_pos ⟨hm, hc⟩]
set_option maxHeartbeats 4000000 in
set_option maxRecDepth 100000 in
theorem opDecode_any (l : List Int) (bv : Value) (w : World) (hr : RdB w bv l) (hl : Bytes l) (hlm : l.length ≤ 1000000) :
    Calls Tryz.prog 16 #[bv] w (decPost w l) := by
  obtain ⟨ba, bc, rfl⟩ := hr.slice
  obtain ⟨W, hW⟩ : ∃ W, W = w.alloc (.cells (zO.c (.slice none 0 0)) 41) := ⟨_, rfl⟩
  have hB0 : Below w.heap.size w W := by rw [hW]; exact below_a w _
  have hrz : W.heap[w.heap.size]? = some (.cells (zO.c (.slice none 0 0)) 41 (0, 0)) := by rw [hW]; exact heap_alloc_new w _
  have hWs : W.heap.size = w.heap.size + 1 := by rw [hW]; simp
  have hb1 := below_a W (.cells #[.slice ba l.length bc, .bool false] 73)
  have hS : St w W.heap.size (W.alloc (.cells #[.slice ba l.length bc, .bool false] 73)) l false :=
    ⟨hB0.trans (hb1.mono hB0.size), hB0.size, ba, bc, hr, heap_alloc_new W _⟩
  have hO := Lib.hid (operation_rd hS hl hlm)
  have hrow1 := Lib.hid (rowB hrz hb1 (by omega))
  have hB1 := Lib.hid (hB0.trans (hb1.mono hB0.size))
  have hgs := Lib.hid (show w.heap.size < (W.alloc (.cells #[.slice ba l.length bc, .bool false] 73)).heap.size by simp; omega)
  have hgr := Lib.hid (show w.heap.size < W.heap.size by omega)
  clear hS hr hrz hB0 hb1 hl hlm
  go_enter Tryz.func16, Tryz.ntmps16
  go_upto_region 1 with fail
  change Code.wp _ _ _ _ (w.alloc (.cells (zO.c (.slice none 0 0)) 41))
  rw [← hW]
  clear hW hWs
  go_upto_region 2 with fail
  generalize W.alloc (.cells #[.slice ba l.length bc, .bool false] 73) = W1 at *
  generalize W.heap.size = g2 at *
  go_upto_region 3 with (go_at_call 36; (with_reducible refine (hO.out).mono ?_); rintro e w1 ⟨o, pa, pc, rfl, fo, hn4, hI, l', f', q1, q2, q3, q4, q5⟩; have fo := Lib.hid fo; have hn4 := Lib.hid hn4; have hI := Lib.hid hI; have q1 := Lib.hid q1; have q2 := Lib.hid q2; have q5 := Lib.hid q5)
  have hbz := below_a w1 (.cells (o.c (.slice pa o.n pc)) 41)
  have hl2 := Lib.hid (heap_alloc_new w1 (.cells (o.c (.slice pa o.n pc)) 41))
  have hI2 := Lib.hid (heldI_mono hI.out hbz)
  have hp2 := Lib.hid (hI2.out _ (fun _ _ _ => rfl) (Nat.le_refl _))
  obtain ⟨_, _, a', c', hrr, hrw⟩ := q1.out.kept hbz
  have hrw2 := Lib.hid hrw
  have hrow2 := Lib.hid (rowB (butRow q2.out hrow1.out (by have := hgr.out; omega)) hbz (Nat.lt_of_lt_of_le hgs.out q2.out.size))
  have hB2 := Lib.hid (show Below w.heap.size w (w1.alloc (.cells (o.c (.slice pa o.n pc)) 41)) from (hB1.out.grown q2.out (Nat.le_of_lt hgs.out) (fun k e => by have := Option.some.inj e; have := hgr.out; omega)).trans (hbz.mono (Nat.le_of_lt (Nat.lt_of_lt_of_le hgs.out q2.out.size))))
  clear hbz hrow1 hB1 q1 q2 hI hO hrr hrw
  change Code.wp _ _ _ _ (w1.alloc (.cells (o.c (.slice pa o.n pc)) 41))
  generalize w1.heap.size = g3 at *
  generalize w1.alloc (.cells (o.c (.slice pa o.n pc)) 41) = w2 at *
  have u0 : w2.cell? ⟨g2, 0, none⟩ = some (.slice a' l'.length c') := cell_of_row _ _ _ _ _ _ hrw2.out
  have u1 : w2.cell? ⟨g2, 1, none⟩ = some (.bool f') := cell_of_row _ _ _ _ _ _ hrw2.out
  have hC := Lib.hid (opCheck_any o fo.out (.slice pa o.n pc) w2 hp2.out)
  have hno : decO l = none → ∀ w9, Below w.heap.size w2 w9 → decPost w l (.returned (.tuple #[.agg (zO.c (.slice none 0 0)), .int .i64 12])) w9 := fun hd w9 hb9 => ⟨hB2.out.trans hb9, .inl ⟨hd, rfl⟩⟩
  have hno := Lib.hid hno
  cases f' with
  | true =>
    have hd : decO l = none := by
      rcases q5.out with ⟨_, h⟩ | ⟨h, _⟩
      · exact dec_no h
      · cases h
    have hno := Lib.hid (hno.out hd)
    clear hd q5 hC hp2 hI2 hl2
    go_wp2_with (refine storeOver _ w.heap.size _ rfl 41 _ _ rfl (zO.c (.slice none 0 0)) 41 hrow2.out rfl rfl info_op rfl (op_one zO _ _ _) ?_; intro w9 hr9 hb9; have hr9' := Lib.hid hr9; have hb9' := Lib.hid hb9; clear hr9 hb9)
    exact bodyPost_ret (results_row_tmp rfl _ _ w.heap.size 41 _ _ _ rfl hr9'.out Tryz.underlying41 rfl info_op) rfl (decPost_eq (hno.out _ hb9'.out) rfl)
  | false =>
    have hr : rOp l = some (o, l') := by
      rcases q5.out with ⟨h, _⟩ | ⟨_, h⟩
      · cases h
      · exact h
    by_cases hN : l'.length = 0
    · have i1 : decide ((0 : Int) < (l'.length : Int)) = false := decide_eq_false (by omega)
      have i2 : ¬ (0 : Int) < (l'.length : Int) := by omega
      have hd1 := Lib.hid (fun h => dec_chk hr h)
      have hd2 := Lib.hid (fun h => dec_yes hr hN h)
      have hNh := Lib.hid hN
      clear hr q5
      generalize l'.length = N at *
      by_cases h0 : chkO o = 0
      · have hyes := Lib.hid (fun (w9 : World) (hb9 : Below w.heap.size w2 w9) (h9 : HeldI w.heap.size w9 (.slice pa o.n pc) o.n o.F) => (show decPost w l (.returned (.tuple #[.agg (o.c (.slice pa o.n pc)), .int .i64 0])) w9 from ⟨hB2.out.trans hb9, .inr ⟨o, pa, pc, hd2.out h0, rfl, h9⟩⟩))
        rw [h0] at hC
        clear hd1 hd2 h0 hno
        have hN0 : N = 0 := hNh.out
        subst hN0
        go_wp2_with (first
          | (refine wpList_load_row_g rfl 41 _ rfl g3 rfl 41 (o.c (.slice pa o.n pc)) (0, 0) _ hl2.out Tryz.underlying41 rfl info_op ?_)
          | (go_at_call 21; (with_reducible refine (hC.out).mono ?_); rintro e w3 ⟨rfl, h3⟩; have hb3 := Lib.hid h3; have hl3 := Lib.hid (rowB hl2.out h3 (Array.getElem?_eq_some_iff.1 hl2.out).1); have hrow3 := Lib.hid (rowB hrow2.out h3 (Array.getElem?_eq_some_iff.1 hrow2.out).1); clear h3)
          | (refine wpList_load_row_g rfl 41 _ rfl g3 rfl 41 (o.c (.slice pa o.n pc)) (0, 0) _ hl3.out Tryz.underlying41 rfl info_op ?_)
          | (refine wpList_store_row rfl 41 _ _ rfl w.heap.size (o.c (.slice pa o.n pc)) rfl rfl 41 _ hrow3.out info_op rfl (op_one o pa o.n pc) ?_; have hr9 := Lib.hid (setRow_heap _ _ _ (o.c (.slice pa o.n pc)) _ _ hrow3.out); have hb9 := Lib.hid (below_setRow' (B := w.heap.size) (g := w.heap.size) (Below.refl _ w3) (Nat.le_refl _) (o.c (.slice pa o.n pc)))))
        exact bodyPost_ret (results_row_tmp rfl _ _ w.heap.size 41 _ _ _ rfl hr9.out Tryz.underlying41 rfl info_op) rfl (decPost_eq (hyes.out _ ((hb3.out.mono hB2.out.size).trans hb9.out) (heldI_lower (heldI_setRow (heldI_mono hI2.out hb3.out) hgs.out _) (Nat.le_of_lt hgs.out))) rfl)
      · have hx : (chkO o != 0) = true := by simpa using h0
        have hno := Lib.hid (hno.out (hd1.out h0))
        generalize chkO o = E at *
        clear hd1 hd2 h0
        have hN0 : N = 0 := hNh.out
        subst hN0
        go_wp2_with (first
          | (refine wpList_load_row_g rfl 41 _ rfl g3 rfl 41 (o.c (.slice pa o.n pc)) (0, 0) _ hl2.out Tryz.underlying41 rfl info_op ?_)
          | (go_at_call 21; (with_reducible refine (hC.out).mono ?_); rintro e w3 ⟨rfl, h3⟩; have hb3 := Lib.hid h3; have hrow3 := Lib.hid (rowB hrow2.out h3 (Array.getElem?_eq_some_iff.1 hrow2.out).1); clear h3)
          | (refine storeOver _ w.heap.size _ rfl 41 _ _ rfl (zO.c (.slice none 0 0)) 41 hrow3.out rfl rfl info_op rfl (op_one zO _ _ _) ?_; intro w9 hr9 hb9; have hr9' := Lib.hid hr9; have hb9' := Lib.hid hb9; clear hr9 hb9))
        exact bodyPost_ret (results_row_tmp rfl _ _ w.heap.size 41 _ _ _ rfl hr9'.out Tryz.underlying41 rfl info_op) rfl (decPost_eq (hno.out _ ((hb3.out.mono hB2.out.size).trans hb9'.out)) rfl)
    · have hno := Lib.hid (hno.out (dec_rest hr hN))
      clear hr q5 hC hp2 hI2 hl2
      generalize l'.length = N at *
      have i1 : decide ((0 : Int) < (N : Int)) = true := decide_eq_true (by omega)
      have i2 : (0 : Int) < (N : Int) := by omega
      go_wp2_with (refine storeOver _ w.heap.size _ rfl 41 _ _ rfl (zO.c (.slice none 0 0)) 41 hrow2.out rfl rfl info_op rfl (op_one zO _ _ _) ?_; intro w9 hr9 hb9; have hr9' := Lib.hid hr9; have hb9' := Lib.hid hb9; clear hr9 hb9)
      exact bodyPost_ret (results_row_tmp rfl _ _ w.heap.size 41 _ _ _ rfl hr9'.out Tryz.underlying41 rfl info_op) rfl (decPost_eq (hno.out _ hb9'.out) rfl)
end Go.Proofs.YtfaojjleapenaabGreatDoor.wir.val
namespace Go.Proofs.YtfaojjleapenaabGreatDoor.wir.val
open Go.RowKit Go.YtfaojjleapenaabGreatDoor
set_option linter.unusedVariables false
theorem setRow_same {w : World} {g : Nat} {cs : Array Value} {t : TypeId} {fr : Nat × Nat} (h : w.heap[g]? = some (.cells cs t fr)) : w.setRow g cs = w := by
  have e : (w.setRow g cs).heap = w.heap := by
    apply Array.ext_getElem?
    intro i
    by_cases hi : i = g
    · subst hi; rw [setRow_heap _ _ _ cs _ _ h, h]
    · exact setRow_other w g i cs hi
  unfold World.setRow at e ⊢
  simp only at e
  rw [e]
/-- A store of what lies there already. -/
theorem qa_store_same {P : Program} {C : World → Prop} {o : Oper} {a : Act} (ty : TypeId) (x y : Operand) (ho : o.op = .store ty x y) (g : Nat) (cs : Array Value) (hx : a.eval x = .pointer (some ⟨g, 0, none⟩)) (hy : a.eval y = .agg cs) (t : TypeId)
    (hC : ∀ w, C w → w.heap[g]? = some (.cells cs t (0, 0))) (hi : (P.info? ty).map (·.size) = some cs.size) (h1 : cs.all (·.oneCell') = true) : ∀ w, C w → o.quietAt P a C w undef := by
  intro w hw
  unfold Oper.quietAt execOp
  simp only [ho, hx, hy, Instr.storeAt, Instr.sureAddr, Sem.run_bind, Sem.run_pure, Result.andThen_ok, run_storeVar_row w g t ty cs cs (hC w hw) hi rfl h1, setRow_same (hC w hw)]
  exact ⟨rfl, rfl⟩
theorem results_row_row_tmp {P : Program} {fn : Func} {p q u : Tmp} {ty ty2 : TypeId} (h : fn.results = #[.cell p ty, .cell q ty2, .tmp u]) (tmps : Array Value) (w : World) (g : Nat) (t : TypeId) (cs : Array Value) (fr : Nat × Nat) (d : TypeDesc)
    (g2 : Nat) (t2 : TypeId) (cs2 : Array Value) (fr2 : Nat × Nat) (d2 : TypeDesc)
    (hp : tmps.getD p undef = .pointer (some ⟨g, 0, none⟩)) (hg : w.heap[g]? = some (.cells cs t fr))
    (hu : P.underlying ty = some d) (hd : (match d with | .struct _ | .array _ _ => true | _ => false) = true) (hi : (P.info? ty).map (·.size) = some cs.size)
    (hp2 : tmps.getD q undef = .pointer (some ⟨g2, 0, none⟩)) (hg2 : w.heap[g2]? = some (.cells cs2 t2 fr2))
    (hu2 : P.underlying ty2 = some d2) (hd2 : (match d2 with | .struct _ | .array _ _ => true | _ => false) = true) (hi2 : (P.info? ty2).map (·.size) = some cs2.size) :
    (results fn tmps).run P w = .ok (.tuple #[.agg cs, .agg cs2, tmps.getD u undef]) w := by
  have hc : (results fn tmps).run P w =
      ((asAddr (tmps.getD p undef)).run P w).andThen fun a w₁ => ((loadVar ty a).run P w₁).andThen fun x w₂ => ((asAddr (tmps.getD q undef)).run P w₂).andThen fun b w₃ => ((loadVar ty2 b).run P w₃).andThen fun y w₄ => .ok (.tuple #[x, y, tmps.getD u undef]) w₄ := by
    simp only [results, h]
    simp [Sem.run_bind, Result.andThen]
  rw [hc, hp, hp2]
  have hl := run_loadVar_row (P := P) w g t ty cs fr d hg hu hd hi
  have hl2 := run_loadVar_row (P := P) w g2 t2 ty2 cs2 fr2 d2 hg2 hu2 hd2 hi2
  simp [asAddr, hl, hl2]
/-- The verdict on bytes. -/
def vd (l : List Int) : Int := if 400 < l.length then 3 else match decO l with
  | none => 2
  | some o => if verO o = 0 then 0 else 4
def ofPost (w : World) (l : List Int) (e : Ending) (w' : World) : Prop :=
  Below w.heap.size w w' ∧ ((vd l ≠ 0 ∧ e = .returned (.tuple #[.agg (zO.c (.slice none 0 0)), .agg (u8s (zerosB 32)), .int .u8 (vd l)])) ∨
    ∃ (o : Od) (a : Option Addr) (c : Nat), vd l = 0 ∧ l.length ≤ 400 ∧ decO l = some o ∧ verO o = 0 ∧ e = .returned (.tuple #[.agg (o.c (.slice a o.n c)), .agg (u8s (shaF l)), .int .u8 0]) ∧ HeldI w.heap.size w' (.slice a o.n c) o.n o.F)
theorem ofPost_eq {w w' : World} {l : List Int} {e e' : Ending} (h : ofPost w l e w') (he : e' = e) : ofPost w l e' w' := he ▸ h
theorem zid_info : (Tryz.prog.info? 43).map (·.size) = some (u8s (zerosB 32)).size := by rw [u8s_size, zerosB_length]; kernel_rfl
set_option maxHeartbeats 4000000 in
set_option maxRecDepth 100000 in
theorem judgeOf_any (l : List Int) (bv : Value) (w : World) (hr : RdB w bv l) (hl : Bytes l) (hG0 : GlobW w) :
    Calls Tryz.prog 9 #[bv] w (ofPost w l) := by
  obtain ⟨ba, bc, rfl⟩ := hr.slice
  obtain ⟨N, hN⟩ : ∃ N, l.length = N := ⟨_, rfl⟩
  rw [hN] at hr ⊢
  obtain ⟨W, hW⟩ : ∃ W, W = (w.alloc (.cells (zO.c (.slice none 0 0)) 41)).alloc (.cells (u8s (zerosB 32)) 43) := ⟨_, rfl⟩
  have hr0 : W.heap[w.heap.size]? = some (.cells (zO.c (.slice none 0 0)) 41 (0, 0)) := by rw [hW]; exact rowB (heap_alloc_new w _) (below_a _ _) (by simp)
  have hr1 : W.heap[w.heap.size + 1]? = some (.cells (u8s (zerosB 32)) 43 (0, 0)) := by rw [hW]; exact hn2 w _ _
  have hb0 : Below w.heap.size w W := by rw [hW]; exact ((Below.refl w.heap.size w).alloc (Nat.le_refl _) _).alloc (by simp) _
  have hsz : W.heap.size = w.heap.size + 2 := by rw [hW]; simp
  have hS := Lib.hid hb0
  have r0 := Lib.hid hr0
  have r1 := Lib.hid hr1
  have bw := Lib.hid hr
  have hG := Lib.hid hG0
  have zi := Lib.hid zid_info
  have hlt := Lib.hid (show w.heap.size + 2 ≤ W.heap.size by omega)
  clear hr0 hr1 hb0 hr hG0 hsz
  have hno : ∀ (v : Int), vd l = v → v ≠ 0 → ∀ w9, Below w.heap.size w w9 → ofPost w l (.returned (.tuple #[.agg (zO.c (.slice none 0 0)), .agg (u8s (zerosB 32)), .int .u8 v])) w9 := fun v hv h0 w9 h9 => ⟨h9, .inl ⟨by rw [hv]; exact h0, by rw [hv]⟩⟩
  by_cases hbig : 400 < N
  · have i1 : (400 : Int) < (N : Int) := by omega
    have hno := Lib.hid (hno 3 (by unfold vd; rw [if_pos (by rw [hN]; exact hbig)]) (by decide))
    clear hl hN
    go_enter Tryz.func9, Tryz.ntmps9
    go_upto_region 1 with fail
    change Code.wp _ _ _ _ ((w.alloc (.cells (zO.c (.slice none 0 0)) 41)).alloc (.cells (u8s (zerosB 32)) 43))
    rw [← hW]
    clear hW
    go_wp2_with (first
      | (refine wpList_store_row rfl 41 _ _ rfl w.heap.size (zO.c (.slice none 0 0)) rfl rfl 41 _ r0.out info_op rfl (op_one zO _ _ _) ?_; rw [setRow_same r0.out])
      | (refine wpList_store_row rfl 43 _ _ rfl (w.heap.size + 1) (u8s (zerosB 32)) rfl (by kernel_rfl) 43 _ r1.out zi.out rfl (u8s_one _) ?_; rw [setRow_same r1.out]))
    exact bodyPost_ret (results_row_row_tmp rfl _ _ w.heap.size 41 _ _ _ (w.heap.size + 1) 43 _ _ _ rfl r0.out Tryz.underlying41 rfl info_op rfl r1.out Tryz.underlying43 rfl zi.out) rfl (ofPost_eq (hno.out _ hS.out) rfl)
  have i1 : ¬ (400 : Int) < (N : Int) := by omega
  have hN4 : ¬ 400 < l.length := by rw [hN]; exact hbig
  cases hd : decO l with
  | none =>
    have hno := Lib.hid (hno 2 (by unfold vd; rw [if_neg hN4, hd]) (by decide))
    have hD := Lib.hid (fun (wz : World) (h : RdB wz (.slice ba N bc) l) => (opDecode_any l _ wz h hl (by omega)).mono (R' := fun e w' => e = .returned (.tuple #[.agg (zO.c (.slice none 0 0)), .int .i64 12]) ∧ Below wz.heap.size wz w') (by
      rintro e w' ⟨hb, hq⟩
      rw [hd] at hq
      rcases hq with ⟨_, he⟩ | ⟨p, a, c, hq, _⟩
      · exact ⟨he, hb⟩
      · cases hq))
    clear hl hN hN4 hd
    go_enter Tryz.func9, Tryz.ntmps9
    go_upto_region 1 with fail
    change Code.wp _ _ _ _ ((w.alloc (.cells (zO.c (.slice none 0 0)) 41)).alloc (.cells (u8s (zerosB 32)) 43))
    rw [← hW]
    clear hW
    go_wp2_with (first
      | (go_at_call 16; (with_reducible refine (hD.out _ (bw.out.mono hS.out)).mono ?_); rintro e w4 ⟨rfl, q2⟩; replace r0 := Lib.hid (rowB r0.out q2 (Array.getElem?_eq_some_iff.1 r0.out).1); replace r1 := Lib.hid (rowB r1.out q2 (Array.getElem?_eq_some_iff.1 r1.out).1); replace hS := Lib.hid (hS.out.trans (Below.mono q2 hS.out.size)); clear q2)
      | (refine wpList_store_row rfl 41 _ _ rfl w.heap.size (zO.c (.slice none 0 0)) rfl rfl 41 _ r0.out info_op rfl (op_one zO _ _ _) ?_; rw [setRow_same r0.out])
      | (refine wpList_store_row rfl 43 _ _ rfl (w.heap.size + 1) (u8s (zerosB 32)) rfl (by kernel_rfl) 43 _ r1.out zi.out rfl (u8s_one _) ?_; rw [setRow_same r1.out]))
    exact bodyPost_ret (results_row_row_tmp rfl _ _ w.heap.size 41 _ _ _ (w.heap.size + 1) 43 _ _ _ rfl r0.out Tryz.underlying41 rfl info_op rfl r1.out Tryz.underlying43 rfl zi.out) rfl (ofPost_eq (hno.out _ hS.out) rfl)
  | some o =>
    obtain ⟨e1, fo, c0, hF⟩ := decO_back hl hd
    have hD := Lib.hid (fun (wz : World) (h : RdB wz (.slice ba N bc) l) => (opDecode_any l _ wz h hl (by omega)).mono (R' := fun e w' => ∃ (a : Option Addr) (c : Nat), e = .returned (.tuple #[.agg (o.c (.slice a o.n c)), .int .i64 0]) ∧ HeldI wz.heap.size w' (.slice a o.n c) o.n o.F ∧ Below wz.heap.size wz w') (by
      rintro e w' ⟨hb, hq⟩
      rw [hd] at hq
      rcases hq with ⟨hq, _⟩ | ⟨p, a, c, hq, he, hi⟩
      · cases hq
      · obtain rfl := Option.some.inj hq
        exact ⟨a, c, he, hi, hb⟩))
    have hV := Lib.hid (fun (wz : World) (v : Value) (h : RdI wz v o.n o.F) (hg : GlobW wz) => opVerify_any o fo v wz h hg)
    have hI := Lib.hid (fun (wz : World) (v : Value) (h : RdI wz v o.n o.F) (hg : GlobW wz) => (show Calls Tryz.prog 19 #[.agg (o.c v)] wz fun e w' => e = .returned (.tuple #[.agg (u8s (shaF l)), .int .i64 0]) ∧ Below wz.heap.size wz w' from by
      obtain ⟨Tg, Tf, g1, g2⟩ := hg
      rw [← e1]
      exact opID_ok o fo v wz h c0 g1 g2))
    have hyes := fun (h0 : verO o = 0) (a : Option Addr) (c : Nat) (w9 : World) (h9 : Below w.heap.size w w9) (hh : HeldI w.heap.size w9 (.slice a o.n c) o.n o.F) => (show ofPost w l (.returned (.tuple #[.agg (o.c (.slice a o.n c)), .agg (u8s (shaF l)), .int .u8 0])) w9 from
      ⟨h9, .inr ⟨o, a, c, by unfold vd; rw [if_neg hN4, hd]; simp only; rw [if_pos h0], by omega, hd, h0, rfl, hh⟩⟩)
    have hno4 := fun (h0 : ¬ verO o = 0) => hno 4 (by unfold vd; rw [if_neg hN4, hd]; simp only; rw [if_neg h0]) (by decide)
    have hDl : (shaF l).length = 32 := shaF_length _
    have di := Lib.hid (show (Tryz.prog.info? 43).map (·.size) = some (u8s (shaF l)).size by rw [u8s_size, hDl]; kernel_rfl)
    have ds := Lib.hid (show (u8s (zerosB 32)).size = (u8s (shaF l)).size by rw [u8s_size, u8s_size, hDl, zerosB_length])
    clear hno hl hN hN4 hd e1 fo c0 hF hDl
    generalize shaF l = D at *
    generalize verO o = VE at *
    by_cases h0 : VE = 0
    · have hY := Lib.hid (hyes h0)
      clear hno4 hyes
      subst h0
      go_enter Tryz.func9, Tryz.ntmps9
      go_upto_region 1 with fail
      change Code.wp _ _ _ _ ((w.alloc (.cells (zO.c (.slice none 0 0)) 41)).alloc (.cells (u8s (zerosB 32)) 43))
      rw [← hW]
      clear hW
      go_upto_region 4 with (first
        | (go_at_call 16; (with_reducible refine (hD.out _ (bw.out.mono hS.out)).mono ?_); rintro e w4 ⟨pa, pc, rfl, q1, q2⟩; have hH := Lib.hid (heldI_lower q1 (Nat.le_of_lt (by have := hlt.out; omega : w.heap.size < W.heap.size))); have hH2 := Lib.hid q1; replace r0 := Lib.hid (rowB r0.out q2 (Array.getElem?_eq_some_iff.1 r0.out).1); replace r1 := Lib.hid (rowB r1.out q2 (Array.getElem?_eq_some_iff.1 r1.out).1); replace hS := Lib.hid (hS.out.trans (Below.mono q2 hS.out.size)); clear q1 q2)
        | (refine wpList_store_row rfl 41 _ _ rfl w.heap.size (o.c (.slice pa o.n pc)) rfl rfl 41 _ r0.out info_op rfl (op_one o pa o.n pc) ?_))
      have k0 := Lib.hid (setRow_heap _ _ _ (o.c (.slice pa o.n pc)) _ _ r0.out)
      have k1 := Lib.hid ((setRow_other w4 w.heap.size (w.heap.size + 1) (o.c (.slice pa o.n pc)) (by omega)).trans r1.out)
      have kS := Lib.hid (below_setRow' (g := w.heap.size) hS.out (Nat.le_refl _) (o.c (.slice pa o.n pc)))
      have kH := Lib.hid (heldI_setRow (k := w.heap.size) hH2.out (by have := hlt.out; omega) (o.c (.slice pa o.n pc)))
      clear r0 r1 hS hH hH2
      generalize w4.setRow w.heap.size (o.c (.slice pa o.n pc)) = w5 at *
      have xP := Lib.hid (show RdI w5 (.slice pa o.n pc) o.n o.F from kH.out w5 (fun _ _ _ => rfl) (Nat.le_refl _))
      go_upto_region 9 with (first
        | (refine wpList_load_row_g rfl 41 _ rfl w.heap.size rfl 41 (o.c (.slice pa o.n pc)) (0, 0) _ k0.out Tryz.underlying41 rfl info_op ?_)
        | (go_at_call 22; (with_reducible refine (hV.out _ _ xP.out (hG.out.mono kS.out)).mono ?_); rintro e w6 ⟨rfl, q2⟩; replace k0 := Lib.hid (rowB k0.out q2 (Array.getElem?_eq_some_iff.1 k0.out).1); replace k1 := Lib.hid (rowB k1.out q2 (Array.getElem?_eq_some_iff.1 k1.out).1); replace kS := Lib.hid (kS.out.trans (Below.mono q2 kS.out.size)); replace kH := Lib.hid (heldI_mono kH.out q2); replace xP := Lib.hid (xP.out.mono q2); clear q2)
        | (go_at_call 19; (with_reducible refine (hI.out _ _ xP.out (hG.out.mono kS.out)).mono ?_); rintro e w7 ⟨rfl, q2⟩; replace k0 := Lib.hid (rowB k0.out q2 (Array.getElem?_eq_some_iff.1 k0.out).1); replace k1 := Lib.hid (rowB k1.out q2 (Array.getElem?_eq_some_iff.1 k1.out).1); replace kS := Lib.hid (kS.out.trans (Below.mono q2 kS.out.size)); replace kH := Lib.hid (heldI_mono kH.out q2); replace xP := Lib.hid (xP.out.mono q2); clear q2)
        | (refine wpList_store_row rfl 43 _ _ rfl (w.heap.size + 1) (u8s D) rfl rfl 43 _ k1.out di.out ds.out (u8s_one _) ?_))
      have z1 := Lib.hid (setRow_heap _ _ _ (u8s D) _ _ k1.out)
      have z0 := Lib.hid ((setRow_other w7 (w.heap.size + 1) w.heap.size (u8s D) (by omega)).trans k0.out)
      have zS := Lib.hid (below_setRow' (g := w.heap.size + 1) kS.out (Nat.le_succ _) (u8s D))
      have zH := Lib.hid (heldI_setRow (k := w.heap.size + 1) kH.out (by have := hlt.out; omega) (u8s D))
      clear k0 k1 kS kH xP
      generalize w7.setRow (w.heap.size + 1) (u8s D) = w8 at *
      have lt0 := Lib.hid (Array.getElem?_eq_some_iff.1 z0.out).1
      have lt1 := Lib.hid (Array.getElem?_eq_some_iff.1 z1.out).1
      have y0 := Lib.hid (fun (w' : World) (h : Below w8.heap.size w8 w') => rowB z0.out h lt0.out)
      have y1 := Lib.hid (fun (w' : World) (h : Below w8.heap.size w8 w') => rowB z1.out h lt1.out)
      refine wp_region_quiet (C := fun w' => Below w8.heap.size w8 w') (by kernel_rfl) (by kernel_rfl) ((Below.refl _ _).drew) ?_
      simp only []
      refine wpq (.agg (o.c (.slice pa o.n pc))) rfl (quiet_row 41 _ rfl w.heap.size rfl 41 (o.c (.slice pa o.n pc)) (0, 0) _ y0.out Tryz.underlying41 rfl info_op) rfl (fun K hK => ?_); go_simp; refine hK _ ?_; clear hK K
      refine wpq (.agg (u8s D)) rfl (quiet_row 43 _ rfl (w.heap.size + 1) rfl 43 (u8s D) (0, 0) _ y1.out Tryz.underlying43 rfl di.out) rfl (fun K hK => ?_); go_simp; refine hK _ ?_; clear hK K
      refine wpq undef rfl (qa_store_same 41 _ _ rfl w.heap.size (o.c (.slice pa o.n pc)) rfl rfl 41 y0.out info_op (op_one o pa o.n pc)) rfl (fun K hK => ?_); go_simp; refine hK _ ?_; clear hK K
      refine wpq undef rfl (qa_store_same 43 _ _ rfl (w.heap.size + 1) (u8s D) rfl rfl 43 y1.out di.out (u8s_one _)) rfl (fun K hK => ?_); go_simp; refine hK _ ?_; clear hK K
      (go_big_quiet_want; go_big_quiet_op; first | go_big_quiet_on | (refine ⟨_, fun _ _ => rfl, ?_⟩; go_big_quiet_on))
      refine wpQuiet_nil ?_
      intro w9 h9
      have x0 := Lib.hid (y0.out w9 h9)
      have x1 := Lib.hid (y1.out w9 h9)
      have hfin := Lib.hid (hY.out pa pc w9 (zS.out.trans (h9.mono zS.out.size)) (heldI_lower (heldI_mono zH.out h9) (by have := hlt.out; omega)))
      clear h9
      go_wp2
      exact bodyPost_ret (results_row_row_tmp rfl _ _ w.heap.size 41 _ _ _ (w.heap.size + 1) 43 _ _ _ rfl x0.out Tryz.underlying41 rfl info_op rfl x1.out Tryz.underlying43 rfl di.out) rfl (ofPost_eq hfin.out rfl)
    · have hno := Lib.hid (hno4 h0)
      have hVb : (VE != 0) = true := by simpa using h0
      clear hno4 hyes h0
      go_enter Tryz.func9, Tryz.ntmps9
      go_upto_region 1 with fail
      change Code.wp _ _ _ _ ((w.alloc (.cells (zO.c (.slice none 0 0)) 41)).alloc (.cells (u8s (zerosB 32)) 43))
      rw [← hW]
      clear hW
      go_upto_region 4 with (first
        | (go_at_call 16; (with_reducible refine (hD.out _ (bw.out.mono hS.out)).mono ?_); rintro e w4 ⟨pa, pc, rfl, q1, q2⟩; have hH2 := Lib.hid q1; replace r0 := Lib.hid (rowB r0.out q2 (Array.getElem?_eq_some_iff.1 r0.out).1); replace r1 := Lib.hid (rowB r1.out q2 (Array.getElem?_eq_some_iff.1 r1.out).1); replace hS := Lib.hid (hS.out.trans (Below.mono q2 hS.out.size)); clear q1 q2)
        | (refine wpList_store_row rfl 41 _ _ rfl w.heap.size (o.c (.slice pa o.n pc)) rfl rfl 41 _ r0.out info_op rfl (op_one o pa o.n pc) ?_))
      have k0 := Lib.hid (setRow_heap _ _ _ (o.c (.slice pa o.n pc)) _ _ r0.out)
      have k1 := Lib.hid ((setRow_other w4 w.heap.size (w.heap.size + 1) (o.c (.slice pa o.n pc)) (by omega)).trans r1.out)
      have kS := Lib.hid (below_setRow' (g := w.heap.size) hS.out (Nat.le_refl _) (o.c (.slice pa o.n pc)))
      have kH := Lib.hid (heldI_setRow (k := w.heap.size) hH2.out (by have := hlt.out; omega) (o.c (.slice pa o.n pc)))
      clear r0 r1 hS hH2
      generalize w4.setRow w.heap.size (o.c (.slice pa o.n pc)) = w5 at *
      have xP := Lib.hid (show RdI w5 (.slice pa o.n pc) o.n o.F from kH.out w5 (fun _ _ _ => rfl) (Nat.le_refl _))
      clear kH
      go_upto_region 7 with (first
        | (refine wpList_load_row_g rfl 41 _ rfl w.heap.size rfl 41 (o.c (.slice pa o.n pc)) (0, 0) _ k0.out Tryz.underlying41 rfl info_op ?_)
        | (go_at_call 22; (with_reducible refine (hV.out _ _ xP.out (hG.out.mono kS.out)).mono ?_); rintro e w6 ⟨rfl, q2⟩; replace k0 := Lib.hid (rowB k0.out q2 (Array.getElem?_eq_some_iff.1 k0.out).1); replace k1 := Lib.hid (rowB k1.out q2 (Array.getElem?_eq_some_iff.1 k1.out).1); replace kS := Lib.hid (kS.out.trans (Below.mono q2 kS.out.size)); clear q2))
      have z0 := Lib.hid (setRow_heap _ _ _ (zO.c (.slice none 0 0)) _ _ k0.out)
      have z1 := Lib.hid ((setRow_other w6 w.heap.size (w.heap.size + 1) (zO.c (.slice none 0 0)) (by omega)).trans k1.out)
      have zS := Lib.hid (below_setRow' (g := w.heap.size) kS.out (Nat.le_refl _) (zO.c (.slice none 0 0)))
      go_wp2_with (first
        | (refine wpList_store_row rfl 41 _ _ rfl w.heap.size (zO.c (.slice none 0 0)) rfl rfl 41 _ k0.out info_op rfl (op_one zO _ _ _) ?_)
        | (refine wpList_store_row rfl 43 _ _ rfl (w.heap.size + 1) (u8s (zerosB 32)) rfl (by kernel_rfl) 43 _ z1.out zi.out rfl (u8s_one _) ?_; rw [setRow_same z1.out]))
      exact bodyPost_ret (results_row_row_tmp rfl _ _ w.heap.size 41 _ _ _ (w.heap.size + 1) 43 _ _ _ rfl z0.out Tryz.underlying41 rfl info_op rfl z1.out Tryz.underlying43 rfl zi.out) rfl (ofPost_eq (hno.out _ zS.out) rfl)
end Go.Proofs.YtfaojjleapenaabGreatDoor.wir.val
namespace Go.Proofs.YtfaojjleapenaabGreatDoor.wir.val
open Go.RowKit Go.YtfaojjleapenaabGreatDoor
set_option linter.unusedVariables false
theorem rowA (w : World) (A B : Obj) : ((w.alloc A).alloc B).heap[w.heap.size]? = some A := rowB (heap_alloc_new w A) (below_a _ _) (by simp)
/-- What the judge says, whatever it is. -/
theorem judgeOf_w (l : List Int) (bv : Value) (w : World) (hr : RdB w bv l) (hl : Bytes l) (hG0 : GlobW w) :
    Calls Tryz.prog 9 #[bv] w fun e w' => ∃ (o : Od) (a : Option Addr) (n c : Nat) (D : List Int), D.length = 32 ∧ e = .returned (.tuple #[.agg (o.c (.slice a n c)), .agg (u8s D), .int .u8 (vd l)]) ∧ Below w.heap.size w w' := by
  refine (judgeOf_any l bv w hr hl hG0).mono ?_
  rintro e w' ⟨hb, ⟨_, he⟩ | ⟨o, a, c, hv, _, _, _, he, _⟩⟩
  · exact ⟨zO, none, 0, 0, zerosB 32, zerosB_length _, he, hb⟩
  · exact ⟨o, a, o.n, c, shaF l, shaF_length _, by rw [hv]; exact he, hb⟩
set_option maxHeartbeats 4000000 in
set_option maxRecDepth 100000 in
theorem judgeFine_any (l : List Int) (bv : Value) (w : World) (hr : RdB w bv l) (hl : Bytes l) (hG0 : GlobW w) :
    Calls Tryz.prog 33 #[bv] w fun e w' => e = .returned (.bool (vd l == 0)) ∧ Below w.heap.size w w' := by
  have hO := Lib.hid (judgeOf_w l bv w hr hl hG0)
  obtain ⟨ba, bc, rfl⟩ := hr.slice
  generalize vd l = V at *
  clear hr hl hG0
  generalize l.length = N at *
  go_enter Tryz.func33, Tryz.ntmps33
  go_wp2_with (first
    | (go_at_call 9; (with_reducible refine (hO.out).mono ?_); rintro e w1 ⟨o, a, n, c, D, hD, rfl, hb⟩; have hb1 := Lib.hid hb; have di := Lib.hid (show (Tryz.prog.info? 43).map (·.size) = some (u8s D).size by rw [u8s_size, hD]; kernel_rfl); have ds := Lib.hid (fun x : Array Value => fun hx : x = u8s (zerosB 32) => (show x.size = (u8s D).size by rw [hx, u8s_size, u8s_size, hD, zerosB_length])); clear hb hD)
    | (refine wpList_store_row rfl 41 _ _ rfl w1.heap.size (o.c (.slice a n c)) rfl rfl 41 _ (rowA w1 _ _) info_op rfl (op_one o a n c) ?_; have hb3 := Lib.hid (below_setRow' (B := w.heap.size) (g := w1.heap.size) ((hb1.out.alloc hb1.out.size (.cells (zO.c (.slice none 0 0)) 41)).alloc (by simp; have := hb1.out.size; omega) (.cells (u8s (zerosB 32)) 43)) hb1.out.size (o.c (.slice a n c))))
    | (refine storeOver _ (w1.heap.size + 1) _ rfl 43 _ _ rfl (u8s D) 43 ((setRow_other _ w1.heap.size (w1.heap.size + 1) _ (by omega)).trans (hn2 w1 _ _)) rfl rfl di.out (ds.out _ (by kernel_rfl)) (u8s_one _) ?_; intro w9 hr9 hb9; have hb9' := Lib.hid hb9; clear hr9 hb9))
  go_ret
  exact ⟨rfl, hb3.out.trans (hb9'.out.mono (by have := hb1.out.size; omega))⟩
set_option maxHeartbeats 4000000 in
set_option maxRecDepth 100000 in
theorem verdict_any (l : List Int) (bv : Value) (w : World) (hr : RdB w bv l) (hl : Bytes l) (hG0 : GlobW w) :
    Calls Tryz.prog 12 #[bv] w fun e w' => e = .returned (.int .u8 (vd l)) ∧ Below w.heap.size w w' := by
  have hO := Lib.hid (judgeOf_w l bv w hr hl hG0)
  obtain ⟨ba, bc, rfl⟩ := hr.slice
  generalize vd l = V at *
  clear hr hl hG0
  generalize l.length = N at *
  go_enter Tryz.func12, Tryz.ntmps12
  go_wp2_with (first
    | (go_at_call 9; (with_reducible refine (hO.out).mono ?_); rintro e w1 ⟨o, a, n, c, D, hD, rfl, hb⟩; have hb1 := Lib.hid hb; have di := Lib.hid (show (Tryz.prog.info? 43).map (·.size) = some (u8s D).size by rw [u8s_size, hD]; kernel_rfl); have ds := Lib.hid (fun x : Array Value => fun hx : x = u8s (zerosB 32) => (show x.size = (u8s D).size by rw [hx, u8s_size, u8s_size, hD, zerosB_length])); clear hb hD)
    | (refine wpList_store_row rfl 41 _ _ rfl w1.heap.size (o.c (.slice a n c)) rfl rfl 41 _ (rowA w1 _ _) info_op rfl (op_one o a n c) ?_; have hb3 := Lib.hid (below_setRow' (B := w.heap.size) (g := w1.heap.size) ((hb1.out.alloc hb1.out.size (.cells (zO.c (.slice none 0 0)) 41)).alloc (by simp; have := hb1.out.size; omega) (.cells (u8s (zerosB 32)) 43)) hb1.out.size (o.c (.slice a n c))))
    | (refine storeOver _ (w1.heap.size + 1) _ rfl 43 _ _ rfl (u8s D) 43 ((setRow_other _ w1.heap.size (w1.heap.size + 1) _ (by omega)).trans (hn2 w1 _ _)) rfl rfl di.out (ds.out _ (by kernel_rfl)) (u8s_one _) ?_; intro w9 hr9 hb9; have hb9' := Lib.hid hb9; clear hr9 hb9))
  go_ret
  exact ⟨rfl, hb3.out.trans (hb9'.out.mono (by have := hb1.out.size; omega))⟩
/-- What a secret signs. -/
theorem sig_gen (a : Nat) (h : 1 ≤ a ∧ a < 500000003) (o : Od) (fo : o.Fit) (hF : o.F.length = 32 * o.n) (h0 : chkO (o.byA (grp.pw 4 a)).bare = 0) :
    ∃ T : Od, T.Fit ∧ chkO T = 0 ∧ verO T = 0 ∧ T.n = o.n ∧ T.F = o.F ∧ (∃ E S, T = o.sigd (grp.pw 4 a) E S) ∧ ∀ w v, RdI w v o.n o.F → GlobW w → Calls Tryz.prog 20 #[.int .u32 (a : Int), .agg (o.c v)] w fun e w' => ∃ qa qc, e = .returned (.tuple #[.agg (T.c (.slice qa T.n qc)), .int .i64 0]) ∧ RdI w' (.slice qa T.n qc) T.n T.F ∧ Below w.heap.size w w' := by
  have hy : grp.pw 4 a < 4294967296 := Nat.lt_trans (grp.pw_lt 4 a) (by decide)
  have he := eN_lt a (msgB (o.byA (grp.pw 4 a)))
  have hs := sN_lt a (msgB (o.byA (grp.pw 4 a)))
  have hr := signed_right a (msgB (o.byA (grp.pw 4 a)))
  have hS := fun w v hp hg => opSign_ok a h o fo v w hp hg h0
  generalize eN a (msgB (o.byA (grp.pw 4 a))) = E at *
  generalize sN a (msgB (o.byA (grp.pw 4 a))) = S at *
  have hc := chk_sigd h0 he hs
  refine ⟨o.sigd (grp.pw 4 a) E S, fit_sigd fo _ E S hy he hs, hc, ver_zero o _ E S hc hr, rfl, rfl, ⟨E, S, rfl⟩, fun w v hp hg => (hS w v hp hg).mono ?_⟩
  rintro e w' ⟨qv, rfl, hq, hb⟩
  obtain ⟨qa, qc, rfl⟩ := hq.slice
  exact ⟨qa, qc, rfl, hq, hb⟩
theorem vd_good {T : Od} (fT : T.Fit) (hF : T.F.length = 32 * T.n) (hc : chkO T = 0) (hv : verO T = 0) : vd (encO T) = 0 ∧ (encO T).length ≤ 400 ∧ Bytes (encO T) := by
  obtain ⟨h1, h2, h3⟩ := chk_zero hc
  have hl := encO_short T fT h1 hF h3
  refine ⟨?_, hl, encO_bytes T fT h1 h3⟩
  unfold vd
  rw [if_neg (by omega), decO_enc fT hF hc]
  simp only
  rw [if_pos hv]
def kO : Od := ⟨0, 0, [], 1, 2, ⟨#[107]⟩, ⟨0, 0, 0, ⟨#[]⟩⟩, 0, 0⟩
theorem kO_fit : kO.Fit := ⟨by decide, bytes_nil, by decide, by decide, by decide, by decide, ⟨by decide, by decide, by decide, by decide⟩, by decide, by decide⟩
theorem kO_ok2 : (decide ((kO.st : Int) ≤ 1000000000000) && actB kO.k kO.key kO.v) = true := by decide +kernel
theorem kO_chk : chkO (kO.byA (grp.pw 4 5)).bare = 0 := chk_ok (show ¬ 4 < 0 by decide) rfl (okO_of (kO.byA (grp.pw 4 5)).bare (grp.inG_pw 4 5 grp.in4) kO_ok2 gO_sig0)
set_option maxHeartbeats 4000000 in
set_option maxRecDepth 100000 in
/-- The bytes of what the secret 5 signs. -/
theorem signed5 : ∃ B : List Int, vd B = 0 ∧ B.length ≤ 400 ∧ Bytes B ∧ ∀ w, GlobW w → Calls Tryz.prog 8 #[.int .u32 5] w fun e w' => ∃ a c, e = .returned (.slice a B.length c) ∧ RdB w' (.slice a B.length c) B ∧ Below w.heap.size w w' := by
  obtain ⟨T, fT, cT, vT, nT, FT, _, hS⟩ := sig_gen 5 ⟨by omega, by omega⟩ kO kO_fit rfl kO_chk
  have hF : T.F.length = 32 * T.n := by rw [nT, FT]; rfl
  obtain ⟨g1, g2, g3⟩ := vd_good fT hF cT vT
  refine ⟨encO T, g1, g2, g3, fun w hG0 => ?_⟩
  have hSg := Lib.hid (show Calls Tryz.prog 20 #[.int .u32 5, .agg #[.int .u32 0, .slice none 0 0, .int .u64 1, .int .u8 2, .string ⟨#[107]⟩, .int .u8 0, .int .i64 0, .int .u64 0, .string ⟨#[]⟩, .int .u32 0, .int .u32 0]] w fun e w' => ∃ qa qc, e = .returned (.tuple #[.agg (T.c (.slice qa T.n qc)), .int .i64 0]) ∧ RdI w' (.slice qa T.n qc) T.n T.F ∧ Below w.heap.size w w' from hS w (.slice none 0 0) (.inl ⟨none, 0, rfl, fun _ => rfl, rfl, rfl⟩) hG0)
  have hE := Lib.hid (fun wz v (h : RdI wz v T.n T.F) => opEncode_ok T fT v wz h cT)
  generalize encO T = B at *
  clear g1 g2 g3 hF nT FT fT cT vT hS hG0
  obtain ⟨N, hN⟩ : ∃ N, B.length = N := ⟨_, rfl⟩
  have hN := Lib.hid hN
  go_enter Tryz.func8, Tryz.ntmps8
  go_upto_region 2 with (first
    | (go_at_call 20; (with_reducible refine (hSg.out).mono ?_); rintro e w1 ⟨qa, qc, rfl, hq, hb⟩; have hb1 := Lib.hid hb; have hq1 := Lib.hid hq; clear hb hq)
    | (refine storeNew _ rfl 41 _ _ rfl (T.c (.slice qa T.n qc)) 41 rfl rfl info_op rfl (op_one T qa T.n qc) ?_; intro w2 hr2 hb2; have r2 := Lib.hid hr2; have hb2 := Lib.hid hb2; have hq2 := Lib.hid (hq1.out.mono hb2.out); clear hr2))
  go_wp2_with (first
    | (refine wpList_load_row_g rfl 41 _ rfl _ rfl 41 (T.c (.slice qa T.n qc)) (0, 0) _ r2.out Tryz.underlying41 rfl info_op ?_)
    | (go_at_call 14; (with_reducible refine (hE.out _ _ hq2.out).mono ?_); rintro e w3 ⟨sv, rfl, h3, h4⟩; have hO := Lib.hid h3.rd; have hb3 := Lib.hid h4; clear h3 h4))
  go_ret
  obtain ⟨a, c, rfl⟩ := hO.out.slice
  exact ⟨a, c, rfl, hO.out, (hb1.out.trans (hb2.out.mono hb1.out.size)).trans (hb3.out.mono (Nat.le_trans hb1.out.size hb2.out.size))⟩
theorem vd_nil : vd [] = 2 := by decide +kernel
theorem vd_401 : vd (zerosB 401) = 3 := by unfold vd; rw [if_pos (by rw [zerosB_length]; decide)]
def bO : Od := ⟨4, 0, [], 7, 1, ⟨#[]⟩, ⟨0, 0, 0, ⟨#[]⟩⟩, 0, 0⟩
theorem bO_fit : bO.Fit := ⟨by decide, bytes_nil, by decide, by decide, by decide, by decide, ⟨by decide, by decide, by decide, by decide⟩, by decide, by decide⟩
theorem bO_ok2 : (decide ((bO.st : Int) ≤ 1000000000000) && actB bO.k bO.key bO.v) = true := by decide +kernel
theorem bO_chk : chkO bO = 0 := chk_ok (by decide) rfl (okO_of bO grp.in4 bO_ok2 gO_sig0)
theorem bO_enc : encO bO = [111, 4, 0, 7, 1, 0, 0] := by decide +kernel
theorem bO_msg : msgB bO = [111, 4, 0, 7, 1] := by decide +kernel
theorem bO_hash : decide (hN 99 [1, 4] [111, 4, 0, 7, 1] % 500000003 = 0) = false := by decide +kernel
theorem pw_ones (n : Nat) : 1 * grp.pw 1 n % grp.GP = 1 := by
  unfold grp.pw
  rw [Nat.one_pow]
  rfl
theorem rN_one (y : Nat) : rN y 0 0 = 1 := by
  unfold rN
  generalize 500000002 = n
  rw [grp.pw_zero, grp.pw_zero, pw_ones]
theorem bO_right : rightB 4 [111, 4, 0, 7, 1] 0 0 = false := by
  have h := bO_hash
  unfold rightB
  rw [rN_one]
  unfold chalN
  rw [show ([((1 : Nat) : Int), ((4 : Nat) : Int)] : List Int) = [1, 4] from rfl, h]
  rfl
theorem bO_ver : verO bO = 22 := by
  unfold verO
  rw [if_pos bO_chk, bO_msg]
  have h := bO_right
  show (if rightB 4 [111, 4, 0, 7, 1] 0 0 = true then (0 : Int) else 22) = 22
  rw [h]
  rfl
theorem vd_bad : vd [111, 4, 0, 7, 1, 0, 0] = 4 := by
  have h := decO_enc bO_fit rfl bO_chk
  rw [bO_enc] at h
  unfold vd
  rw [if_neg (by decide), h]
  simp only
  rw [bO_ver]
  rfl
theorem bytes7 : Bytes [111, 4, 0, 7, 1, 0, 0] := by
  have h := encO_bytes bO bO_fit (by decide) (chk_zero bO_chk).2.2
  rw [bO_enc] at h
  exact h
theorem rd7 (w : World) : RdB (w.alloc (.cells #[.int .u8 111, .int .u8 4, .int .u8 0, .int .u8 7, .int .u8 1, .int .u8 0, .int .u8 0] 5)) (.slice (some ⟨w.heap.size, 0, none⟩) 7 7) [111, 4, 0, 7, 1, 0, 0] :=
  rdB_row (cs := [111, 4, 0, 7, 1, 0, 0]) (heap_alloc_new w _) 7 rfl (by decide)
theorem rd_zeros (w : World) (n : Nat) (hn : n ≤ 1000) : RdB (w.alloc (.cells (u8s (zerosB n)) 5)) (.slice (some ⟨w.heap.size, 0, none⟩) n n) (zerosB n) :=
  rdB_row (cs := zerosB n) (heap_alloc_new w _) n (zerosB_length n) (by unfold maxLen; omega)
theorem bytes_zeros (n : Nat) : Bytes (zerosB n) := fun i => by
  unfold ith zerosB
  rw [List.getElem?_replicate]
  split <;> simp
set_option maxHeartbeats 8000000 in
set_option maxRecDepth 100000 in
theorem alive8 (w : World) (hG0 : GlobW w) : Calls Tryz.prog 13 #[] w fun e w' => e = .returned (.bool true) ∧ Below w.heap.size w w' := by
  have hS := Lib.hid (Below.refl w.heap.size w)
  have hG := Lib.hid hG0
  obtain ⟨B, b1, b2, b3, hB⟩ := signed5
  have hsg := Lib.hid hB
  have h1 := Lib.hid (fun (wz : World) (hg : GlobW wz) => (show Calls Tryz.prog 12 #[.slice none 0 0] wz fun e w' => e = .returned (.int .u8 2) ∧ Below wz.heap.size wz w' from by
    have h := verdict_any [] (.slice none 0 0) wz (.inl ⟨none, 0, rfl, fun _ => rfl, rfl⟩) bytes_nil hg
    rw [vd_nil] at h; exact h))
  have h2 := Lib.hid (fun (wz : World) (hg : GlobW wz) => (show Calls Tryz.prog 12 #[.slice (some ⟨wz.heap.size, 0, none⟩) 401 401] (wz.alloc (.cells (u8s (zerosB 401)) 5)) fun e w' => e = .returned (.int .u8 3) ∧ Below wz.heap.size wz w' from by
    have h := verdict_any (zerosB 401) _ _ (rd_zeros wz 401 (by decide)) (bytes_zeros 401) (hg.mono (below_a _ _))
    rw [vd_401] at h
    exact h.mono fun e w' ⟨he, hb⟩ => ⟨he, (below_a wz _).trans (hb.mono (by simp))⟩))
  have h3 := Lib.hid (fun (wz : World) (hg : GlobW wz) => (show Calls Tryz.prog 12 #[.slice (some ⟨wz.heap.size, 0, none⟩) 7 7] (wz.alloc (.cells #[.int .u8 111, .int .u8 4, .int .u8 0, .int .u8 7, .int .u8 1, .int .u8 0, .int .u8 0] 5)) fun e w' => e = .returned (.int .u8 4) ∧ Below wz.heap.size wz w' from by
    have h := verdict_any [111, 4, 0, 7, 1, 0, 0] _ _ (rd7 wz) bytes7 (hg.mono (below_a _ _))
    rw [vd_bad] at h
    exact h.mono fun e w' ⟨he, hb⟩ => ⟨he, (below_a wz _).trans (hb.mono (by simp))⟩))
  have h4 := Lib.hid (fun (wz : World) (v : Value) (h : RdB wz v B) (hg : GlobW wz) => (show Calls Tryz.prog 33 #[v] wz fun e w' => e = .returned (.bool true) ∧ Below wz.heap.size wz w' from by
    have h := judgeFine_any B v wz h b3 hg
    rw [b1] at h
    exact h))
  have hmk : ∀ wz : World, (Instr.makeSlice 22 (.int .i64 401) (.int .i64 401)).run Tryz.prog wz = .ok (.slice (some ⟨wz.heap.size, 0, none⟩) 401 401) (wz.alloc (.cells (u8s (zerosB 401)) 5)) := fun wz => run_makeB (P := Tryz.prog) wz 22 5 Tryz.underlying22 (by kernel_rfl) 401 401 (Nat.le_refl _) (by decide)
  clear hG0 hB b1 b2 b3
  generalize B.length = NB at *
  go_enter Tryz.func13, Tryz.ntmps13
  go_wp2_with (first
    | (go_at_call 12; (with_reducible refine (h1.out _ (hG.out.mono hS.out)).mono ?_); rintro e w4 ⟨rfl, q2⟩; replace hS := Lib.hid (hS.out.trans (Below.mono q2 hS.out.size)); clear q2)
    | (go_at_call 12; (with_reducible refine (h2.out _ (hG.out.mono hS.out)).mono ?_); rintro e w4 ⟨rfl, q2⟩; replace hS := Lib.hid (hS.out.trans (Below.mono q2 hS.out.size)); clear q2)
    | (go_at_call 12; (with_reducible refine (h3.out _ (hG.out.mono hS.out)).mono ?_); rintro e w4 ⟨rfl, q2⟩; replace hS := Lib.hid (hS.out.trans (Below.mono q2 hS.out.size)); clear q2)
    | (go_at_call 8; (with_reducible refine (hsg.out _ (hG.out.mono hS.out)).mono ?_); rintro e w4 ⟨xa, xc, rfl, q1, q2⟩; have hx := Lib.hid q1; replace hS := Lib.hid (hS.out.trans (Below.mono q2 hS.out.size)); clear q1 q2)
    | (go_at_call 33; (with_reducible refine (h4.out _ _ hx.out (hG.out.mono hS.out)).mono ?_); rintro e w4 ⟨rfl, q2⟩; replace hS := Lib.hid (hS.out.trans (Below.mono q2 hS.out.size)); clear q2))
  go_ret
  exact ⟨rfl, hS.out⟩
end Go.Proofs.YtfaojjleapenaabGreatDoor.wir.val
namespace Go.Proofs.YtfaojjleapenaabGreatDoor
open Go.RowKit Go.YtfaojjleapenaabGreatDoor
set_option linter.unusedVariables false
/-- The world is behind 'w', and the listed variables are there. -/
def Since (w wi : World) : Prop := Below w.heap.size w wi ∧ GlobW wi
theorem Since.start {w : World} (h : GlobW w) : Since w w := ⟨Below.refl _ _, h⟩
theorem Since.step {w wi wj : World} (h : Since w wi) (hb : Below wi.heap.size wi wj) : Since w wj := ⟨h.1.trans (hb.mono h.1.size), h.2.mono hb⟩
theorem Since.gl {w wi : World} (h : Since w wi) : GlobW wi := h.2
end Go.Proofs.YtfaojjleapenaabGreatDoor
namespace Go.Proofs.YtfaojjleapenaabGreatDoor
open Go.RowKit Go.YtfaojjleapenaabGreatDoor
set_option linter.unusedVariables false
end Go.Proofs.YtfaojjleapenaabGreatDoor
namespace Go.Proofs.YtfaojjleapenaabGreatDoor
open Go.RowKit Go.YtfaojjleapenaabGreatDoor
set_option linter.unusedVariables false
end Go.Proofs.YtfaojjleapenaabGreatDoor
namespace Go.Proofs.YtfaojjleapenaabGreatDoor
open Go.RowKit Go.YtfaojjleapenaabGreatDoor
set_option linter.unusedVariables false
end Go.Proofs.YtfaojjleapenaabGreatDoor
namespace Go.Proofs.YtfaojjleapenaabGreatDoor
open Go.RowKit Go.YtfaojjleapenaabGreatDoor
set_option linter.unusedVariables false
def NSt (Z : List Int) (g1 : Nat) (w wi : World) : Prop := Below w.heap.size w wi ∧ GlobW wi ∧ RdB wi (.slice (some ⟨g1, 0, none⟩) 9991 9992) Z
theorem NSt.step {Z : List Int} {g1 : Nat} {w wi wj : World} (h : NSt Z g1 w wi) (hb : Below wi.heap.size wi wj) : NSt Z g1 w wj := ⟨h.1.trans (hb.mono h.1.size), h.2.1.mono hb, h.2.2.mono hb⟩
theorem NSt.gl {Z : List Int} {g1 : Nat} {w wi : World} (h : NSt Z g1 w wi) : GlobW wi := h.2.1
theorem NSt.rd {Z : List Int} {g1 : Nat} {w wi : World} (h : NSt Z g1 w wi) : RdB wi (.slice (some ⟨g1, 0, none⟩) 9991 9992) Z := h.2.2
def NC (Z : List Int) (g1 : Nat) (w : World) (g20 g22 : Nat) (c20 c22 : Array Value) (wi : World) : Prop := NSt Z g1 w wi ∧ Has wi g20 c20 39 ∧ Has wi g22 c22 39
theorem NC.step {Z : List Int} {g1 : Nat} {w : World} {g20 g22 : Nat} {c20 c22 : Array Value} {wi wj : World} (h : NC Z g1 w g20 g22 c20 c22 wi) (hb : Below wi.heap.size wi wj) : NC Z g1 w g20 g22 c20 c22 wj := ⟨h.1.step hb, h.2.1.step hb, h.2.2.step hb⟩
abbrev Ans (f : FuncId) (args : Array Value) (v : Value) : Prop := ∀ w, Calls Tryz.prog f args w fun e w' => e = .returned v ∧ Below w.heap.size w w'
theorem Ans.mk {f : FuncId} {args : Array Value} {v : Value} (h : ∀ w, Calls Tryz.prog f args w fun e w' => e = .returned v ∧ w' = w) : ∀ w, Calls Tryz.prog f args w fun e w' => e = .returned v ∧ Below w.heap.size w w' :=
  fun w => (h w).mono fun e w' ⟨h1, h2⟩ => ⟨h1, by subst h2; exact Below.refl _ _⟩
end Go.Proofs.YtfaojjleapenaabGreatDoor
namespace Go.Proofs.YtfaojjleapenaabGreatDoor
open Go.RowKit Go.YtfaojjleapenaabGreatDoor
set_option linter.unusedVariables false
end Go.Proofs.YtfaojjleapenaabGreatDoor
namespace Go.Proofs.YtfaojjleapenaabGreatDoor
open Go.RowKit Go.YtfaojjleapenaabGreatDoor
set_option linter.unusedVariables false
theorem below_a (w : World) (o : Obj) : Below w.heap.size w (w.alloc o) := (Below.refl _ _).alloc (Nat.le_refl _) o
end Go.Proofs.YtfaojjleapenaabGreatDoor
namespace Go.Proofs.YtfaojjleapenaabGreatDoor
open Go.RowKit Go.YtfaojjleapenaabGreatDoor
set_option linter.unusedVariables false
end Go.Proofs.YtfaojjleapenaabGreatDoor
namespace Go.Proofs.YtfaojjleapenaabGreatDoor.wir.val
open Go.RowKit Go.YtfaojjleapenaabGreatDoor
set_option linter.unusedVariables false
/-- A slice of slices of bytes that reads as' L (an empty one may have any address). -/
def RdS (w : World) (v : Value) (L : List (List Int)) : Prop :=
  (∃ a c, v = .slice a 0 c ∧ (a = none → c = 0) ∧ L = []) ∨ ∃ b o c, v = .slice (some ⟨b, o, none⟩) L.length c ∧ L.length ≤ c ∧ c ≤ maxLen ∧ b < w.heap.size ∧ ∀ i, i < L.length → ∃ s, w.cell? ⟨b, o + i, none⟩ = some s ∧ RdB w s (nthL L i)
theorem RdS.mono {w w' : World} {v : Value} {L : List (List Int)} (h : RdS w v L) (hb : Below w.heap.size w w') : RdS w' v L := by
  rcases h with h | ⟨b, o, c, hv, h1, h2, h3, h4⟩
  · exact .inl h
  · refine .inr ⟨b, o, c, hv, h1, h2, Nat.lt_of_lt_of_le h3 hb.size, fun i hi => ?_⟩
    obtain ⟨s, h5, h6⟩ := h4 i hi
    exact ⟨s, by rw [hb.cell (p := (⟨b, o + i, none⟩ : Addr)) h3]; exact h5, h6.mono hb⟩
theorem RdS.slice {w : World} {v : Value} {L : List (List Int)} (h : RdS w v L) : ∃ a c, v = .slice a L.length c := by
  rcases h with ⟨a, c, rfl, _, rfl⟩ | ⟨b, o, c, hv, _⟩
  · exact ⟨a, c, rfl⟩
  · exact ⟨_, c, hv⟩
theorem vd_range (l : List Int) : 0 ≤ vd l ∧ vd l ≤ 4 := by
  unfold vd
  split
  · omega
  · split
    · omega
    · split <;> omega
/-- The verdicts on the first k of n. -/
def vP (L : List (List Int)) (n k : Nat) : List Int := (L.take k).map vd ++ zerosB (n - k)
theorem vP_length (L : List (List Int)) (k : Nat) (hk : k ≤ L.length) : (vP L L.length k).length = L.length := by
  unfold vP
  rw [List.length_append, List.length_map, List.length_take, zerosB_length]; omega
theorem vP_zero (L : List (List Int)) (n : Nat) : vP L n 0 = zerosB n := by simp [vP]
theorem vP_all (L : List (List Int)) : vP L L.length L.length = L.map vd := by
  unfold vP
  rw [List.take_length, Nat.sub_self]
  simp [zerosB]
theorem vP_set (L : List (List Int)) (k : Nat) (hk : k < L.length) : (vP L L.length k).set k (vd (nthL L k)) = vP L L.length (k + 1) := by
  unfold vP
  have h1 : ((L.take k).map vd).length = k := by rw [List.length_map, List.length_take]; omega
  have h2 : zerosB (L.length - k) = 0 :: zerosB (L.length - (k + 1)) := by
    unfold zerosB
    rw [show L.length - k = (L.length - (k + 1)) + 1 by omega, List.replicate_succ]
  rw [h2, List.set_append_right _ _ (by omega), h1, Nat.sub_self, List.set_cons_zero, List.take_add_one, List.map_append, List.append_assoc]
  congr 1
  unfold nthL
  rw [List.getElem?_eq_getElem hk]
  rfl
theorem u8s_setX (l : List Int) (k : Nat) (x : Int) : (u8s l).setIfInBounds k (.int .u8 x) = u8s (l.set k x) := by
  unfold u8s
  apply Array.ext'
  simp [List.map_set]
theorem vP_cell (L : List (List Int)) (k : Nat) (hk : k < L.length) : (u8s (vP L L.length k))[k]? = some (.int .u8 (ith (vP L L.length k) k)) := by
  have h := vP_length L k (by omega)
  unfold u8s
  rw [List.getElem?_toArray, List.getElem?_map]
  unfold ith
  rw [List.getElem?_eq_getElem (by omega)]
  rfl
set_option maxHeartbeats 4000000 in
set_option maxRecDepth 100000 in
theorem verdicts_any (L : List (List Int)) (v : Value) (w : World) (hr : RdS w v L) (hb : ∀ i, Bytes (nthL L i)) (hn : L.length ≤ 60) (hG0 : GlobW w) :
    Calls Tryz.prog 31 #[v] w fun e w' => e = .returned (.slice (some ⟨w.heap.size, 0, none⟩) L.length L.length) ∧ w'.heap[w.heap.size]? = some (.cells (u8s (L.map vd)) 5 (0, 0)) ∧ Below w.heap.size w w' := by
  obtain ⟨sa, sc, rfl⟩ := hr.slice
  have hrw := Lib.hid hr
  have hG := Lib.hid hG0
  have hB0 := Lib.hid (below_a1 w (.cells (u8s (zerosB L.length)) 5))
  have hrow := Lib.hid (heap_alloc_new w (.cells (u8s (zerosB L.length)) 5))
  rw [← vP_zero L L.length] at hrow
  have hz0 := Lib.hid (vP_zero L L.length)
  have hall := Lib.hid (vP_all L)
  have hset := Lib.hid (fun k hk => vP_set L k hk)
  have hcl := Lib.hid (fun k hk => vP_cell L k hk)
  have hbs := Lib.hid hb
  have hmk : ∀ wz : World, (Instr.makeSlice 22 (.int .i64 (L.length : Int)) (.int .i64 (L.length : Int))).run Tryz.prog wz = .ok (.slice (some ⟨wz.heap.size, 0, none⟩) L.length L.length) (wz.alloc (.cells (u8s (zerosB L.length)) 5)) := fun wz => run_makeB (P := Tryz.prog) wz 22 5 Tryz.underlying22 (by kernel_rfl) L.length L.length (Nat.le_refl _) (by omega)
  clear hr hb hG0
  obtain ⟨n, hnL⟩ : ∃ n, L.length = n := ⟨_, rfl⟩
  have hnh := Lib.hid hnL
  rw [hnL] at hmk hn hB0 hrow hz0 hall hset hcl ⊢
  clear hnL
  go_enter Tryz.func31, Tryz.ntmps31
  go_wp2
  go_loopw [10] (fun i wr => ∃ k : Nat, k ≤ n ∧ i = .int .i64 k ∧ Below w.heap.size w wr ∧ wr.heap[w.heap.size]? = some (.cells (u8s (vP L n k)) 5 (0, 0))) (fun i _ => n - (intOf i).toNat)
  case atStart => exact ⟨0, Nat.zero_le _, rfl, hB0.out, hrow.out⟩
  case round =>
    obtain ⟨k, hk, rfl, hbk, hrk⟩ := hrel
    have hbk' := Lib.hid hbk; have hrk' := Lib.hid hrk
    clear hbk hrk
    by_cases hlt : k < n
    · have hat : ∃ b o s, sa = some ⟨b, o, none⟩ ∧ wr.cell? ⟨b, o + k, none⟩ = some s ∧ RdB wr s (nthL L k) := by
        rcases hrw.out.mono hbk'.out with ⟨_, _, _, _, rfl⟩ | ⟨b, o, c', hv, h1, h2, h3, h4⟩
        · have := hnh.out; simp at this; omega
        · obtain ⟨e1, _, _⟩ := Value.slice.inj hv
          subst e1
          obtain ⟨s, h5, h6⟩ := h4 k (by have := hnh.out; omega)
          exact ⟨b, o, s, rfl, h5, h6⟩
      obtain ⟨b, o, s, rfl, cs, rs⟩ := hat
      obtain ⟨xa, xc, rfl⟩ := rs.slice
      have hO := Lib.hid (judgeOf_w (nthL L k) _ wr rs (hbs.out k) (hG.out.mono hbk'.out))
      have hst := Lib.hid (hset.out k (by have := hnh.out; omega))
      have hcc := Lib.hid (hcl.out k (by have := hnh.out; omega))
      have hlt0 := Lib.hid (Array.getElem?_eq_some_iff.1 hrk'.out).1
      clear rs
      generalize vd (nthL L k) = V at *
      generalize (nthL L k).length = M at *
      have hkI : (k : Int) < (n : Int) := by omega
      go_wp2_with (go_at_call 9; (with_reducible refine (hO.out).mono ?_); rintro e w2 ⟨oo, qa, qn, qc, D, hD, rfl, h2⟩; have hb2 := Lib.hid h2; have hr2 := Lib.hid (rowB hrk'.out h2 hlt0.out); have c2 : w2.cell? ⟨w.heap.size, k, none⟩ = some (.int .u8 (ith (vP L n k) k)) := (by rw [cell_of_row _ _ _ _ _ _ hr2.out]; exact hcc.out); have f2 := frozen_of_row _ _ k _ _ hr2.out; clear h2)
      go_roundw
      case rel => exact ⟨k + 1, by omega, by go_num, (hbk'.out.trans (hb2.out.mono hbk'.out.size)).setCell (p := ⟨w.heap.size, k, none⟩) (Nat.le_refl _) _, by rw [← hst.out, ← u8s_setX]; exact setCell_row hr2.out k _⟩
      case measure => simp [intOf]; omega
    · obtain rfl : k = n := by omega
      go_wp2
      go_ret
      exact ⟨rfl, by rw [← hall.out]; exact hrk'.out, hbk'.out⟩
set_option maxHeartbeats 2000000 in
set_option maxRecDepth 100000 in
theorem many_any (L : List (List Int)) (v : Value) (w : World) (hr : RdS w v L) (hb : ∀ i, Bytes (nthL L i)) (hn : L.length ≤ 60) (hG0 : GlobW w) :
    Calls Tryz.prog 6 #[v] w fun e w' => e = .returned (.tuple #[.slice (some ⟨w.heap.size, 0, none⟩) L.length L.length, .int .i64 0]) ∧ w'.heap[w.heap.size]? = some (.cells (u8s (L.map vd)) 5 (0, 0)) ∧ Below w.heap.size w w' := by
  have hV := Lib.hid (verdicts_any L v w hr hb hn hG0)
  obtain ⟨sa, sc, rfl⟩ := hr.slice
  have i1 : ¬ (60 : Int) < (L.length : Int) := by omega
  clear hr hb hG0
  generalize L.map vd = R at *
  generalize L.length = n at *
  go_enter Tryz.func6, Tryz.ntmps6
  go_wp2_with (go_at_call 31; (with_reducible refine (hV.out).mono ?_); rintro e w2 ⟨rfl, h1, h2⟩; have h1 := Lib.hid h1; have h2 := Lib.hid h2)
  go_ret2
  exact ⟨rfl, h1.out, h2.out⟩
set_option maxHeartbeats 2000000 in
set_option maxRecDepth 100000 in
theorem many_long (sa : Option Addr) (n sc : Nat) (w : World) (hn : 60 < n) :
    Calls Tryz.prog 6 #[.slice sa n sc] w fun e w' => e = .returned (.tuple #[.slice none 0 0, .int .i64 4]) ∧ w' = w := by
  have i1 : (60 : Int) < (n : Int) := by omega
  go_enter Tryz.func6, Tryz.ntmps6
  go_wp2
  go_ret2
  exact ⟨rfl, rfl⟩
end Go.Proofs.YtfaojjleapenaabGreatDoor.wir.val
namespace Go.Proofs.YtfaojjleapenaabGreatDoor.wir.val
open Go.RowKit Go.YtfaojjleapenaabGreatDoor
set_option linter.unusedVariables false
def c64s (l : List Int) : Array Value := (l.map (Value.int .i64)).toArray
theorem c64s_set (l : List Int) (k : Nat) (x : Int) : (c64s l).setIfInBounds k (.int .i64 x) = c64s (l.set k x) := by
  unfold c64s
  apply Array.ext'
  simp [List.map_set]
theorem c64s_one (l : List Int) : (c64s l).all (·.oneCell') = true := by
  unfold c64s
  rw [List.all_toArray, List.all_map, List.all_eq_true]
  intro x _
  rfl
/-- How many of the first k have the verdict j. -/
def cnt (L : List (List Int)) (k j : Nat) : Nat := ((L.take k).filter fun l => decide (vd l = (j : Int))).length
def cP (L : List (List Int)) (k : Nat) : List Int := (List.range 10).map fun j => (cnt L k j : Int)
theorem cP_length (L : List (List Int)) (k : Nat) : (cP L k).length = 10 := by simp [cP]
theorem cP_zero (L : List (List Int)) : cP L 0 = [0, 0, 0, 0, 0, 0, 0, 0, 0, 0] := by
  unfold cP cnt
  simp only [List.take_zero, List.filter_nil, List.length_nil]
  rfl
theorem cnt_le (L : List (List Int)) (k j : Nat) : cnt L k j ≤ L.length := by
  unfold cnt
  have := List.length_filter_le (fun l => decide (vd l = (j : Int))) (L.take k)
  rw [List.length_take] at this
  omega
theorem cnt_step (L : List (List Int)) (k j : Nat) (hk : k < L.length) : cnt L (k + 1) j = cnt L k j + (if vd (nthL L k) = (j : Int) then 1 else 0) := by
  unfold cnt
  have e : nthL L k = L[k] := by unfold nthL; rw [List.getElem?_eq_getElem hk]; rfl
  rw [List.take_add_one, List.getElem?_eq_getElem hk, List.filter_append, List.length_append, e]
  congr 1
  simp only [Option.toList_some, List.filter_cons, List.filter_nil]
  by_cases h : vd L[k] = (j : Int)
  · rw [if_pos (by simpa using h), if_pos h]; rfl
  · rw [if_neg (by simpa using h), if_neg h]; rfl
theorem cP_set (L : List (List Int)) (k m : Nat) (hk : k < L.length) (hm : vd (nthL L k) = (m : Int)) (hm10 : m < 10) : (cP L k).set m ((cnt L k m : Int) + 1) = cP L (k + 1) := by
  have hg : ∀ k i, (cP L k)[i]? = if i < 10 then some (cnt L k i : Int) else none := fun k i => by
    unfold cP
    rw [List.getElem?_map]
    by_cases hi : i < 10
    · rw [List.getElem?_range hi, if_pos hi]; rfl
    · rw [if_neg hi, List.getElem?_eq_none (by rw [List.length_range]; omega)]; rfl
  apply List.ext_getElem?
  intro i
  rw [List.getElem?_set, cP_length, hg, hg]
  by_cases h : m = i
  · subst h
    rw [if_pos rfl, if_pos hm10, if_pos hm10, cnt_step L k m hk, if_pos hm]
    simp
  · rw [if_neg h]
    by_cases hi : i < 10
    · rw [if_pos hi, if_pos hi, cnt_step L k i hk, if_neg (by omega)]
      simp
    · rw [if_neg hi, if_neg hi]
theorem cP_cell (L : List (List Int)) (k m : Nat) (hm10 : m < 10) : (c64s (cP L k))[m]? = some (.int .i64 (cnt L k m : Int)) := by
  unfold c64s cP
  rw [List.getElem?_toArray, List.getElem?_map, List.getElem?_map, List.getElem?_range hm10]
  rfl
theorem info_cnt : (Tryz.prog.info? 27).map (·.size) = some 10 := by kernel_rfl
theorem vdm (l : List Int) : ∃ m : Nat, vd l = (m : Int) ∧ m ≤ 4 := ⟨(vd l).toNat, by have := vd_range l; omega, by have := vd_range l; omega⟩
set_option maxHeartbeats 4000000 in
set_option maxRecDepth 100000 in
theorem count_any (L : List (List Int)) (v : Value) (w : World) (hr : RdS w v L) (hb : ∀ i, Bytes (nthL L i)) (hn : L.length ≤ 60) (hG0 : GlobW w) :
    Calls Tryz.prog 7 #[v] w fun e w' => e = .returned (.tuple #[.agg (c64s (cP L L.length)), .int .i64 0]) ∧ Below w.heap.size w w' := by
  obtain ⟨sa, sc, rfl⟩ := hr.slice
  obtain ⟨W, hW⟩ : ∃ W, W = (w.alloc (.cells (c64s (cP L 0)) 27)).alloc (.cells (c64s (cP L 0)) 27) := ⟨_, rfl⟩
  have hS := Lib.hid (show Below w.heap.size w W by rw [hW]; exact ((Below.refl w.heap.size w).alloc (Nat.le_refl _) _).alloc (by simp) _)
  have r2 := Lib.hid (show W.heap[w.heap.size]? = some (.cells (c64s (cP L 0)) 27 (0, 0)) by rw [hW]; exact rowA w _ _)
  have r4 := Lib.hid (show W.heap[w.heap.size + 1]? = some (.cells (c64s (cP L 0)) 27 (0, 0)) by rw [hW]; exact hn2 w _ _)
  have hV := Lib.hid (verdicts_any L (.slice sa L.length sc) W (hr.mono hS.out) hb hn (hG0.mono hS.out))
  have i1 : ¬ (60 : Int) < (L.length : Int) := by omega
  have hset := Lib.hid (fun k m hk h1 h2 => cP_set L k m hk h1 h2)
  have hcl := Lib.hid (fun k m h => cP_cell L k m h)
  have hle := Lib.hid (fun k j => cnt_le L k j)
  have hvm := Lib.hid (fun k : Nat => vdm (nthL L k))
  have hz := Lib.hid (cP_zero L)
  have info := Lib.hid (show ∀ k, (Tryz.prog.info? 27).map (·.size) = some (c64s (cP L k)).size from fun k => by rw [info_cnt]; simp [c64s, cP_length])
  have hW2 : W.heap.size = w.heap.size + 2 := by rw [hW]; simp
  have hWs := Lib.hid hW2
  have hmap := Lib.hid (show ∀ k, k < L.length → (u8s (L.map vd))[k]? = some (.int .u8 (vd (nthL L k))) from fun k hk => by
    unfold u8s nthL
    rw [List.getElem?_toArray, List.getElem?_map, List.getElem?_map, List.getElem?_eq_getElem hk]
    rfl)
  clear hr hb hG0
  obtain ⟨n, hnL⟩ : ∃ n, L.length = n := ⟨_, rfl⟩
  rw [hnL] at hn hV i1 hle hmap hset ⊢
  clear hnL
  generalize L.map vd = R at *
  go_enter Tryz.func7, Tryz.ntmps7
  go_upto_region 1 with fail
  go_upto_region 4 with fail
  change Code.wp _ _ _ _ ((w.alloc (.cells (c64s [0, 0, 0, 0, 0, 0, 0, 0, 0, 0]) 27)).alloc (.cells (c64s [0, 0, 0, 0, 0, 0, 0, 0, 0, 0]) 27))
  rw [← hz.out, ← hW]
  clear hW hW2
  go_wp2_with (go_at_call 31; (with_reducible refine (hV.out).mono ?_); rintro e w2 ⟨rfl, h1, h2⟩; have hf := Lib.hid h1; have hb2 := Lib.hid h2; clear h1 h2)
  replace r2 := Lib.hid (rowB r2.out hb2.out (by have := hWs.out; omega))
  replace r4 := Lib.hid (rowB r4.out hb2.out (by have := hWs.out; omega))
  replace hS := Lib.hid (hS.out.trans (hb2.out.mono hS.out.size))
  clear hV
  obtain ⟨gf, hgf⟩ : ∃ g, g = W.heap.size := ⟨_, rfl⟩
  rw [← hgf] at hf ⊢
  have hgfs := Lib.hid (show w.heap.size + 1 < gf by have := hWs.out; omega)
  have hfl := Lib.hid (Array.getElem?_eq_some_iff.1 hf.out).1
  clear hgf hb2
  go_loopw [14] (fun i wr => ∃ k : Nat, k ≤ n ∧ i = .int .i64 k ∧ Below w.heap.size w wr ∧ wr.heap[w.heap.size + 1]? = some (.cells (c64s (cP L k)) 27 (0, 0)) ∧ wr.heap[w.heap.size]? = some (.cells (c64s (cP L 0)) 27 (0, 0)) ∧ wr.heap[gf]? = some (.cells (u8s R) 5 (0, 0))) (fun i _ => n - (intOf i).toNat)
  case atStart => exact ⟨0, Nat.zero_le _, rfl, hS.out, r4.out, r2.out, hf.out⟩
  case round =>
    obtain ⟨k, hk, rfl, hbk, q4, q2, qf⟩ := hrel
    have hbk := Lib.hid hbk; have q4 := Lib.hid q4; have q2 := Lib.hid q2; have qf := Lib.hid qf
    by_cases hlt : k < n
    · obtain ⟨m, hm, hm4⟩ := hvm.out k
      have cf : wr.cell? ⟨gf, k, none⟩ = some (.int .u8 (m : Int)) := by rw [cell_of_row _ _ _ _ _ _ qf.out, ← hm]; exact hmap.out k hlt
      have cm : wr.cell? ⟨w.heap.size + 1, m, none⟩ = some (.int .i64 (cnt L k m : Int)) := by rw [cell_of_row _ _ _ _ _ _ q4.out]; exact hcl.out k m (by omega)
      have fm := frozen_of_row _ _ m _ _ q4.out
      have hst := Lib.hid (hset.out k m hlt hm (by omega))
      have hc := Lib.hid (hle.out k m)
      have hkI : (k : Int) < (n : Int) := by omega
      have hwr : IntKind.i64.wrap ((cnt L k m : Int) + 1) = (cnt L k m : Int) + 1 := IntWalk.i64_in _ (by have := hc.out; omega)
      have hm10 : (m : Int) < 10 := by omega
      have hm10' : m < 10 := by omega
      clear hm
      generalize cnt L k m = cv at *
      go_wp2
      go_roundw
      case rel => exact ⟨k + 1, by omega, by go_num, hbk.out.setCell (p := ⟨w.heap.size + 1, m, none⟩) (Nat.le_succ _) _, by rw [← hst.out, ← c64s_set]; exact setCell_row q4.out m _, (setCell_rows _ _ _ _ (by omega)).trans q2.out, (setCell_rows _ _ _ _ (by have := hgfs.out; omega)).trans qf.out⟩
      case measure => simp [intOf]; omega
    · obtain rfl : k = n := by omega
      go_wp2_with (first
        | (refine wpList_load_row_g rfl 27 _ rfl (w.heap.size + 1) rfl 27 (c64s (cP L k)) (0, 0) _ q4.out Tryz.underlying27 rfl (info.out k) ?_)
        | (refine storeOver _ w.heap.size _ rfl 27 _ _ rfl (c64s (cP L k)) 27 q2.out rfl rfl (info.out k) (by simp [c64s, cP_length]) (c64s_one _) ?_; intro w9 hr9 hb9; have hr9' := Lib.hid hr9; have hb9' := Lib.hid hb9; clear hr9 hb9))
      exact bodyPost_ret (results_row_tmp rfl _ _ w.heap.size 27 _ _ _ rfl hr9'.out Tryz.underlying27 rfl (info.out k)) rfl ⟨rfl, hbk.out.trans hb9'.out⟩
end Go.Proofs.YtfaojjleapenaabGreatDoor.wir.val
namespace Go.Proofs.YtfaojjleapenaabGreatDoor.wir.val
open Go.RowKit Go.YtfaojjleapenaabGreatDoor
set_option linter.unusedVariables false
set_option maxHeartbeats 2000000 in
set_option maxRecDepth 100000 in
theorem count_long (sa : Option Addr) (n sc : Nat) (w : World) (hn : 60 < n) :
    Calls Tryz.prog 7 #[.slice sa n sc] w fun e w' => e = .returned (.tuple #[.agg (c64s [0, 0, 0, 0, 0, 0, 0, 0, 0, 0]), .int .i64 4]) ∧ Below w.heap.size w w' := by
  have hS := Lib.hid ((Below.refl w.heap.size w).alloc (Nat.le_refl _) (.cells (c64s [0, 0, 0, 0, 0, 0, 0, 0, 0, 0]) 27 (0, 0)))
  have i1 : (60 : Int) < (n : Int) := by omega
  go_enter Tryz.func7, Tryz.ntmps7
  go_wp2
  exact bodyPost_ret (results_row_tmp rfl _ _ w.heap.size 27 (c64s [0, 0, 0, 0, 0, 0, 0, 0, 0, 0]) _ _ rfl (heap_alloc_new w _) Tryz.underlying27 rfl info_cnt) rfl ⟨rfl, hS.out⟩
end Go.Proofs.YtfaojjleapenaabGreatDoor.wir.val
namespace Go.Proofs.YtfaojjleapenaabGreatDoor.wir.val
open Go.RowKit Go.YtfaojjleapenaabGreatDoor
set_option linter.unusedVariables false
theorem c64s_get (l : List Int) (i : Nat) (h : i < l.length) : (c64s l)[i]? = some (.int .i64 (ith l i)) := by simp [c64s, ith, h]
theorem run_partC {P : Program} (w : World) (e : TypeId) (he : P.underlying e = some (.int .i64)) (l : List Int) (i : Nat) (h : i < l.length) : (part e (c64s l) i).run P w = .ok (.int .i64 (ith l i)) w := by
  simp [part, isAgg, run_underlying he, c64s_get l i h]
theorem eqLoopC {P : Program} (w : World) (d elem : Nat) (he : P.underlying elem = some (.int .i64)) (a b : List Int) (n : Nat) (ha : a.length = n) (hb : b.length = n) : ∀ m i, i + m = n →
    (forIn (List.range' i m) ((none, ()) : Option Bool × Unit) fun i __s => do
              let __do_lift ← part elem (c64s a) (i * 1)
              let __do_lift_1 ← part elem (c64s b) (i * 1)
              let __do_lift ← Op.equalIn (d + 1) elem __do_lift __do_lift_1
              if __do_lift = false then (pure (ForInStep.done (some false, ())) : Sem _) else pure (ForInStep.yield (none, ()))).run P w
      = .ok (if a.drop i = b.drop i then (none, ()) else (some false, ())) w := by
  intro m
  induction m with
  | zero => intro i hi; simp [List.drop_eq_nil_of_le, ha, hb, ← hi]
  | succ m ih =>
    intro i hi
    have h1 : i < a.length := by omega
    have h2 : i < b.length := by omega
    rw [List.range'_succ, List.forIn_cons]
    simp only [Nat.mul_one, Sem.run_bind, run_partC w elem he a i h1, run_partC w elem he b i h2, Result.andThen_ok, run_equalIn_int w d elem .i64 .i64 _ _ he]
    have key : (a.drop i = b.drop i) = (a[i] = b[i] ∧ a.drop (i + 1) = b.drop (i + 1)) := by rw [List.drop_eq_getElem_cons h1, List.drop_eq_getElem_cons h2, List.cons.injEq]
    simp only [key]
    have e1 : ith a i = a[i] := by simp [ith, h1]
    have e2 : ith b i = b[i] := by simp [ith, h2]
    rw [e1, e2]
    by_cases h : a[i] = b[i]
    · have ih' := ih (i + 1) (by omega)
      simp only [Nat.mul_one] at ih'
      simp only [h, true_and, beq_self_eq_true, Bool.true_eq_false, if_false, Sem.run_pure, Result.andThen_ok]
      exact ih'
    · simp [h]
theorem run_equalArrC {P : Program} (w : World) (d t elem n : Nat) (ht : P.underlying t = some (.array n elem)) (he : P.underlying elem = some (.int .i64)) (hs : (P.info? elem).map (·.size) = some 1)
    (a b : List Int) (ha : a.length = n) (hb : b.length = n) :
    (Op.equalIn (d + 2) t (.agg (c64s a)) (.agg (c64s b))).run P w = .ok (decide (a = b)) w := by
  have hinfo : ∃ i, P.info? elem = some i ∧ i.size = 1 := by
    cases h : P.info? elem with
    | none => simp [h] at hs
    | some i => exact ⟨i, rfl, by simpa [h] using hs⟩
  obtain ⟨i, hi, h1⟩ := hinfo
  have hsz : (sizeOf elem).run P w = .ok 1 w := by simp [sizeOf, typeInfo, hi, h1]
  rw [Op.equalIn]
  simp only [Sem.run_bind, run_underlying ht, Result.andThen_ok, hsz]
  have h := eqLoopC w d elem he a b n ha hb n 0 (by omega)
  simp at h ⊢
  rw [h]
  by_cases hab : a = b <;> simp [hab]
theorem run_eqArrC {P : Program} (w : World) (t elem n : Nat) (ht : P.underlying t = some (.array n elem)) (he : P.underlying elem = some (.int .i64)) (hs : (P.info? elem).map (·.size) = some 1)
    (a b : List Int) (ha : a.length = n) (hb : b.length = n) :
    (binOp .eql t (.agg (c64s a)) (.agg (c64s b))).run P w = .ok (.bool (decide (a = b))) w := by
  rw [run_eql_struct, run_equalArrC w 9998 t elem n ht he hs a b ha hb]
  rfl
theorem eqCnt (C : List Int) (hC : C.length = 10) (w : World) : (binOp .eql 27 (.agg (c64s C)) (.agg (c64s C))).run Tryz.prog w = .ok (.bool true) w := by
  rw [run_eqArrC (P := Tryz.prog) w 27 3 10 Tryz.underlying27 Tryz.underlying3 (by kernel_rfl) C C hC hC]
  simp
theorem cntGuard : Tryz.prog.eqGuardType Tryz.prog.depth 27 = false := by kernel_rfl
end Go.Proofs.YtfaojjleapenaabGreatDoor.wir.val
namespace Go.Proofs.YtfaojjleapenaabGreatDoor.wir.val
open Go.RowKit Go.YtfaojjleapenaabGreatDoor
set_option linter.unusedVariables false
theorem zeroCells_u8 (k : Nat) : Builtin.zeroCells #[Value.int .u8 0] k = u8s (zerosB k) := by
  unfold Builtin.zeroCells u8s zerosB
  apply Array.ext
  · simp
  · intro i h1 h2
    simp [Nat.mod_one]
theorem run_append_zeros {P : Program} (w : World) (t tn ty e : TypeId) (ht : P.underlying t = some (.slice e)) (htn : P.underlying tn = some (.int .i64)) (hinfo : (P.info? e).map (fun i => (i.zero, i.size, i.bytes)) = some (some (.int .u8 0), 1, 1))
    (base : Option Addr) (sLen sCap : Nat) (hsl : sLen ≤ 100000) (k : Nat) (hk : 0 < k) (hk2 : k ≤ 1000) (olds : Array Value) (hold : ∀ wz : World, wz.heap = w.heap → (Builtin.firstCells 1 sLen (.slice base sLen sCap)).run P wz = .ok olds wz) (hcap : sCap < sLen + k → Builtin.nextslicecap (sLen + k) sCap ≤ 281474976710656) (b o c : Nat) (hr : ∀ wz : World, wz.heap = w.heap → ∀ j v, (u8v (zerosB k))[j]? = some v → wz.cell? ((⟨b, o, none⟩ : Addr).add j) = some v) :
    (Builtin.append_ #[t, tn] ty #[.slice base sLen sCap, .int .i64 (k : Int)]).run P w = (Builtin.append_ #[t, t] ty #[.slice base sLen sCap, .slice (some ⟨b, o, none⟩) k c]).run P w := by
  obtain ⟨i, hi, hz, hs, hb⟩ := info_parts hinfo
  have hw : IntKind.i64.wrap (k : Int) = k := by rw [IntKind.wrap_i64]; omega
  have hneg : ¬ ((k : Int) < 0) := by omega
  have hk0 : ¬ k = 0 := by omega
  have h48 : ¬ (281474976710656 < (k : Int)) := by omega
  have hf : ∀ wz : World, wz.heap = w.heap → (Builtin.firstCells 1 k (.slice (some ⟨b, o, none⟩) k c)).run P wz = .ok (u8v (zerosB k)).toArray wz := fun wz hh => run_firstCells_some (w := wz) 1 k ⟨b, o, none⟩ k c (u8v (zerosB k)) (by simp [u8v, zerosB]) (hr wz hh)
  have hz8 : (Builtin.zeroCells #[Value.int .u8 0] k) = (u8v (zerosB k)).toArray := zeroCells_u8 k
  have h63 : ¬ (9223372036854775807 < ((sLen : Int) + (k : Int))) := by omega
  by_cases hn : sLen + k ≤ sCap
  · simp [Builtin.append_, run_underlying ht, run_underlying htn, sizeOf, typeInfo, zeroValue, hi, hz, hs, hb, asInt, asIntOf, hw, hn, hneg, hk0, h48, h63, hf w rfl, hz8, Value.cells, Builtin.lenOf]
  · have h48' : ¬ (281474976710656 < Builtin.nextslicecap (sLen + k) sCap) := by have := hcap (by omega); omega
    have hd : w.drew.heap = w.heap := rfl
    simp [Builtin.append_, run_underlying ht, run_underlying htn, sizeOf, typeInfo, zeroValue, hi, hz, hs, hb, asInt, asIntOf, hw, hn, hneg, hk0, h48, h63, h48', hf w rfl, hf w.drew hd, hold w rfl, hold w.drew hd, Question.forced, hz8, Value.cells, Builtin.lenOf]
end Go.Proofs.YtfaojjleapenaabGreatDoor.wir.val
namespace Go.Proofs.YtfaojjleapenaabGreatDoor.wir.val.top
open Go.RowKit Go.YtfaojjleapenaabGreatDoor
set_option linter.unusedVariables false
def xO : Od := ⟨0, 0, [], 1, 3, ⟨#[120]⟩, ⟨0, 0, 0, ⟨#[]⟩⟩, 0, 0⟩
end Go.Proofs.YtfaojjleapenaabGreatDoor.wir.val.top
namespace Go.Proofs.YtfaojjleapenaabGreatDoor.wir.frm
open Go.RowKit Go.YtfaojjleapenaabGreatDoor
set_option linter.unusedVariables false
/-- A frame: its kind, its number, n ids (their bytes, one behind the other, are F), its strings. -/
structure Fr where
  k : Int
  N : Nat
  n : Nat
  F : List Int
  L : List (List Int)
abbrev Fr.c (f : Fr) (iv ov : Value) : Array Value := #[.int .u8 f.k, .int .u64 (f.N : Int), iv, ov]
structure Fr.Fit (f : Fr) : Prop where
  k : 0 ≤ f.k ∧ f.k < 256
  N : f.N < 18446744073709551616
  n : f.n ≤ 100000
  F : Bytes f.F
  len : f.F.length = 32 * f.n
  l : f.L.length ≤ 100000
  L : ∀ i, Bytes (nthL f.L i)
  s : ∀ i, (nthL f.L i).length ≤ 1000000
end Go.Proofs.YtfaojjleapenaabGreatDoor.wir.frm
namespace Go
namespace YtfaojjleapenaabGreatDoor
open RowKit
/-- The value 'v' is a slice of slices of bytes that reads as' 'L'. -/
def RdS (w : World) (v : Value) (L : List (List Int)) : Prop :=
  (∃ a c, v = .slice a 0 c ∧ (a = none → c = 0) ∧ L = []) ∨ ∃ b o c, v = .slice (some ⟨b, o, none⟩) L.length c ∧ L.length ≤ c ∧ c ≤ maxLen ∧ b < w.heap.size ∧ ∀ i, i < L.length → ∃ s, w.cell? ⟨b, o + i, none⟩ = some s ∧ RdB w s (nthL L i)
theorem RdS.mono {w w' : World} {v : Value} {L : List (List Int)} (h : RdS w v L) (hb : Below w.heap.size w w') : RdS w' v L := by
  rcases h with h | ⟨b, o, c, hv, h1, h2, h3, h4⟩
  · exact .inl h
  · refine .inr ⟨b, o, c, hv, h1, h2, Nat.lt_of_lt_of_le h3 hb.size, fun i hi => ?_⟩
    obtain ⟨s, hs, hr⟩ := h4 i hi
    exact ⟨s, (hb.cell (p := (⟨b, o + i, none⟩ : Addr)) h3).trans hs, hr.mono hb⟩
theorem RdS.slice {w : World} {v : Value} {L : List (List Int)} (h : RdS w v L) : ∃ a c, v = .slice a L.length c := by
  rcases h with ⟨a, c, rfl, _, rfl⟩ | ⟨b, o, c, hv, _⟩
  · exact ⟨a, c, rfl⟩
  · exact ⟨_, c, hv⟩
theorem RdS.at {w : World} {a : Option Addr} {n c : Nat} {L : List (List Int)} (h : RdS w (.slice a n c) L) (i : Nat) (hi : i < L.length) : ∃ b o, a = some ⟨b, o, none⟩ ∧ b < w.heap.size ∧ ∃ s, w.cell? ⟨b, o + i, none⟩ = some s ∧ RdB w s (nthL L i) := by
  rcases h with ⟨_, _, _, _, rfl⟩ | ⟨b, o, c', hv, h1, h2, h3, h4⟩
  · exact absurd hi (Nat.not_lt_zero _)
  · cases hv
    exact ⟨b, o, rfl, h3, h4 i hi⟩
theorem RdS.nil (w : World) : RdS w (.slice none 0 0) [] := .inl ⟨none, 0, rfl, fun _ => rfl, rfl⟩
/-- The value reads as' these strings in every world that has kept the blocks from 'base' on. -/
def HeldS (base : Nat) (w : World) (v : Value) (L : List (List Int)) : Prop := ∀ wx : World, (∀ k, base ≤ k → k < w.heap.size → wx.heap[k]? = w.heap[k]?) → w.heap.size ≤ wx.heap.size → RdS wx v L
theorem owns_kept {base : Nat} {e : TypeId} {size : Nat} {w w' : World} {v : Value} {n : Nat} {xs : List Value} (h : w.ownsRow base e size v n xs) (hb : Below w.heap.size w w') : w'.ownsRow base e size v n xs := by
  refine ⟨h.1, ?_⟩
  rcases h.2 with hn | ⟨g, cap, cur, rfl, hbg, hg, rest⟩
  · exact .inl hn
  · exact .inr ⟨g, cap, cur, rfl, hbg, (hb.block g (Array.getElem?_eq_some_iff.1 hg).1).trans hg, rest⟩
theorem owns_same {base : Nat} {e : TypeId} {size : Nat} {w w' : World} {v : Value} {n : Nat} {xs : List Value} (h : w.ownsRow base e size v n xs) (h1 : ∀ k, base ≤ k → k < w.heap.size → w'.heap[k]? = w.heap[k]?) : w'.ownsRow base e size v n xs := by
  refine ⟨h.1, ?_⟩
  rcases h.2 with hn | ⟨g, cap, cur, rfl, hbg, hg, rest⟩
  · exact .inl hn
  · exact .inr ⟨g, cap, cur, rfl, hbg, (h1 g hbg (Array.getElem?_eq_some_iff.1 hg).1).trans hg, rest⟩
/-- A slice of strings that is the call's own, each string too. -/
def OwnL (B : Nat) (T8 TS : TypeId) (w : World) (v : Value) (L : List (List Int)) : Prop :=
  ∃ vs : List Value, vs.length = L.length ∧ w.ownsRow B TS 1 v vs.length vs ∧ ∀ i, i < L.length → ∃ s, vs[i]? = some s ∧ OwnB B T8 w s (nthL L i)
theorem OwnL.nil (w : World) (B : Nat) (T8 TS : TypeId) : OwnL B T8 TS w (.slice none 0 0) [] := ⟨[], rfl, World.ownsRow_nil w B TS 1, fun i hi => absurd hi (Nat.not_lt_zero _)⟩
theorem OwnL.rd {B : Nat} {T8 TS : TypeId} {w : World} {v : Value} {L : List (List Int)} (h : OwnL B T8 TS w v L) : RdS w v L := by
  obtain ⟨vs, hl, ho, hs⟩ := h
  rcases ho.2 with ⟨rfl, h0⟩ | ⟨g, cap, cur, rfl, hb, hg, hn, hm, hz, ht⟩
  · exact .inl ⟨none, 0, rfl, fun _ => rfl, List.eq_nil_of_length_eq_zero (hl.symm.trans h0)⟩
  · refine .inr ⟨g, 0, cap, by rw [hl], by omega, hm, (Array.getElem?_eq_some_iff.1 hg).1, fun i hi => ?_⟩
    obtain ⟨s, h1, h2⟩ := hs i hi
    have hcell := World.ownsRow.cells (g := g) ho rfl i s h1
    rw [addr_add] at hcell
    exact ⟨s, hcell, h2.rd⟩
theorem OwnL.kept {B : Nat} {T8 TS : TypeId} {w w' : World} {v : Value} {L : List (List Int)} (h : OwnL B T8 TS w v L) (hb : Below w.heap.size w w') : OwnL B T8 TS w' v L := by
  obtain ⟨vs, hl, ho, hs⟩ := h
  refine ⟨vs, hl, owns_kept ho hb, fun i hi => ?_⟩
  obtain ⟨s, h1, h2⟩ := hs i hi
  exact ⟨s, h1, h2.kept hb⟩
theorem OwnL.mono {B B' : Nat} {T8 TS : TypeId} {w : World} {v : Value} {L : List (List Int)} (h : OwnL B T8 TS w v L) (hB : B' ≤ B) : OwnL B' T8 TS w v L := by
  obtain ⟨vs, hl, ho, hs⟩ := h
  refine ⟨vs, hl, ⟨ho.1, ?_⟩, fun i hi => ?_⟩
  · rcases ho.2 with hn | ⟨g, cap, cur, rfl, hbg, rest⟩
    · exact .inl hn
    · exact .inr ⟨g, cap, cur, rfl, Nat.le_trans hB hbg, rest⟩
  · obtain ⟨s, h1, h2⟩ := hs i hi
    exact ⟨s, h1, h2.mono hB⟩
theorem OwnL.held {B : Nat} {T8 TS : TypeId} {w : World} {v : Value} {L : List (List Int)} (h : OwnL B T8 TS w v L) : HeldS B w v L := fun wx h1 _ => by
  obtain ⟨vs, hl, ho, hs⟩ := h
  refine OwnL.rd (B := B) (T8 := T8) (TS := TS) ⟨vs, hl, owns_same ho h1, fun i hi => ?_⟩
  obtain ⟨s, k1, k2⟩ := hs i hi
  exact ⟨s, k1, owns_same k2 h1⟩
theorem OwnL.below {B : Nat} {T8 TS : TypeId} {w w' : World} {v : Value} {L : List (List Int)} (h : OwnL B T8 TS w v L) (hg : w.grownBy w' v.ownBlock) (hb : B ≤ w.heap.size) : Below B w w' := by
  obtain ⟨vs, hl, ho, hs⟩ := h
  exact Below.grown (Below.refl B w) hg hb (fun k hk => (World.ownsRow.lt ho k hk).1)
theorem OwnL.slice {B : Nat} {T8 TS : TypeId} {w : World} {v : Value} {L : List (List Int)} (h : OwnL B T8 TS w v L) : ∃ a c, v = .slice a L.length c := h.rd.slice
section
variable {P : Program}
end
end YtfaojjleapenaabGreatDoor
end Go
namespace Go.Proofs.YtfaojjleapenaabGreatDoor.wir.frm
open Go.RowKit Go.YtfaojjleapenaabGreatDoor
set_option linter.unusedVariables false
theorem rowB {B : Nat} {w w' : World} {g : Nat} {b : Obj} (h : w.heap[g]? = some b) (hb : Below B w w') (hg : g < B) : w'.heap[g]? = some b := by
  rw [hb.block g hg]; exact h
theorem below_a (w : World) (o : Obj) : Below w.heap.size w (w.alloc o) := (Below.refl _ _).alloc (Nat.le_refl _) o
end Go.Proofs.YtfaojjleapenaabGreatDoor.wir.frm
namespace Go.Proofs.YtfaojjleapenaabGreatDoor.wir.frm
open Go.RowKit Go.YtfaojjleapenaabGreatDoor
set_option linter.unusedVariables false
theorem ownNe {B : Nat} {E T : TypeId} {w : World} {v : Value} {l : List Int} (h : OwnB B E w v l) {g : Nat} {cs : Array Value} {fr : Nat × Nat} (hg : w.heap[g]? = some (.cells cs T fr)) (hT : T ≠ E) : some g ≠ v.ownBlock := by
  rcases h.2 with ⟨rfl, _⟩ | ⟨k, cap, cur, rfl, hb, hk, _⟩
  · intro e; cases e
  · intro e
    simp only [Value.ownBlock, Option.some.injEq] at e
    subst e
    rw [hg] at hk
    injection hk with hk
    injection hk with _ h2 _
    exact hT h2
theorem own_setCell {B : Nat} {E T : TypeId} {w : World} {v : Value} {l : List Int} (h : OwnB B E w v l) {g : Nat} {cs : Array Value} (hg : w.heap[g]? = some (.cells cs T (0, 0))) (hT : T ≠ E) (i : Nat) (x : Value) : OwnB B E (w.setCell ⟨g, i, none⟩ x) v l := by
  have hne := ownNe h hg hT
  rw [setCell_eq hg]
  refine ⟨h.1, ?_⟩
  rcases h.2 with hn | ⟨k, cap, cur, rfl, hb, hk, rest⟩
  · exact .inl hn
  · refine .inr ⟨k, cap, cur, rfl, hb, (setRow_other w g k _ ?_).trans hk, rest⟩
    intro e
    exact hne (by rw [← e]; rfl)
end Go.Proofs.YtfaojjleapenaabGreatDoor.wir.frm
namespace Go.Proofs.YtfaojjleapenaabGreatDoor.wir.frm
open Go.RowKit Go.YtfaojjleapenaabGreatDoor
set_option linter.unusedVariables false
theorem results_row_tmp2 {P : Program} {fn : Func} {p u v : Tmp} {ty : TypeId} (h : fn.results = #[.cell p ty, .tmp u, .tmp v]) (tmps : Array Value) (w : World) (g : Nat) (t : TypeId) (cs : Array Value) (fr : Nat × Nat) (d : TypeDesc)
    (hp : tmps.getD p undef = .pointer (some ⟨g, 0, none⟩)) (hg : w.heap[g]? = some (.cells cs t fr))
    (hu : P.underlying ty = some d) (hd : (match d with | .struct _ | .array _ _ => true | _ => false) = true) (hi : (P.info? ty).map (·.size) = some cs.size) :
    (results fn tmps).run P w = .ok (.tuple #[.agg cs, tmps.getD u undef, tmps.getD v undef]) w := by
  have hc : (results fn tmps).run P w =
      ((asAddr (tmps.getD p undef)).run P w).andThen fun a w₁ => ((loadVar ty a).run P w₁).andThen fun x w₂ => .ok (.tuple #[x, tmps.getD u undef, tmps.getD v undef]) w₂ := by
    simp only [results, h]
    simp [Sem.run_bind, Result.andThen]
  rw [hc, hp]
  have hl := run_loadVar_row (P := P) w g t ty cs fr d hg hu hd hi
  simp [asAddr, hl]
end Go.Proofs.YtfaojjleapenaabGreatDoor.wir.frm
namespace Go.Proofs.YtfaojjleapenaabGreatDoor.wir.frm
open Go.RowKit Go.YtfaojjleapenaabGreatDoor
set_option linter.unusedVariables false
theorem quiet_cell {P : Program} {C : World → Prop} {o : Oper} {a : Act} (ty : TypeId) (x : Operand) (ho : o.op = .load ty x) (g k : Nat) (hx : a.eval x = .pointer (some ⟨g, k, none⟩)) (v : Value)
    (hC : ∀ w, C w → w.cell? ⟨g, k, none⟩ = some v) (hu : ∀ w, (isAgg ty).run P w = .ok false w) : ∀ w, C w → o.quietAt P a C w v := by
  intro w hw
  have hc := hC w hw
  unfold Oper.quietAt execOp
  generalize a.eval = ev at *
  simp only [ho]
  simp [go_sem, hx, hu, hc]
end Go.Proofs.YtfaojjleapenaabGreatDoor.wir.frm
namespace Go.Proofs.YtfaojjleapenaabGreatDoor.wir.val.top
open Go.RowKit Go.YtfaojjleapenaabGreatDoor
set_option linter.unusedVariables false
theorem loadR {P : Program} {ops : Array Oper} {rest : List Oper} {o : Oper} {a : Act} {w : World} {Q : Exit → Act → World → Prop} (ty : TypeId) (x : Operand) (ho : o.op = .load ty x) (g : Nat) (hx : a.eval x = .pointer (some ⟨g, 0, none⟩)) (hw : Region.wanted o (yielded ops a.tmps) = true)
    (t : TypeId) (cs : Array Value) (fr : Nat × Nat) (d : TypeDesc) (hg : w.heap[g]? = some (.cells cs t fr))
    (hu : P.underlying ty = some d) (hd : (match d with | .struct _ | .array _ _ => true | _ => false) = true) (hi : (P.info? ty).map (·.size) = some cs.size)
    (h : wpList P ops Q rest (a.put o.dst (.agg cs)) w) : wpList P ops Q (o :: rest) a w := wpList_load_row_g hw ty x ho g hx t cs fr d hg hu hd hi h
theorem eqlR {P : Program} {ops : Array Oper} {rest : List Oper} {o : Oper} {a : Act} {w : World} {Q : Exit → Act → World → Prop} (T : TypeId) (x y : Operand) (ho : o.op = .binOp .eql T x y T) (cx cy : Array Value) (hx : a.eval x = .agg cx) (hy : a.eval y = .agg cy) (hw : Region.wanted o (yielded ops a.tmps) = true)
    (h0 : P.eqGuardType P.depth T = false) (B : Bool) (hrun : (binOp .eql T (.agg cx) (.agg cy)).run P w = .ok (.bool B) w) (h : wpList P ops Q rest (a.put o.dst (.bool B)) w) : wpList P ops Q (o :: rest) a w := wpList_eqlS hw T x y ho cx cy hx hy h0 B hrun h
theorem eql_idT (D E : List Int) (hD : D.length = 32) (hE : E.length = 32) (w : World) : (binOp .eql 43 (.agg (u8s D)) (.agg (u8s E))).run Tryz.prog w = .ok (.bool (decide (D = E))) w := by
  have he := run_equalArr (P := Tryz.prog) w 9998 43 5 32 Tryz.underlying43 Tryz.underlying5 (by kernel_rfl) D E hD hE
  simp [go_sem, he]
theorem id_guardT : Tryz.prog.eqGuardType Tryz.prog.depth 43 = false := by kernel_rfl
theorem judgeOf_noT (l : List Int) (bv : Value) (w : World) (hr : RdB w bv l) (hl : Bytes l) (hG0 : GlobW w) (h0 : vd l ≠ 0) :
    Calls Tryz.prog 9 #[bv] w fun e w' => ∃ (a : Option Addr) (c : Nat), e = .returned (.tuple #[.agg (zO.c (.slice a zO.n c)), .agg (u8s (zerosB 32)), .int .u8 (vd l)]) ∧ RdI w' (.slice a zO.n c) zO.n zO.F ∧ Below w.heap.size w w' := by
  refine (judgeOf_any l bv w hr hl hG0).mono ?_
  rintro e w' ⟨hb, ⟨_, he⟩ | ⟨o, a, c, hz, _⟩⟩
  · exact ⟨none, 0, he, .inl ⟨none, 0, rfl, fun _ => rfl, rfl, rfl⟩, hb⟩
  · exact absurd hz h0
end Go.Proofs.YtfaojjleapenaabGreatDoor.wir.val.top

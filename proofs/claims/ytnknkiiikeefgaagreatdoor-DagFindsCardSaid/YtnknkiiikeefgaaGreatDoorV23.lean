/- The reference's ReadBytes (as in the texts of layer 4, over fewer texts). The reference's Decode. -/
import Derived.Test.YtnknkiiikeefgaaGreatDoorV22
import Derived.Test.YtnknkiiikeefgaaGreatDoorV17
import Derived.Deep.CutBlock
namespace Go.Proofs.YtnknkiiikeefgaaGreatDoor.wir.val
open Go.RowKit Go.YtnknkiiikeefgaaGreatDoor
set_option linter.unusedVariables false
theorem own_nil (w : World) : OwnB w.heap.size 5 (w.alloc (.cells #[] 5)) (.slice (some ⟨w.heap.size, 0, none⟩) 0 0) [] :=
  ⟨rfl, .inr ⟨w.heap.size, 0, _, rfl, Nat.le_refl _, heap_alloc_new w _, Nat.le_refl _, by decide, rfl, rfl⟩⟩
theorem readC_none1 {l : List Int} {M : Nat} {size n u : Nat} (hre : readF l = some (n, u)) (h : readC l (M : Int) size = none) : ¬ ((n : Int) ≤ (M : Int) ∧ n ≤ (l.length - u) / size) := by
  intro hc
  unfold readC at h
  rw [hre] at h
  simp only [hc, and_self, if_true] at h
  cases h
end Go.Proofs.YtnknkiiikeefgaaGreatDoor.wir.val
namespace Go.Proofs.YtnknkiiikeefgaaGreatDoor.wir.val
open Go.RowKit Go.YtnknkiiikeefgaaGreatDoor
set_option linter.unusedVariables false
theorem chk_iff (k n : Int) (b : Nat) (s : ByteArray) : (chkE k n b s != 0) = !validV k n b s := by unfold chkE; cases validV k n b s <;> rfl
theorem dec_none {l : List Int} (h : decF l = none) : decR l = .tuple #[vA 0 0 0 ⟨#[]⟩, .int .i64 0, .int .i64 12] := by unfold decR; rw [h]
theorem dec_some {l : List Int} {v : Va} {u : Nat} (h : decF l = some (v, u)) : decR l = .tuple #[v.v, .int .i64 (u : Nat), .int .i64 0] := by unfold decR; rw [h]
theorem val_num (n : Int) : validV 1 n 0 ⟨#[]⟩ = true := by unfold validV; rw [if_pos rfl]; rfl
theorem val_flt (b : Nat) : validV 2 0 b ⟨#[]⟩ = decide (canF b = b) := by
  unfold validV
  rw [if_neg (by decide), if_pos rfl, show decide ((0 : Int) = 0) = true from rfl, show decide ((⟨#[]⟩ : ByteArray).size = 0) = true from rfl, Bool.true_and, Bool.and_true]
theorem val_txt (s : ByteArray) (hs : s.size ≤ 30) : validV 3 0 0 s = okB (sI s) := by
  unfold validV
  rw [if_neg (by decide), if_neg (by decide), if_pos rfl, show decide ((0 : Int) = 0) = true from rfl, show decide ((0 : Nat) = 0) = true from rfl, Bool.true_and, Bool.true_and, decide_eq_true hs, Bool.true_and]
theorem val_other {k : Int} (h1 : k ≠ 1) (h2 : k ≠ 2) (h3 : k ≠ 3) (n : Int) (b : Nat) (s : ByteArray) : validV k n b s = false := by
  unfold validV
  rw [if_neg h1, if_neg h2, if_neg h3]
/-- One field of a value is stored. -/
theorem set_n {w : World} {g : Nat} {k n : Int} {b : Nat} {s : ByteArray} (h : w.heap[g]? = some (.cells (vC k n b s) 29 (0, 0))) (n' : Int) : (w.setCell ⟨g, 1, none⟩ (.int .i64 n')).heap[g]? = some (.cells (vC k n' b s) 29 (0, 0)) := setCell_row h 1 _
theorem set_b {w : World} {g : Nat} {k n : Int} {b : Nat} {s : ByteArray} (h : w.heap[g]? = some (.cells (vC k n b s) 29 (0, 0))) (b' : Nat) : (w.setCell ⟨g, 2, none⟩ (.int .u64 (b' : Int))).heap[g]? = some (.cells (vC k n b' s) 29 (0, 0)) := setCell_row h 2 _
theorem set_s {w : World} {g : Nat} {k n : Int} {b : Nat} {s : ByteArray} (h : w.heap[g]? = some (.cells (vC k n b s) 29 (0, 0))) (s' : ByteArray) : (w.setCell ⟨g, 3, none⟩ (.string s')).heap[g]? = some (.cells (vC k n b s') 29 (0, 0)) := setCell_row h 3 _
theorem set_below {w0 w : World} {B g i : Nat} {v : Value} {k n : Int} {b : Nat} {s : ByteArray} (h : w.heap[g]? = some (.cells (vC k n b s) 29 (0, 0))) (hB : Below B w0 w) (hg : B ≤ g) : Below B w0 (w.setCell ⟨g, i, none⟩ v) := by
  rw [setCell_eq h]; exact below_setRow' hB hg _
/-- What the part behind the kind must have left. -/
structure Part (l : List Int) (K N : Int) (b : Nat) (s : ByteArray) (U E : Int) : Prop where
  u : -1 ≤ U ∧ U ≤ 2000000
  hb : b < 18446744073709551616
  hs : s.size ≤ 1000000
  e : decR l = if E = 0 ∧ U + 1 ≤ (l.length : Int) ∧ validV K N b s = true then .tuple #[vA K N b s, .int .i64 (U + 1), .int .i64 0] else .tuple #[vA 0 0 0 ⟨#[]⟩, .int .i64 0, .int .i64 12]
theorem decF_step {l : List Int} (h : l.length ≠ 0) : decF l = match decP (ith l 0) (l.drop 1) with | none => none | some p => some (p.1, 1 + p.2) := by
  unfold decF; rw [if_neg h]; rfl
theorem part_num (l : List Int) (hb : Bytes (l.drop 1)) (hd : decF l = match decP 1 (l.drop 1) with | none => none | some p => some (p.1, 1 + p.2)) (h0 : l.length ≠ 0) (hm : l.length ≤ 1000) :
    Part l 1 (unfoldN (rdN (l.drop 1))) 0 ⟨#[]⟩ (rdU (l.drop 1) : Nat) (rdE (l.drop 1)) := by
  have hL : (l.drop 1).length + 1 = l.length := by rw [List.length_drop]; omega
  cases h : readF (l.drop 1) with
  | none =>
    obtain ⟨e1, e2, e3⟩ := rd_none h
    rw [e1, e2, e3]
    have hF : decF l = none := by rw [hd]; unfold decP; rw [if_pos rfl, h]
    exact ⟨⟨by decide, by decide⟩, by decide, by decide, by rw [dec_none hF, if_neg (by simp)]⟩
  | some p =>
    obtain ⟨n, u⟩ := p
    obtain ⟨e1, e2, e3⟩ := rd_some h
    have hu := (readF_some hb h).2.2.1
    rw [e1, e2, e3]
    have hF : decF l = some (⟨1, unfoldN n, 0, ⟨#[]⟩⟩, 1 + u) := by rw [hd]; unfold decP; rw [if_pos rfl, h]
    refine ⟨⟨by omega, by omega⟩, by decide, by decide, ?_⟩
    rw [dec_some hF, if_pos ⟨rfl, by omega, val_num _⟩, show ((1 + u : Nat) : Int) = (u : Int) + 1 by omega]
theorem part_flt (l : List Int) (hb : Bytes (l.drop 1)) (hd : decF l = match decP 2 (l.drop 1) with | none => none | some p => some (p.1, 1 + p.2)) (h0 : l.length ≠ 0) (m : Nat) (hm : m = min 8 (l.drop 1).length) :
    Part l 2 0 (valN (l.drop 1) m) ⟨#[]⟩ 8 0 := by
  have hL : (l.drop 1).length + 1 = l.length := by rw [List.length_drop]; omega
  have h64 := valN_lt64 (l.drop 1) hb m (by omega)
  refine ⟨⟨by decide, by decide⟩, h64, by decide, ?_⟩
  by_cases h8 : (l.drop 1).length < 8
  · have hF : decF l = none := by rw [hd]; unfold decP; rw [if_neg (by decide), if_pos rfl, if_pos h8]
    rw [dec_none hF, if_neg (by omega)]
  · obtain rfl : m = 8 := by omega
    by_cases hc : canF (valN (l.drop 1) 8) = valN (l.drop 1) 8
    · have hF : decF l = some (⟨2, 0, valN (l.drop 1) 8, ⟨#[]⟩⟩, 1 + 8) := by rw [hd]; unfold decP; rw [if_neg (by decide), if_pos rfl, if_neg h8, if_pos hc]
      rw [dec_some hF, if_pos ⟨rfl, by omega, by rw [val_flt, decide_eq_true hc]⟩]; rfl
    · have hF : decF l = none := by rw [hd]; unfold decP; rw [if_neg (by decide), if_pos rfl, if_neg h8, if_neg hc]
      rw [dec_none hF, if_neg (by rw [val_flt, decide_eq_false hc]; simp)]
theorem part_txt0 (l : List Int) (hd : decF l = match decP 3 (l.drop 1) with | none => none | some p => some (p.1, 1 + p.2)) (h : readC (l.drop 1) 30 1 = none) :
    Part l 3 0 0 (toS []) 0 12 := by
  have hF : decF l = none := by rw [hd]; unfold decP; rw [if_neg (by decide), if_neg (by decide), if_pos rfl, h]
  exact ⟨⟨by decide, by decide⟩, by decide, by decide, by rw [dec_none hF, if_neg (by simp)]⟩
theorem part_txt (l : List Int) (hb : Bytes (l.drop 1)) (hd : decF l = match decP 3 (l.drop 1) with | none => none | some p => some (p.1, 1 + p.2)) (h0 : l.length ≠ 0) (hm : l.length ≤ 1000) (n u : Nat) (h : readC (l.drop 1) 30 1 = some (n, u)) :
    Part l 3 0 0 (toS (((l.drop 1).drop u).take n)) ((u + n : Nat) : Int) 0 := by
  have hL : (l.drop 1).length + 1 = l.length := by rw [List.length_drop]; omega
  obtain ⟨g1, g2, g3⟩ := readC_some h
  have hu := (readF_some hb g1).2.2.1
  rw [Nat.div_one] at g3
  have hs := toS_size (((l.drop 1).drop u).take n)
  have hl2 : (((l.drop 1).drop u).take n).length ≤ 30 := by rw [List.length_take]; omega
  have hdP : decP 3 (l.drop 1) = if txtE (toS (((l.drop 1).drop u).take n)) = 0 then some (⟨3, 0, 0, toS (((l.drop 1).drop u).take n)⟩, u + n) else none := by unfold decP; rw [if_neg (by decide), if_neg (by decide), if_pos rfl, h]
  generalize toS (((l.drop 1).drop u).take n) = s at *
  rw [hdP] at hd
  have hE : txtE s = if okB (sI s) = true then 0 else 8 := by unfold txtE; rw [if_neg (by omega)]
  refine ⟨⟨by omega, by omega⟩, by decide, by omega, ?_⟩
  rw [val_txt s (by omega)]
  cases ho : okB (sI s)
  · rw [ho] at hE
    have hF : decF l = none := by rw [hd, hE]; rfl
    rw [dec_none hF, if_neg (by simp)]
  · rw [ho] at hE
    have hF : decF l = some (⟨3, 0, 0, s⟩, 1 + (u + n)) := by rw [hd, hE]; rfl
    rw [dec_some hF, if_pos ⟨rfl, by omega, rfl⟩, show ((1 + (u + n) : Nat) : Int) = ((u + n : Nat) : Int) + 1 by omega]
theorem part_other (l : List Int) (K : Int) (hd : decF l = match decP K (l.drop 1) with | none => none | some p => some (p.1, 1 + p.2)) (h1 : K ≠ 1) (h2 : K ≠ 2) (h3 : K ≠ 3) : Part l K 0 0 ⟨#[]⟩ 0 0 := by
  have hF : decF l = none := by rw [hd]; unfold decP; rw [if_neg h1, if_neg h2, if_neg h3]
  exact ⟨⟨by decide, by decide⟩, by decide, by decide, by rw [dec_none hF, if_neg (by rw [val_other h1 h2 h3]; simp)]⟩
end Go.Proofs.YtnknkiiikeefgaaGreatDoor.wir.val

/- The maths of reading a value. -/
import Derived.Test.YtnknkiiikeefgaaGreatDoorV12
import Derived.Test.YtnknkiiikeefgaaGreatDoorW02
import Derived.Laws.BytesString
namespace Go.Proofs.YtnknkiiikeefgaaGreatDoor.wir.val
open Go.RowKit Go.YtnknkiiikeefgaaGreatDoor
set_option linter.unusedVariables false
def toS (l : List Int) : ByteArray := l.foldl (fun r n => r.push (UInt8.ofNat n.toNat)) ByteArray.empty
theorem toS_data : ∀ (l : List Int) (s : ByteArray), (l.foldl (fun r n => r.push (UInt8.ofNat n.toNat)) s).data.toList = s.data.toList ++ l.map fun n => UInt8.ofNat n.toNat
  | [], s => by simp
  | x :: l, s => by
    rw [List.foldl_cons, toS_data l]
    simp [ByteArray.push]
theorem toS_list (l : List Int) : (toS l).data.toList = l.map fun n => UInt8.ofNat n.toNat := by
  unfold toS
  rw [toS_data]
  rfl
theorem sI_toS (l : List Int) (hl : Bytes l) : sI (toS l) = l := by
  unfold sI
  rw [toS_list, List.map_map]
  induction l with
  | nil => rfl
  | cons x l ih =>
    obtain ⟨h1, h2⟩ := bytes_cons hl
    rw [List.map_cons, ih h2]
    congr 1
    show ((UInt8.ofNat x.toNat).toNat : Int) = x
    rw [UInt8.toNat_ofNat']
    omega
theorem toS_sI (s : ByteArray) : toS (sI s) = s := by
  have h : (toS (sI s)).data.toList = s.data.toList := by
    rw [toS_list]
    unfold sI
    rw [List.map_map]
    have e : ((fun n : Int => UInt8.ofNat n.toNat) ∘ fun c : UInt8 => (c.toNat : Int)) = id := by
      funext c
      show UInt8.ofNat ((c.toNat : Int)).toNat = c
      rw [Int.toNat_natCast, UInt8.ofNat_toNat]
    rw [e, List.map_id]
  cases hs : s with | mk d => cases ht : toS (sI s) with | mk d' =>
    rw [ht, hs] at h
    rw [hs] at ht
    rw [ht]
    simp only [ByteArray.mk.injEq]
    exact Array.ext' h
theorem toS_size (l : List Int) : (toS l).size = l.length := by
  have h := congrArg List.length (toS_list l)
  rw [List.length_map] at h
  exact h
theorem run_toS {P : Program} {w : World} {v : Value} {l : List Int} (h : RdB w v l) (src dst e : TypeId)
    (hs : P.underlying src = some (.slice e)) (he : P.underlying e = some (.int .u8)) (hd : P.underlying dst = some .string) : (convert src dst v).run P w = .ok (.string (toS l)) w := by
  obtain ⟨a, c, rfl⟩ := h.slice
  rw [run_convert_bytes_string w src dst e a l.length c hs he hd]
  rcases h with ⟨sa, sc, hsv, hsn, rfl⟩ | ⟨b, o, c', hv, h1, h2, h3, h4⟩
  · cases a with
    | none => rfl
    | some a =>
      have := run_bytesToString (P := P) w a 0 c [] (by rfl)
      simpa [toS] using this
  · cases hv
    have hL := run_loadCells_list (P := P) w ⟨b, o, none⟩ (u8v l) (fun j v hv => by
      have hj : j < l.length := by
        have := (List.getElem?_eq_some_iff.1 hv).1
        rwa [u8v_length] at this
      rw [addr_add]
      have := h4 j hj
      rw [this, ← hv, u8v_get _ _ hj])
    rw [u8v_length] at hL
    exact run_bytesToString w _ _ _ l hL
def decP (k : Int) (l : List Int) : Option (Va × Nat) :=
  if k = 1 then (match readF l with | none => none | some p => some (⟨1, unfoldN p.1, 0, ⟨#[]⟩⟩, p.2))
  else if k = 2 then (if l.length < 8 then none else if canF (valN l 8) = valN l 8 then some (⟨2, 0, valN l 8, ⟨#[]⟩⟩, 8) else none)
  else if k = 3 then (match readC l 30 1 with | none => none | some p => if txtE (toS ((l.drop p.2).take p.1)) = 0 then some (⟨3, 0, 0, toS ((l.drop p.2).take p.1)⟩, p.2 + p.1) else none)
  else none
def decF (l : List Int) : Option (Va × Nat) :=
  if l.length = 0 then none else match decP (ith l 0) (l.drop 1) with | none => none | some p => some (p.1, 1 + p.2)
theorem nil_of_size {s : ByteArray} (h : s.size = 0) : s = ⟨#[]⟩ := by
  cases s with | mk a => simp only [ByteArray.mk.injEq]; exact Array.eq_empty_of_size_eq_zero h
theorem decP_some {k : Int} {l : List Int} (hl : Bytes l) {v : Va} {u : Nat} (h : decP k l = some (v, u)) :
    v.fit ∧ v.ok = true ∧ u ≤ l.length ∧ encB v.k v.n v.b v.s = k :: l.take u := by
  unfold decP at h
  split at h
  · rename_i hk; subst hk
    split at h
    · cases h
    · rename_i p hp
      cases h
      obtain ⟨n, u⟩ := p
      obtain ⟨h1, h2, h3, h4⟩ := readF_some hl hp
      refine ⟨(show VFit 1 (unfoldN n) 0 ⟨#[]⟩ from ⟨by decide, unfold_in n h1, by decide, by decide⟩), ?_, h3, ?_⟩
      · exact (by unfold validV; rw [if_pos rfl]; rfl : validV 1 (unfoldN n) 0 ⟨#[]⟩ = true)
      · show encB 1 (unfoldN n) 0 ⟨#[]⟩ = 1 :: l.take u
        unfold encB
        rw [if_pos rfl, fold_unfold, h4]
  split at h
  · rename_i hk; subst hk
    split at h
    · cases h
    · rename_i h8
      split at h
      · rename_i hc
        cases h
        have hb := valN_lt64 l hl 8 (by decide)
        refine ⟨(show VFit 2 0 (valN l 8) ⟨#[]⟩ from ⟨by decide, by decide, hb, by decide⟩), ?_, by omega, ?_⟩
        · show validV 2 0 (valN l 8) ⟨#[]⟩ = true
          unfold validV
          rw [if_neg (by decide), if_pos rfl, hc]
          simp; rfl
        · show encB 2 0 (valN l 8) ⟨#[]⟩ = 2 :: l.take 8
          unfold encB
          rw [if_neg (by decide), if_pos rfl]
          congr 1
          have hb8 : Bytes (l.take 8) := by
            intro i
            rcases Nat.lt_or_ge i 8 with hi | hi
            · rw [ith_take _ _ _ hi]; exact hl i
            · rw [ith_over _ _ (by rw [List.length_take]; omega)]; decide
          have e : valN l 8 = valN (l.take 8) 8 := valN_congr _ _ _ (fun i hi => (ith_take _ _ _ hi).symm)
          rw [e]
          exact be_valN _ hb8 8 (by rw [List.length_take]; omega)
      · cases h
  split at h
  · rename_i hk; subst hk
    split at h
    · cases h
    · rename_i p hp
      obtain ⟨n, u1⟩ := p
      simp only at h
      split at h
      · rename_i ht
        cases h
        obtain ⟨g1, g2, g3⟩ := readC_some hp
        obtain ⟨h1, h2, h3, h4⟩ := readF_some hl g1
        have hlen : ((l.drop u1).take n).length = n := by rw [List.length_take, List.length_drop]; omega
        have hbR : Bytes ((l.drop u1).take n) := by
          intro i
          rcases Nat.lt_or_ge i n with hi | hi
          · rw [ith_take _ _ _ hi, ith_drop]; exact hl _
          · rw [ith_over _ _ (by rw [hlen]; omega)]; decide
        have hsz := toS_size ((l.drop u1).take n)
        have hsI := sI_toS _ hbR
        have htk : l.take (u1 + n) = l.take u1 ++ (l.drop u1).take n := by rw [List.take_add]
        generalize (l.drop u1).take n = R at *
        refine ⟨(show VFit 3 0 0 (toS R) from ⟨by decide, by decide, by decide, by rw [hsz, hlen]; omega⟩), ?_, by omega, ?_⟩
        · show validV 3 0 0 (toS R) = true
          unfold txtE at ht
          split at ht
          · cases ht
          · split at ht
            · rename_i q1 q2
              unfold validV
              rw [if_neg (by decide), if_neg (by decide), if_pos rfl, q2]
              simp; omega
            · cases ht
        · show encB 3 0 0 (toS R) = 3 :: l.take (u1 + n)
          unfold encB textB
          rw [if_neg (by decide), if_neg (by decide), hsI, hlen, htk, h4]
      · cases h
  · cases h
theorem decF_some {l : List Int} (hl : Bytes l) {v : Va} {u : Nat} (h : decF l = some (v, u)) :
    v.fit ∧ v.ok = true ∧ 1 ≤ u ∧ u ≤ l.length ∧ encB v.k v.n v.b v.s = l.take u := by
  unfold decF at h
  split at h
  · cases h
  · rename_i h0
    split at h
    · cases h
    · rename_i p hp
      obtain ⟨v', u'⟩ := p
      cases h
      obtain ⟨h1, h2, h3, h4⟩ := decP_some (bytes_drop _ _ hl) hp
      rw [List.length_drop] at h3
      refine ⟨h1, h2, by omega, by omega, ?_⟩
      rw [h4]
      cases l with
      | nil => simp at h0
      | cons x l => rw [ith_cons_zero, List.drop_one, List.tail_cons, Nat.add_comm, List.take_succ_cons]
theorem decF_enc (k n : Int) (b : Nat) (s : ByteArray) (fv : VFit k n b s) (hv : validV k n b s = true) (t : List Int) : decF (encB k n b s ++ t) = some (⟨k, n, b, s⟩, (encB k n b s).length) := by
  have hk := valid_kind hv
  rcases (show k = 1 ∨ k = 2 ∨ k = 3 by omega) with rfl | rfl | rfl
  · unfold validV at hv
    rw [if_pos rfl] at hv
    simp only [Bool.and_eq_true, decide_eq_true_eq] at hv
    obtain ⟨rfl, hs⟩ := hv
    have hs := nil_of_size hs
    subst hs
    have e : encB 1 n 0 ⟨#[]⟩ = 1 :: numB (foldN n) := rfl
    rw [e, List.cons_append]
    unfold decF
    rw [if_neg (by simp), ith_cons_zero, List.drop_one, List.tail_cons]
    unfold decP
    rw [if_pos rfl, readF_num _ (fold_lt n fv.n)]
    simp only [unfold_fold, List.length_cons, numB_length, Nat.add_comm]
  · unfold validV at hv
    rw [if_neg (by decide), if_pos rfl] at hv
    simp only [Bool.and_eq_true, decide_eq_true_eq] at hv
    obtain ⟨rfl, hc, hs⟩ := hv
    have hs := nil_of_size hs
    subst hs
    have e : encB 2 0 b ⟨#[]⟩ = 2 :: be 8 b := rfl
    rw [e, List.cons_append]
    unfold decF
    rw [if_neg (by simp), ith_cons_zero, List.drop_one, List.tail_cons]
    unfold decP
    have hval : valN (be 8 b ++ t) 8 = b := by
      rw [valN_congr _ (be 8 b) _ (fun i hi => by rw [ith_append, if_pos (by rw [be_length]; exact hi)])]
      exact valN_be_all 8 b (by have := fv.b; omega)
    rw [if_neg (by decide), if_pos rfl, if_neg (by rw [List.length_append, be_length]; omega), hval, if_pos hc]
    simp [be_length]
  · unfold validV at hv
    rw [if_neg (by decide), if_neg (by decide), if_pos rfl] at hv
    simp only [Bool.and_eq_true, decide_eq_true_eq] at hv
    obtain ⟨rfl, rfl, hs, ho⟩ := hv
    have e : encB 3 0 0 s = 3 :: (numB s.size ++ sI s) := by
      show 3 :: textB (sI s) = _
      unfold textB; rw [sI_length]
    rw [e, List.cons_append]
    unfold decF
    rw [if_neg (by simp), ith_cons_zero, List.drop_one, List.tail_cons]
    unfold decP
    have hC : readC (numB s.size ++ sI s ++ t) 30 1 = some (s.size, numL s.size) := by
      unfold readC
      rw [List.append_assoc, readF_num _ (by omega)]
      simp only
      rw [if_pos]
      refine ⟨by omega, ?_⟩
      rw [Nat.div_one, List.length_append, List.length_append, numB_length, sI_length]; omega
    have hd : ((numB s.size ++ sI s ++ t).drop (numL s.size)).take s.size = sI s := by
      rw [List.append_assoc, List.drop_append_of_le_length (by rw [numB_length]; omega), List.drop_of_length_le (by rw [numB_length]; omega), List.nil_append]
      rw [List.take_append_of_le_length (by rw [sI_length]; omega), List.take_of_length_le (by rw [sI_length]; omega)]
    rw [if_neg (by decide), if_neg (by decide), if_pos rfl, hC]
    simp only [hd, toS_sI]
    have hE : txtE s = 0 := by unfold txtE; rw [if_neg (by omega), if_pos ho]
    rw [if_pos hE]
    simp only [List.length_cons, List.length_append, numB_length, sI_length, Nat.add_comm]
end Go.Proofs.YtnknkiiikeefgaaGreatDoor.wir.val

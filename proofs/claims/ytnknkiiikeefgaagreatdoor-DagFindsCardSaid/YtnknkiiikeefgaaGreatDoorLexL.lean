/- A cheaper check that a region's operations can be taken in the text's order. -/
import Derived.Deep.Quiet
namespace Go.Proofs.YtnknkiiikeefgaaGreatDoor
open Go
/-- The same as Region.lexFrom from the k-th operation on, without the array of marks. -/
def lexL (md : Region.Mode) (ops : Array Oper) : List Oper → Nat → Bool
  | [], _ => true
  | o :: rest, k => (o.after.all fun e => !Region.binds md e || decide (e.on < k)) &&
      (rest.all fun oj => oj.after.any (fun e => Region.binds md e && e.on == k) || o.apart ops oj) && lexL md ops rest (k + 1)
theorem lexFrom_of_lexL {md : Region.Mode} {ops : Array Oper} : ∀ (l : List Oper) (k : Nat) (listed : Array Bool), k + l.length = ops.size → (∀ j, l[j]? = ops[k + j]?) →
    (∀ j d, j < ops.size → listed.getD j d = decide (j < k)) → lexL md ops l k = true → Region.lexFrom md ops l.length k listed = true
  | [], k, listed, hk, _, hm, _ => by
    simp only [List.length_nil, Nat.add_zero] at hk
    simp only [List.length_nil, Region.lexFrom, Region.ready, List.isEmpty_iff, List.filter_eq_nil_iff, List.mem_range]
    intro i hi
    simp [hm i true hi, hk ▸ hi]
  | o :: l, k, listed, hk, hl, hm, h => by
    simp only [List.length_cons] at hk
    have h0 : ops[k]? = some o := by simpa using (hl 0).symm
    have hkn : k < ops.size := by omega
    simp only [lexL, Bool.and_eq_true] at h
    obtain ⟨⟨ha, hf⟩, hr⟩ := h
    simp only [List.length_cons, Region.lexFrom, Bool.and_eq_true]
    refine ⟨⟨?_, ?_⟩, ?_⟩
    · simp only [Region.ready, List.contains_eq_mem, decide_eq_true_eq, List.mem_filter, List.mem_range]
      refine ⟨hkn, ?_⟩
      rw [hm k true hkn]
      simp only [Nat.lt_irrefl, decide_false, Bool.not_false, Bool.true_and, h0, Option.map_some, Option.getD_some]
      rw [Array.all_eq_true_iff_forall_mem] at ha ⊢
      intro e he
      have := ha e he
      simp only [Bool.or_eq_true, decide_eq_true_eq] at this ⊢
      rcases this with h1 | h1
      · exact Or.inl h1
      · refine Or.inr ?_
        rw [hm e.on false (by omega)]
        simpa using h1
    · simp only [Region.free, h0, List.all_eq_true, List.mem_range]
      intro j hj
      rcases Nat.lt_trichotomy j k with hjk | hjk | hjk
      · simp [hm j true hj, hjk]
      · simp [hjk]
      · have hj' : l[j - (k + 1)]? = ops[j]? := by
          have := hl (j - k)
          have e1 : j - k = (j - (k + 1)) + 1 := by omega
          rw [e1] at this
          simp only [List.getElem?_cons_succ] at this
          rw [this]; congr 1; omega
        have hs : ops[j]? = some ops[j] := Array.getElem?_eq_getElem hj
        have hm' : ops[j] ∈ l := List.mem_of_getElem? (hj'.trans hs)
        have := List.all_eq_true.1 hf _ hm'
        simp only [hs]
        simp only [Bool.or_eq_true] at this ⊢
        exact Or.inr this
    · refine lexFrom_of_lexL l (k + 1) _ (by omega) (fun j => by have := hl (j + 1); simpa [Nat.add_assoc, Nat.add_comm 1 j] using this) (fun j d hj => ?_) hr
      by_cases hjk : j = k
      · subst hjk
        have hsz : j < listed.size := by
          rcases Nat.lt_or_ge j listed.size with h1 | h1
          · exact h1
          · have t1 := hm j true hj
            have t2 := hm j false hj
            simp [Array.getD, Nat.not_lt.2 h1] at t1 t2
        simp [Array.getD, hsz]
      · have := hm j d hj
        rw [show decide (j < k + 1) = decide (j < k) by simp; omega, ← this]
        simp only [Array.getD, Array.size_setIfInBounds]
        split
        · exact Array.getElem_setIfInBounds_ne _ (fun e => hjk e.symm)
        · rfl
theorem lexB_of_lexL {md : Region.Mode} {ops : Array Oper} (hs : Region.noSelect ops = true) (h : lexL md ops ops.toList 0 = true) : Region.lexB md ops = true := by
  simp only [Region.lexB, hs, Bool.true_and]
  have := lexFrom_of_lexL ops.toList 0 (Array.replicate ops.size false) (by simp) (by simp) (fun j d hj => by simp [Array.getD, hj]) h
  simpa using this
end Go.Proofs.YtnknkiiikeefgaaGreatDoor

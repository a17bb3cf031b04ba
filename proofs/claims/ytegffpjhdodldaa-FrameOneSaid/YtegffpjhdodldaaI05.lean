/- WireIDs' walk. -/
import Derived.Test.YtegffpjhdodldaaI04
namespace Go.Proofs.Ytegffpjhdodldaa
open Go.RowKit Go.Ytegffpjhdodldaa
set_option linter.unusedVariables false
theorem readC_list (F b : List Int) (n : Nat) (hF : F.length = 32 * n) (hn : n ≤ 60) : readC ((numB n ++ F) ++ b) 60 32 = some (n, numL n) := by
  have h := readF_num n (by omega) (F ++ b)
  rw [← List.append_assoc] at h
  unfold readC
  rw [h]
  have h2 : ((n : Nat) : Int) ≤ 60 ∧ n ≤ (((numB n ++ F) ++ b).length - numL n) / 32 := by
    refine ⟨by omega, ?_⟩
    rw [List.length_append, List.length_append, numB_length]; omega
  simp only [h2, and_self, if_true]
theorem list_part (F b : List Int) (n : Nat) (hF : F.length = 32 * n) : (((numB n ++ F) ++ b).drop (numL n)).take (n * 32) = F := by
  rw [List.append_assoc, List.drop_left' (numB_length _), List.take_left' (by rw [hF]; omega)]
theorem readC_cutI (F : List Int) (n : Nat) (hF : F.length = 32 * n) (hn : n ≤ 60) : readC ((numB n ++ F).take (numL n + 32 * n - 1)) 60 32 = none := by
  by_cases h0 : n = 0
  · subst h0
    obtain rfl : F = [] := List.eq_nil_of_length_eq_zero (by omega)
    rfl
  · have h1 : (numB n ++ F).take (numL n + 32 * n - 1) = numB n ++ F.take (32 * n - 1) := by
      rw [List.take_append, numB_length, List.take_of_length_le (by rw [numB_length]; omega)]
      congr 2; omega
    rw [h1]
    unfold readC
    rw [readF_num n (by omega)]
    have h2 : ¬ ((n : Int) ≤ 60 ∧ n ≤ ((numB n ++ F.take (32 * n - 1)).length - numL n) / 32) := by
      rw [List.length_append, numB_length, List.length_take]; omega
    simp only [h2, if_false]
theorem readC_backI {b : List Int} (hb : Bytes b) {n u : Nat} (h : readC b 60 32 = some (n, u)) : b.take (u + n * 32) = numB n ++ (b.drop u).take (n * 32) ∧ ((b.drop u).take (n * 32)).length = 32 * n ∧ 1 ≤ u ∧ u + n * 32 ≤ b.length ∧ n ≤ 60 := by
  obtain ⟨h1, h2, h3⟩ := readC_some h
  obtain ⟨a1, a2, a3, a4⟩ := readF_some hb h1
  have hlen : ((b.drop u).take (n * 32)).length = 32 * n := by rw [List.length_take, List.length_drop]; omega
  refine ⟨?_, hlen, by rw [a2]; exact numL_pos n, by omega, by omega⟩
  rw [← a4, List.take_add]
/-- What ReadIDs answers to any bytes. -/
def AnsNo (w : World) (bv : Value) : Prop := ∀ wi, Below w.heap.size w wi → Calls Try.prog 49 #[bv, .int .i64 60] wi fun e w' => e = .returned (.tuple #[.slice none 0 0, .int .i64 0, .int .i64 12]) ∧ Below wi.heap.size wi w'
structure AnsYes (w : World) (bv : Value) (b : List Int) (n V : Nat) (F : List Int) : Prop where
  len : F.length = 32 * n
  byt : Bytes F
  n60 : n ≤ 60
  rise : riseF F n = true
  tak : b.take V = numB n ++ F
  pos : 1 ≤ V
  le : V ≤ b.length
  ans : ∀ wi, Below w.heap.size w wi → Calls Try.prog 49 #[bv, .int .i64 60] wi fun e w' => e = .returned (.tuple #[.slice (some ⟨wi.heap.size, 0, none⟩) n n, .int .i64 (V : Nat), .int .i64 0]) ∧ w'.heap[wi.heap.size]? = some (.cells (u8s F) 58 (0, 0)) ∧ Below wi.heap.size wi w'
theorem readIDs_ans (b : List Int) (bv : Value) (w : World) (hr : RdB w bv b) (hb : Bytes b) (hl : b.length ≤ 1000000) : AnsNo w bv ∨ ∃ n V F, AnsYes w bv b n V F := by
  cases hc : readC b 60 32 with
  | none => exact .inl fun wi hw => (readIDs_no b bv 60 (by omega) (by omega) wi (hr.mono hw) hb hl hc).mono fun e w' ⟨h1, h2⟩ => ⟨h1, by subst h2; exact Below.refl _ _⟩
  | some p =>
    obtain ⟨n, u⟩ := p
    obtain ⟨d1, d2, d3, d4, d5⟩ := readC_backI hb hc
    have hok := fun wi (hw : Below w.heap.size w wi) => readIDs_ok b bv 60 (by omega) (by omega) wi (hr.mono hw) hb hl n u hc
    cases hri : riseF ((b.drop u).take (n * 32)) n with
    | false =>
      exact .inl fun wi hw => (hok wi hw).mono fun e w' h => by
        unfold readIDsPost at h
        rw [if_neg (by rw [hri]; decide)] at h
        exact ⟨h.2, h.1⟩
    | true =>
      exact .inr ⟨n, u + n * 32, _, d2, bytes_take _ _ (bytes_drop b u hb), d5, hri, d1, by omega, d4, fun wi hw => (hok wi hw).mono fun e w' h => by
        unfold readIDsPost at h
        rw [if_pos hri] at h
        exact ⟨h.2.1, h.2.2, h.1⟩⟩
/-- For a list that increases: what reading its bytes gives back. -/
theorem readIDs_back (F b : List Int) (n : Nat) (hF : F.length = 32 * n) (hFb : Bytes F) (hb : Bytes b) (hn : n ≤ 60) (hri : riseF F n = true) (hl : b.length ≤ 2000) (v : Value) (w : World) (hr : RdB w v ((numB n ++ F) ++ b)) :
    Calls Try.prog 49 #[v, .int .i64 60] w fun e w' => e = .returned (.tuple #[.slice (some ⟨w.heap.size, 0, none⟩) n n, .int .i64 ((numL n + 32 * n : Nat) : Int), .int .i64 0]) ∧ w'.heap[w.heap.size]? = some (.cells (u8s F) 58 (0, 0)) ∧ Below w.heap.size w w' := by
  have h := readIDs_ok ((numB n ++ F) ++ b) v 60 (by omega) (by omega) w hr (bytes_append _ _ (bytes_append _ _ (numB_bytes n (by omega)) hFb) hb) (by rw [List.length_append, List.length_append, numB_length, hF]; have := numL_le n (by omega); omega) n (numL n) (readC_list F b n hF hn)
  rw [list_part F b n hF] at h
  refine h.mono fun e w' h => ?_
  unfold readIDsPost at h
  rw [if_pos hri] at h
  refine ⟨?_, h.2.2, h.1⟩
  rw [h.2.1, Nat.mul_comm n 32]
theorem readIDs_cut (F : List Int) (n : Nat) (hF : F.length = 32 * n) (hFb : Bytes F) (hn : n ≤ 60) (v : Value) (w : World) (hr : RdB w v ((numB n ++ F).take (numL n + 32 * n - 1))) :
    Calls Try.prog 49 #[v, .int .i64 60] w fun e w' => e = .returned (.tuple #[.slice none 0 0, .int .i64 0, .int .i64 12]) ∧ w = w' :=
  readIDs_no _ v 60 (by omega) (by omega) w hr (bytes_take _ _ (bytes_append _ _ (numB_bytes n (by omega)) hFb)) (by rw [List.length_take, List.length_append, numB_length, hF]; have := numL_le n (by omega); omega) (readC_cutI F n hF hn)
end Go.Proofs.Ytegffpjhdodldaa

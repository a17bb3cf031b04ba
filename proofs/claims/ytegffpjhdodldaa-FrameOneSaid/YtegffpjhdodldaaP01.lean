/- WireOne's walk. -/
import Derived.Test.YtegffpjhdodldaaW03
import Derived.Test.YtegffpjhdodldaaW07
namespace Go
namespace Ytegffpjhdodldaa
section
variable {P : Program} {ops : Array Oper} {md : Region.Mode} {Q : Exit → Act → World → Prop}
def takeB (md : Region.Mode) (ops : Array Oper) (listed : Array Bool) (i : Nat) : Bool := Region.noSelect ops && Region.free md ops listed i && (Region.ready md ops listed).contains i
/-- In a region that draws its order: an operation that looks at no memory is taken first; what follows stands behind a variable, so that the frame is written out at each step. -/
theorem any_take (i : Nat) {oi : Oper} {v : Value} {D : Option Tmp} {fuel : Nat} {listed : Array Bool} {a : Act} {w : World} (hi : ops[i]? = some oi) (hB : takeB md ops listed i = true) (hQ : ∀ c a a' w, Q (.panic c) a w → Q (.panic c) a' w)
    (hw : Region.wanted oi (yielded ops a.tmps) = true) (hD : oi.dst = D) (hv : ∀ w, (execOp a.eval oi).run P w = .ok (.value v) w)
    (hK : ∀ K' : Act → Prop, (∀ a, wpAny P md ops Q fuel (listed.setIfInBounds i true) a w → K' a) → K' (a.put D v)) : wpAny P md ops Q (fuel + 1) listed a w := by
  simp only [takeB, Bool.and_eq_true] at hB
  subst hD
  exact wpAny_take hi hB.1.1 hB.1.2 hB.2 (fun c a w h => hQ _ _ _ _ h) (.inl ⟨hw, hv⟩) (hK _ fun _ h => h)
/-- The only one that may come up. -/
theorem any_only (i : Nat) {oi : Oper} {fuel : Nat} {listed : Array Bool} {a : Act} {w : World} (hi : ops[i]? = some oi) (hr : Region.ready md ops listed = [i])
    (hK : ∀ K' : Act → World → Prop, (∀ a w, wpAny P md ops Q fuel (listed.setIfInBounds i true) a w → K' a w) → if Region.wanted oi (yielded ops a.tmps) = true then Oper.wp P oi a w K' Q else K' (a.put oi.dst undef) w) : wpAny P md ops Q (fuel + 1) listed a w :=
  wpAny_ready (rs := [i]) hr (by simp) (AllReady.cons hi (fun K hK' => hK K hK') AllReady.nil)
theorem region_start {id : Nat} {a : Act} {w : World} (hm : P.follows .mixedOrders = true) (h : wpAny P .any ops (NoPanic Q) ops.size (Array.replicate ops.size false) a w.drew) : (Code.region id ops true).wp P Q a w :=
  wp_region_noPanic (wp_region_any hm h)
end
end Ytegffpjhdodldaa
end Go
namespace Go.Proofs.Ytegffpjhdodldaa
open Go.RowKit Go.Ytegffpjhdodldaa
set_option linter.unusedVariables false
theorem own_nil (w : World) : OwnB w.heap.size 5 (w.alloc (.cells #[] 5)) (.slice (some ⟨w.heap.size, 0, none⟩) 0 0) [] :=
  ⟨rfl, .inr ⟨w.heap.size, 0, _, rfl, Nat.le_refl _, heap_alloc_new w _, Nat.le_refl _, by decide, rfl, rfl⟩⟩
theorem own_slice {base : Nat} {E : TypeId} {w : World} {v : Value} {l : List Int} (h : OwnB base E w v l) (k : Nat) (hk : l.length = k) : ∃ a c, v = .slice a k c := by
  obtain ⟨a, c, rfl⟩ := h.rd.slice
  exact ⟨a, c, by rw [hk]⟩
theorem rd_full (n : Nat) (hn : n < 18446744073709551616) (b : List Int) : rdN (numB n ++ b) = n ∧ rdU (numB n ++ b) = numL n ∧ rdE (numB n ++ b) = 0 := rd_some (readF_num n hn b)
theorem readC_text (s b : List Int) (hs : s.length ≤ 1000) : readC (textB s ++ b) 1000 1 = some (s.length, numL s.length) := by
  have h := readF_num s.length (by omega) (s ++ b)
  rw [← List.append_assoc] at h
  unfold readC textB
  rw [h]
  have h2 : ((s.length : Nat) : Int) ≤ 1000 ∧ s.length ≤ ((numB s.length ++ s ++ b).length - numL s.length) / 1 := by
    refine ⟨by omega, ?_⟩
    rw [Nat.div_one, List.length_append, List.length_append, numB_length]; omega
  simp only [h2, and_self, if_true]
theorem text_part (s b : List Int) : ((textB s ++ b).drop (numL s.length)).take s.length = s := by
  have h : (textB s ++ b).drop (numL s.length) = s ++ b := by
    unfold textB
    rw [List.append_assoc, List.drop_left' (numB_length _)]
  rw [h, List.take_left' rfl]
theorem readC_cut (s : List Int) (hs : s.length ≤ 1000) : readC ((textB s).take ((textB s).length - 1)) 1000 1 = none := by
  have hlen := textB_length s
  by_cases h0 : s.length = 0
  · obtain rfl := List.eq_nil_of_length_eq_zero h0
    have : (textB []).take ((textB []).length - 1) = [] := by decide
    rw [this]; rfl
  · have h1 : (textB s).take ((textB s).length - 1) = numB s.length ++ s.take (s.length - 1) := by
      unfold textB
      rw [List.take_append, List.length_append, numB_length]
      rw [List.take_of_length_le (by rw [numB_length]; omega)]
      congr 2; omega
    rw [h1]
    unfold readC
    rw [readF_num s.length (by omega)]
    have h2 : ¬ ((s.length : Int) ≤ 1000 ∧ s.length ≤ ((numB s.length ++ s.take (s.length - 1)).length - numL s.length) / 1) := by
      rw [Nat.div_one, List.length_append, numB_length, List.length_take]; omega
    simp only [h2, if_false]
theorem text_bytes (s : List Int) (hs : Bytes s) (hl : s.length ≤ 1000000) : Bytes (textB s) := bytes_append _ _ (numB_bytes _ (by omega)) hs
/-- What is read has just the bytes that were read. -/
theorem readC_back {b : List Int} (hb : Bytes b) {n u : Nat} (h : readC b 1000 1 = some (n, u)) : b.take (u + n) = textB ((b.drop u).take n) ∧ ((b.drop u).take n).length = n ∧ 1 ≤ u ∧ u + n ≤ b.length := by
  obtain ⟨h1, h2, h3⟩ := readC_some h
  obtain ⟨a1, a2, a3, a4⟩ := readF_some hb h1
  rw [Nat.div_one] at h3
  have hlen : ((b.drop u).take n).length = n := by rw [List.length_take, List.length_drop]; omega
  refine ⟨?_, hlen, by rw [a2]; exact numL_pos n, by omega⟩
  rw [textB, hlen, ← a4, List.take_add]
theorem bytes_take (l : List Int) (k : Nat) (hl : Bytes l) : Bytes (l.take k) := fun i => by
  rcases Nat.lt_or_ge i k with hi | hi
  · rw [ith_take _ _ _ hi]; exact hl i
  · rw [ith_over _ _ (by rw [List.length_take]; omega)]; omega
theorem rdB_cap {w : World} {a : Option Addr} {n c : Nat} {l : List Int} (h : RdB w (.slice a n c) l) : n ≤ c := by
  rcases h with ⟨a', c', e, _, _⟩ | ⟨b, o, c', e, h1, _⟩
  · cases e; exact Nat.zero_le _
  · cases e; exact h1
end Go.Proofs.Ytegffpjhdodldaa

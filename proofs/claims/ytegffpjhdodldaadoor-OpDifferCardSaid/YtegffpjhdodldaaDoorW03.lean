/- Contracts of the reference of layer 4 (numbers), and of the reference's SameBytes. -/
import Derived.Test.YtegffpjhdodldaaDoorW02
namespace Go.Proofs.YtegffpjhdodldaaDoor.wir
open Go.RowKit Go.YtegffpjhdodldaaDoor
set_option linter.unusedVariables false
theorem rdB_at {w : World} {a : Option Addr} {n c : Nat} {l : List Int} (h : RdB w (.slice a n c) l) (i : Nat) (hi : i < l.length) : ∃ b o, a = some ⟨b, o, none⟩ ∧ b < w.heap.size ∧ w.cell? ⟨b, o + i, none⟩ = some (.int .u8 (ith l i)) := by
  rcases h with ⟨_, _, _, _, rfl⟩ | ⟨b, o, c', h1, h2, h3, h4, h5⟩
  · exact absurd hi (Nat.not_lt_zero _)
  · cases h1
    exact ⟨b, o, rfl, h4, h5 i hi⟩
def sameF (a b : List Int) : Bool := decide (a = b)
theorem sameF_len {a b : List Int} (h : a.length ≠ b.length) : sameF a b = false := by
  simp only [sameF, decide_eq_false_iff_not]; intro e; exact h (by rw [e])
theorem sameF_not {a b : List Int} (k : Nat) (h : ith a k ≠ ith b k) : sameF a b = false := by
  simp only [sameF, decide_eq_false_iff_not]; intro e; exact h (by rw [e])
theorem sameF_yes {a b : List Int} (h : a.length = b.length) (h2 : ∀ i, i < a.length → ith a i = ith b i) : sameF a b = true := by
  simp only [sameF, decide_eq_true_eq]; exact ith_ext h h2
theorem sameF_self (a : List Int) : sameF a a = true := by simp [sameF]
set_option maxRecDepth 100000 in
theorem same_any (va vb : Value) (a b : List Int) (w : World) (hm : a.length ≤ 140737488355328) (h1 : RdB w va a) (h2 : RdB w vb b) :
    Calls Tryd.prog 15 #[va, vb] w fun e w' => e = .returned (.bool (sameF a b)) ∧ Draws w w' := by
  obtain ⟨a1, c1, rfl⟩ := h1.slice
  obtain ⟨a2, c2, rfl⟩ := h2.slice
  by_cases hlen : a.length = b.length
  · rw [← hlen] at h2 ⊢
    have h1' := Lib.hid h1; have h2' := Lib.hid h2; have hb := Lib.hid hlen
    clear h1 h2 hlen
    generalize hna : a.length = n at *
    have hn := Lib.hid hna
    clear hna
    go_enter Tryd.func15, Tryd.ntmps15
    go_wp2
    go_loopw [5] (fun i wr => ∃ k : Nat, k ≤ n ∧ i = .int .i64 k ∧ Draws w wr ∧ ∀ j, j < k → ith a j = ith b j) (fun i _ => match i with | .int _ m => n - m.toNat | _ => 0)
    case atStart => exact ⟨0, Nat.zero_le _, rfl, Draws.refl _, fun j hj => absurd hj (Nat.not_lt_zero _)⟩
    case round =>
      obtain ⟨k, hk, rfl, hd, he⟩ := hrel
      have he' := Lib.hid he; clear he
      by_cases hlt : k < n
      · obtain ⟨b1, o1, rfl, _, e1⟩ := rdB_at h1'.out k (by rw [hn.out]; exact hlt)
        obtain ⟨b2, o2, rfl, _, e2⟩ := rdB_at h2'.out k (by rw [← hb.out]; exact hlt)
        have c1 := (hd.cell _).trans e1
        have c2 := (hd.cell _).trans e2
        have hnot := Lib.hid (fun h => sameF_not (a := a) (b := b) k h)
        by_cases hx : ith a k = ith b k
        · have hx' := Lib.hid hx
          rw [← hx] at c2
          clear hx hnot
          generalize hX : ith a k = x at c1 c2
          clear hX e1 e2
          go_wp2
          go_quiet (fail)
          go_wp2
          go_roundw
          case rel => exact ⟨k + 1, by omega, by go_num, hd.drewN _, fun j hj => by
            rcases Nat.lt_or_ge j k with h | h
            · exact he'.out j h
            · obtain rfl : j = k := by omega
              exact hx'.out⟩
          case measure => go_num
        · have hs := Lib.hid (hnot.out hx)
          have hxb : (ith a k != ith b k) = true := by simpa using hx
          clear hnot
          generalize ith a k = x at *
          generalize ith b k = y at *
          clear e1 e2 hx
          go_wp2
          go_quiet (fail)
          go_wp2
          go_ret
          exact ⟨ret_bool hs.out.symm, hd.drewN _⟩
      · have hkn : k = n := by omega
        have hs := Lib.hid (sameF_yes (a := a) (b := b) (by rw [hn.out]; exact hb.out) (fun i hi => he'.out i (by rw [hn.out] at hi; omega)))
        clear hkn
        go_wp2
        go_ret
        exact ⟨ret_bool hs.out.symm, hd⟩
  · have hs := Lib.hid (sameF_len hlen)
    have hbne : ((a.length : Int) != (b.length : Int)) = true := by simp; omega
    clear h1 h2
    generalize a.length = n at *
    generalize b.length = m at *
    clear hlen
    go_enter Tryd.func15, Tryd.ntmps15
    go_wp2
    go_ret
    exact ⟨ret_bool hs.out.symm, Draws.refl _⟩
theorem own_lit (w : World) (x : Int) : OwnB w.heap.size 5 (w.alloc (.cells #[.int .u8 x] 5)) (.slice (some ⟨w.heap.size, 0, none⟩) 1 1) [x] :=
  ⟨rfl, .inr ⟨w.heap.size, 1, _, rfl, Nat.le_refl _, heap_alloc_new w _, Nat.le_refl _, by decide, rfl, rfl⟩⟩
theorem rd_one (w : World) (x : Int) : RdB (w.alloc (.cells #[.int .u8 x] 5)) (.slice (some ⟨w.heap.size, 0, none⟩) 1 1) [x] := (own_lit w x).rd
theorem below_new (w : World) (o : Obj) : Below w.heap.size w (w.alloc o) := (Below.refl _ _).alloc (Nat.le_refl _) o
def outF (j n t : Nat) : List Int := (247 + (j : Int)) :: (be j n).take t
theorem outF_length (j n t : Nat) (h : t ≤ j) : (outF j n t).length = t + 1 := by simp [outF, be_length]; omega
theorem outF_succ (j n t : Nat) (h : t < j) : outF j n t ++ [ith (be j n) t] = outF j n (t + 1) := by
  unfold outF
  rw [take_succ_ith _ _ (by rw [be_length]; exact h), List.cons_append]
theorem rdB_take {w : World} {a : Option Addr} {n c : Nat} {l : List Int} (h : RdB w (.slice a n c) l) (k : Nat) (hk : k ≤ n) : RdB w (.slice a k c) (l.take k) := by
  rcases h with ⟨a', c', e, h1, rfl⟩ | ⟨b, o, c', e, h1, h2, h3, h4⟩
  · cases e
    obtain rfl : k = 0 := by omega
    exact .inl ⟨a, c, rfl, h1, rfl⟩
  · cases e
    have hl : (l.take k).length = k := by rw [List.length_take]; omega
    exact .inr ⟨b, o, c, by rw [hl], by rw [hl]; omega, h2, h3, fun i hi => by
      rw [hl] at hi
      rw [ith_take _ _ _ hi]; exact h4 i (by omega)⟩
theorem draws_rdB {w w' : World} (h : Draws w w') {v : Value} {l : List Int} (hr : RdB w v l) : RdB w' v l := hr.mono (h.below (Below.refl _ _))
/-- What the reference reads, behind the number it took. -/
def refE (l : List Int) : Bool := sameF (l.take (numL (refN l))) (numB (refN l))
theorem refE_yes {l : List Int} (hl : Bytes l) (h : refE l = true) : rdN l = refN l ∧ rdU l = numL (refN l) ∧ rdE l = 0 := by
  have h1 : l.take (numL (refN l)) = numB (refN l) := by simpa [refE, sameF] using h
  have h2 := readF_ref hl
  rw [if_pos h1] at h2
  exact rd_some h2
theorem refE_no {l : List Int} (hl : Bytes l) (h : refE l = false) : rdN l = 0 ∧ rdU l = 0 ∧ rdE l = 12 := by
  have h1 : ¬ l.take (numL (refN l)) = numB (refN l) := by simpa [refE, sameF] using h
  have h2 := readF_ref hl
  rw [if_neg h1] at h2
  exact rd_none h2
theorem same_yesW (va vb : Value) (a : List Int) (w : World) (hm : a.length ≤ 140737488355328) (h1 : RdB w va a) (h2 : RdB w vb a) :
    Calls Tryd.prog 15 #[va, vb] w fun e w' => e = .returned (.bool true) ∧ Draws w w' := by
  have h := same_any va vb a a w hm h1 h2
  rw [sameF_self] at h
  exact h
end Go.Proofs.YtegffpjhdodldaaDoor.wir

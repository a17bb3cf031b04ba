/- Contracts of the reference of layer 4 (numbers), and of the reference's SameBytes. -/
import Derived.Test.YtegffpjhdodldaaW02
namespace Go.Proofs.Ytegffpjhdodldaa
open Go.RowKit Go.Ytegffpjhdodldaa
set_option linter.unusedVariables false
theorem rdB_at {w : World} {a : Option Addr} {n c : Nat} {l : List Int} (h : RdB w (.slice a n c) l) (i : Nat) (hi : i < l.length) : ∃ b o, a = some ⟨b, o, none⟩ ∧ b < w.heap.size ∧ w.cell? ⟨b, o + i, none⟩ = some (.int .u8 (ith l i)) := by
  rcases h with ⟨_, _, _, _, rfl⟩ | ⟨b, o, c', h1, h2, h3, h4, h5⟩
  · exact absurd hi (Nat.not_lt_zero _)
  · cases h1
    exact ⟨b, o, rfl, h4, h5 i hi⟩
def sameF (a b : List Int) : Bool := decide (a = b)
theorem sameF_len {a b : List Int} (h : a.length ≠ b.length) : sameF a b = false := by
  simp only [sameF, decide_eq_false_iff_not]; intro e; exact h (by rw [e])
theorem sameF_not {a b : List Int} (k : Nat) (h : ith a k ≠ ith b k) : sameF a b = false := by
  simp only [sameF, decide_eq_false_iff_not]; intro e; exact h (by rw [e])
theorem sameF_yes {a b : List Int} (h : a.length = b.length) (h2 : ∀ i, i < a.length → ith a i = ith b i) : sameF a b = true := by
  simp only [sameF, decide_eq_true_eq]; exact ith_ext h h2
theorem sameF_self (a : List Int) : sameF a a = true := by simp [sameF]
set_option maxRecDepth 100000 in
theorem same_any (va vb : Value) (a b : List Int) (w : World) (hm : a.length ≤ 140737488355328) (h1 : RdB w va a) (h2 : RdB w vb b) :
    Calls Try.prog 17 #[va, vb] w fun e w' => e = .returned (.bool (sameF a b)) ∧ Draws w w' := by
  obtain ⟨a1, c1, rfl⟩ := h1.slice
  obtain ⟨a2, c2, rfl⟩ := h2.slice
  by_cases hlen : a.length = b.length
  · rw [← hlen] at h2 ⊢
    have h1' := Lib.hid h1; have h2' := Lib.hid h2; have hb := Lib.hid hlen
    clear h1 h2 hlen
    generalize hna : a.length = n at *
    have hn := Lib.hid hna
    clear hna
    go_enter Try.func17, Try.ntmps17
    go_wp2
    go_loopw [5] (fun i wr => ∃ k : Nat, k ≤ n ∧ i = .int .i64 k ∧ Draws w wr ∧ ∀ j, j < k → ith a j = ith b j) (fun i _ => match i with | .int _ m => n - m.toNat | _ => 0)
    case atStart => exact ⟨0, Nat.zero_le _, rfl, Draws.refl _, fun j hj => absurd hj (Nat.not_lt_zero _)⟩
    case round =>
      obtain ⟨k, hk, rfl, hd, he⟩ := hrel
      have he' := Lib.hid he; clear he
      by_cases hlt : k < n
      · obtain ⟨b1, o1, rfl, _, e1⟩ := rdB_at h1'.out k (by rw [hn.out]; exact hlt)
        obtain ⟨b2, o2, rfl, _, e2⟩ := rdB_at h2'.out k (by rw [← hb.out]; exact hlt)
        have c1 := (hd.cell _).trans e1
        have c2 := (hd.cell _).trans e2
        have hnot := Lib.hid (fun h => sameF_not (a := a) (b := b) k h)
        by_cases hx : ith a k = ith b k
        · have hx' := Lib.hid hx
          rw [← hx] at c2
          clear hx hnot
          generalize hX : ith a k = x at c1 c2
          clear hX e1 e2
          go_wp2
          go_quiet (fail)
          go_wp2
          go_roundw
          case rel => exact ⟨k + 1, by omega, by go_num, hd.drewN _, fun j hj => by
            rcases Nat.lt_or_ge j k with h | h
            · exact he'.out j h
            · obtain rfl : j = k := by omega
              exact hx'.out⟩
          case measure => go_num
        · have hs := Lib.hid (hnot.out hx)
          have hxb : (ith a k != ith b k) = true := by simpa using hx
          clear hnot
          generalize ith a k = x at *
          generalize ith b k = y at *
          clear e1 e2 hx
          go_wp2
          go_quiet (fail)
          go_wp2
          go_ret
          exact ⟨ret_bool hs.out.symm, hd.drewN _⟩
      · have hkn : k = n := by omega
        have hs := Lib.hid (sameF_yes (a := a) (b := b) (by rw [hn.out]; exact hb.out) (fun i hi => he'.out i (by rw [hn.out] at hi; omega)))
        clear hkn
        go_wp2
        go_ret
        exact ⟨ret_bool hs.out.symm, hd⟩
  · have hs := Lib.hid (sameF_len hlen)
    have hbne : ((a.length : Int) != (b.length : Int)) = true := by simp; omega
    clear h1 h2
    generalize a.length = n at *
    generalize b.length = m at *
    clear hlen
    go_enter Try.func17, Try.ntmps17
    go_wp2
    go_ret
    exact ⟨ret_bool hs.out.symm, Draws.refl _⟩
theorem own_lit (w : World) (x : Int) : OwnB w.heap.size 5 (w.alloc (.cells #[.int .u8 x] 5)) (.slice (some ⟨w.heap.size, 0, none⟩) 1 1) [x] :=
  ⟨rfl, .inr ⟨w.heap.size, 1, _, rfl, Nat.le_refl _, heap_alloc_new w _, Nat.le_refl _, by decide, rfl, rfl⟩⟩
theorem rd_one (w : World) (x : Int) : RdB (w.alloc (.cells #[.int .u8 x] 5)) (.slice (some ⟨w.heap.size, 0, none⟩) 1 1) [x] := (own_lit w x).rd
theorem below_new (w : World) (o : Obj) : Below w.heap.size w (w.alloc o) := (Below.refl _ _).alloc (Nat.le_refl _) o
def outF (j n t : Nat) : List Int := (247 + (j : Int)) :: (be j n).take t
theorem outF_length (j n t : Nat) (h : t ≤ j) : (outF j n t).length = t + 1 := by simp [outF, be_length]; omega
theorem outF_succ (j n t : Nat) (h : t < j) : outF j n t ++ [ith (be j n) t] = outF j n (t + 1) := by
  unfold outF
  rw [take_succ_ith _ _ (by rw [be_length]; exact h), List.cons_append]
set_option maxRecDepth 100000 in
theorem rnum_any (n : Nat) (hn : n < 18446744073709551616) (w : World) : Calls Try.prog 44 #[.int .u64 (n : Int)] w fun e w' => ∃ v, e = .returned v ∧ OwnB w.heap.size 5 w' v (numB n) ∧ Below w.heap.size w w' := by
  by_cases h : n ≤ 247
  · have e2 : numB n = [(n : Int)] := by simp [numB, h]
    rw [e2]
    clear hn e2
    go_enter Try.func44, Try.ntmps44
    go_wp2
    go_ret
    exact ⟨_, rfl, own_lit w _, below_new w _⟩
  · obtain ⟨k1, k8, _, kh⟩ := ks_bounds n (by omega) hn
    have hpos := Lib.hid (fun j => div_pos_iff n j (by omega) hn)
    have e2 := Lib.hid (show numB n = (247 + (ks n : Int)) :: be (ks n) n by simp [numB, h])
    have hn0 := Lib.hid (show n / 256 ^ 0 = n by simp)
    have hlt64 := Lib.hid (fun j => Nat.lt_of_le_of_lt (Nat.div_le_self n (256 ^ j)) hn)
    clear kh hn
    generalize ks n = k at *
    go_enter Try.func44, Try.ntmps44
    go_wp2
    go_loopw [0, 3] (fun x s wr => ∃ j : Nat, j ≤ k ∧ x = .int .u64 ((n / 256 ^ j : Nat) : Int) ∧ OwnB w.heap.size 5 wr s (le j n) ∧ Below w.heap.size w wr) (fun _ s _ => 10 - lenS s)
    case atStart => exact ⟨0, Nat.zero_le _, by rw [hn0.out], OwnB.nil _ _ _, Below.refl _ _⟩
    case round =>
      obtain ⟨j, hj, rfl, ho, hb⟩ := hrel
      obtain ⟨sa, sc, rfl⟩ := ho.rd.slice
      have hlen := le_length j n
      by_cases hlt : j < k
      · have hp := (hpos.out j).2 hlt
        have h64 := hlt64.out j
        have hst := Lib.hid (div_step n j)
        have hle := Lib.hid (show le (j + 1) n = le j n ++ [((n / 256 ^ j % 256 : Nat) : Int)] from rfl)
        have hl1 := le_length (j + 1) n
        generalize hy : n / 256 ^ (j + 1) = y at hst
        have hY := Lib.hid hy
        clear hy
        generalize hq : n / 256 ^ j = q at *
        clear hq
        have hlen' := Lib.hid hlen
        rw [hlen] at ho ⊢
        clear hlen
        have hzw := hb.size
        have ho' := Lib.hid (ho.kept (below_new wr (.cells #[.int .u8 ((q : Int) % 256)] 5)))
        have hb' := Lib.hid hb
        have hl1' := Lib.hid hl1
        clear ho hb hl1
        go_wp2_with (refine appendB rfl _ _ 29 rfl w.heap.size 5 Try.underlying29 (by kernel_rfl) _ rfl _ ho'.out _ rfl _ (rd_one _ _) (by rw [hlen'.out]; simp; omega) (by simp; omega) ?_)
        intro v' w' h1 h2
        have hb2 := ho'.out.below h2 (by simp; omega)
        rw [show le j n ++ [(q : Int) % 256] = le (j + 1) n by rw [hle.out]; simp] at h1
        obtain ⟨va, vc, rfl⟩ := h1.rd.slice
        have h1' := Lib.hid h1; have hB2 := Lib.hid (hb'.out.trans (((Below.refl _ _).alloc hzw _).trans hb2))
        rw [hl1'.out] at h1' ⊢
        clear h1 h2 hb2 ho' hle
        refine Stop.go ?_
        go_wp2
        go_roundw
        case rel => exact ⟨j + 1, by omega, by rw [hY.out, ← hst.out]; simp, h1'.out, hB2.out⟩
        case measure => simp [lenS]; omega
      · obtain rfl : j = k := by omega
        obtain ⟨w1, hw1⟩ : ∃ w1, w1 = wr := ⟨_, rfl⟩
        subst hw1
        have hz0 : n / 256 ^ j = 0 := Nat.eq_zero_of_not_pos (fun hp => by have := (hpos.out j).1 hp; omega)
        have ho' := Lib.hid ho; have hb' := Lib.hid hb
        have hzw := hb.size
        have hlen' := Lib.hid hlen
        rw [hz0, show ((0 : Nat) : Int) = 0 from rfl]
        rw [hlen] at ho' ⊢
        clear ho hb hz0 hlen hpos hlt64 hn0
        go_wp2
        generalize hW : w1.alloc _ = W
        have how := Lib.hid (show OwnB w1.heap.size 5 W (.slice (some ⟨w1.heap.size, 0, none⟩) 1 1) (outF j n 0) by rw [← hW]; exact own_lit w1 _)
        have hbw := Lib.hid (show Below w1.heap.size w1 W by rw [← hW]; exact below_new w1 _)
        clear hW
        have hdr := Lib.hid ho'.out.rd
        clear ho'
        go_loopw [4, 5] (fun s i wr => ∃ t : Nat, t ≤ j ∧ i = .int .i64 ((j : Int) - 1 - (t : Int)) ∧ OwnB w1.heap.size 5 wr s (outF j n t) ∧ Below w1.heap.size w1 wr) (fun _ i _ => (intOf i + 1).toNat)
        case atStart => exact ⟨0, Nat.zero_le _, by simp, how.out, hbw.out⟩
        case round =>
          obtain ⟨t, ht, rfl, ho, hb⟩ := hrel
          obtain ⟨qa, qc, rfl⟩ := ho.rd.slice
          have hlo := outF_length j n t ht
          by_cases hlt : t < j
          · obtain ⟨m, hm⟩ : ∃ m : Nat, (j : Int) - 1 - (t : Int) = (m : Int) := ⟨j - 1 - t, by omega⟩
            have hmv : m = j - 1 - t := by omega
            obtain ⟨b, o, rfl, hbs, e1⟩ := rdB_at hdr.out m (by rw [hlen'.out]; omega)
            have c1 := (hb.cell (p := ⟨b, o + m, none⟩) hbs).trans e1
            have hx := Lib.hid (show outF j n t ++ [ith (le j n) m] = outF j n (t + 1) by rw [ith_le _ _ _ (by omega), hmv, ← outF_succ j n t hlt, ith_be _ _ _ hlt])
            have hmj : m < j := by omega
            have hm0 : (m : Int) - 1 = (j : Int) - 1 - ((t + 1 : Nat) : Int) := by omega
            have hm0' := Lib.hid hm0
            generalize ith (le j n) m = x at *
            have hls := Lib.hid (outF_length j n (t + 1) (by omega))
            have hlo' := Lib.hid hlo
            rw [hlo] at ho ⊢
            rw [hm]
            have hzq := hb.size
            have ho' := Lib.hid (ho.kept (below_new wr (.cells #[.int .u8 x] 5)))
            have hb' := Lib.hid hb
            clear ho hb hlo hm0 hmv e1 hm
            go_wp2_with (refine appendB rfl _ _ 29 rfl w1.heap.size 5 Try.underlying29 (by kernel_rfl) _ rfl _ ho'.out _ rfl _ (rd_one _ _) (by rw [hlo'.out]; simp; omega) (by simp; omega) ?_)
            intro v' w' h1 h2
            have hb2 := ho'.out.below h2 (by simp; omega)
            rw [hx.out] at h1
            obtain ⟨va, vc, rfl⟩ := h1.rd.slice
            have h1' := Lib.hid h1; have hB2 := Lib.hid (hb'.out.trans (((Below.refl _ _).alloc hzq _).trans hb2))
            rw [hls.out] at h1' ⊢
            clear h1 h2 hb2 ho' hx
            refine Stop.go ?_
            go_wp2
            go_roundw
            case rel => exact ⟨t + 1, by omega, by rw [hm0'.out], h1'.out, hB2.out⟩
            case measure => simp [intOf]
          · obtain rfl : t = j := by omega
            have hi : (t : Int) - 1 - (t : Int) = -1 := by omega
            rw [hi]
            have ho' := Lib.hid (ho.mono hzw)
            have hB := Lib.hid (hb'.out.trans (hb.mono hzw))
            rw [hlo] at ho' ⊢
            clear ho hb hlo hi
            go_wp2
            go_ret
            refine ⟨_, rfl, ?_, hB.out⟩
            rw [e2.out]
            have : outF t n t = (247 + (t : Int)) :: be t n := by simp [outF, List.take_of_length_le, be_length]
            rw [← this]; exact ho'.out
theorem rdB_take {w : World} {a : Option Addr} {n c : Nat} {l : List Int} (h : RdB w (.slice a n c) l) (k : Nat) (hk : k ≤ n) : RdB w (.slice a k c) (l.take k) := by
  rcases h with ⟨a', c', e, h1, rfl⟩ | ⟨b, o, c', e, h1, h2, h3, h4⟩
  · cases e
    obtain rfl : k = 0 := by omega
    exact .inl ⟨a, c, rfl, h1, rfl⟩
  · cases e
    have hl : (l.take k).length = k := by rw [List.length_take]; omega
    exact .inr ⟨b, o, c, by rw [hl], by rw [hl]; omega, h2, h3, fun i hi => by
      rw [hl] at hi
      rw [ith_take _ _ _ hi]; exact h4 i (by omega)⟩
theorem draws_rdB {w w' : World} (h : Draws w w') {v : Value} {l : List Int} (hr : RdB w v l) : RdB w' v l := hr.mono (h.below (Below.refl _ _))
theorem starts_any (va vb : Value) (a b : List Int) (w : World) (hm : b.length ≤ 140737488355328) (h1 : RdB w va a) (h2 : RdB w vb b) :
    Calls Try.prog 52 #[va, vb] w fun e w' => e = .returned (.bool (sameF (a.take b.length) b)) ∧ Draws w w' := by
  have h1s := h1
  obtain ⟨a1, c1, rfl⟩ := h1.slice
  obtain ⟨a2, c2, rfl⟩ := h2.slice
  by_cases hlt : b.length ≤ a.length
  · have hs := Lib.hid (same_any _ _ (a.take b.length) b w (by rw [List.length_take]; omega) (rdB_take h1 _ hlt) h2)
    have hc : a.length ≤ c1 := by
      rcases h1 with ⟨a', c', e, _, e2⟩ | ⟨b', o, c', e, h3, _⟩
      · simp [e2]
      · cases e; exact h3
    clear h1 h2 h1s
    generalize sameF (a.take b.length) b = S at *
    generalize a.length = n at *
    generalize b.length = m at *
    go_enter Try.func52, Try.ntmps52
    go_wp2_with (go_at_call 17; (with_reducible refine (hs.out).mono ?_); rintro e w' ⟨rfl, hd⟩; have hd' := Lib.hid hd; clear hd)
    go_ret
    exact ⟨rfl, hd'.out⟩
  · have hs : sameF (a.take b.length) b = false := by
      rw [List.take_of_length_le (by omega)]
      exact sameF_len (by omega)
    rw [hs]
    clear h1 h2 h1s hs
    generalize a.length = n at *
    generalize b.length = m at *
    go_enter Try.func52, Try.ntmps52
    go_wp2
    go_ret
    exact ⟨rfl, Draws.refl _⟩
/-- What the reference reads, behind the number it took. -/
def refE (l : List Int) : Bool := sameF (l.take (numL (refN l))) (numB (refN l))
theorem refE_yes {l : List Int} (hl : Bytes l) (h : refE l = true) : rdN l = refN l ∧ rdU l = numL (refN l) ∧ rdE l = 0 := by
  have h1 : l.take (numL (refN l)) = numB (refN l) := by simpa [refE, sameF] using h
  have h2 := readF_ref hl
  rw [if_pos h1] at h2
  exact rd_some h2
theorem refE_no {l : List Int} (hl : Bytes l) (h : refE l = false) : rdN l = 0 ∧ rdU l = 0 ∧ rdE l = 12 := by
  have h1 : ¬ l.take (numL (refN l)) = numB (refN l) := by simpa [refE, sameF] using h
  have h2 := readF_ref hl
  rw [if_neg h1] at h2
  exact rd_none h2
/-- What the two calls at its end answer. -/
theorem rtail_calls (l : List Int) (bv : Value) (w : World) (hr : RdB w bv l) (hl : Bytes l) (wi : World) (hw : Below w.heap.size w wi) :
    Calls Try.prog 44 #[.int .u64 (refN l : Nat)] wi fun e w' => ∃ a c, e = .returned (.slice a (numL (refN l)) c) ∧ Hid (∀ wj, Below w'.heap.size w' wj → Calls Try.prog 52 #[bv, .slice a (numL (refN l)) c] wj fun e w'' => e = .returned (.bool (refE l)) ∧ Draws wj w'') ∧ Below w.heap.size w w' :=
  (rnum_any (refN l) (refN_lt l hl) wi).mono fun e w' ⟨v, he, ho, hb⟩ => by
    obtain ⟨a, c, rfl⟩ := ho.rd.slice
    have hB := hw.trans (hb.mono hw.size)
    have hlen := numB_length (refN l)
    refine ⟨a, c, by rw [he, hlen], Lib.hid fun wj hj => ?_, hB⟩
    have h := starts_any bv (.slice a (numB (refN l)).length c) l (numB (refN l)) wj (by have := numL_le _ (refN_lt l hl); rw [hlen]; omega) (hr.mono (hB.trans (hj.mono hB.size))) (ho.rd.mono hj)
    rw [hlen] at h
    exact h
set_option maxRecDepth 10000 in
theorem rreadNumber_any (l : List Int) (bv : Value) (w : World) (hr : RdB w bv l) (hl : Bytes l) (hm : l.length ≤ 1000000) :
    Calls Try.prog 37 #[bv] w fun e w' => e = .returned (.tuple #[.int .u64 (rdN l : Nat), .int .i64 (rdU l : Nat), .int .i64 (rdE l)]) ∧ Below w.heap.size w w' := by
  by_cases hlen0 : l.length = 0
  · obtain ⟨a, c, rfl⟩ := hr.slice
    obtain ⟨e1, e2, e3⟩ := rd_none (show readF l = none by simp [readF, hlen0])
    rw [hlen0, e1, e2, e3]
    clear hr hl hlen0 e1 e2 e3 hm
    go_enter Try.func37, Try.ntmps37
    go_wp2
    go_ret3
    exact ⟨rfl, Below.refl _ _⟩
  have hT := Lib.hid (rtail_calls l bv w hr hl)
  have hyes := Lib.hid (refE_yes hl); have hno := Lib.hid (refE_no hl)
  have hrN : refN l = if ith l 0 ≤ 247 then (ith l 0).toNat else valN (l.drop 1) (min ((ith l 0).toNat - 247) (l.length - 1)) := rfl
  rcases hr with ⟨a, c, rfl, _, rfl⟩ | ⟨b, o, c, rfl, h1, h2, h3, h4⟩
  · simp at hlen0
  unfold maxLen at h2
  have hc0 : w.cell? ⟨b, o, none⟩ = some (.int .u8 (ith l 0)) := h4 0 (by omega)
  have hb0 := hl 0
  have hlp : 0 < l.length := by omega
  by_cases hq : ith l 0 ≤ 247
  · rw [if_pos hq] at hrN
    have hq2 := Lib.hid (show (ith l 0) = ((refN l : Nat) : Int) by omega)
    generalize rdN l = RN at *
    generalize rdU l = RU at *
    generalize rdE l = RE at *
    generalize numL (refN l) = LN at *
    generalize refN l = n at *
    generalize l.length = N at *
    clear h4 hl hrN
    rw [hq2.out] at hc0 hb0 hq
    go_enter Try.func37, Try.ntmps37
    go_wp2_with (go_at_call 44; (with_reducible refine (hT.out _ (Below.refl _ _)).mono ?_); rintro e w1 ⟨oa, oc, rfl, hs, hb⟩; have hs' := Lib.hid (hs.out _ (Below.refl _ _)); have hb' := Lib.hid hb; clear hs hb hT; refine Stop.go'' _ ?_)
    refine StopP.go ?_
    cases hre : refE l
    · obtain ⟨e1, e2, e3⟩ := hno.out hre
      rw [hre] at hs'
      subst e1 e2 e3
      clear hre hyes hno
      go_wp2_with (go_at_call 52; (with_reducible refine (hs'.out).mono ?_); rintro e w2 ⟨rfl, hd⟩; have hd' := Lib.hid hd; clear hd)
      go_ret3
      exact ⟨rfl, hd'.out.below hb'.out⟩
    · obtain ⟨e1, e2, e3⟩ := hyes.out hre
      rw [hre] at hs'
      subst e1 e2 e3
      clear hre hyes hno
      go_wp2_with (go_at_call 52; (with_reducible refine (hs'.out).mono ?_); rintro e w2 ⟨rfl, hd⟩; have hd' := Lib.hid hd; clear hd)
      go_ret3
      exact ⟨rfl, hd'.out.below hb'.out⟩
  · rw [if_neg hq] at hrN
    obtain ⟨K, hK⟩ : ∃ K : Nat, ith l 0 = (K : Int) + 247 := ⟨(ith l 0 - 247).toNat, by omega⟩
    have eK : (ith l 0).toNat - 247 = K := by omega
    rw [eK] at hrN
    rw [hK] at hc0
    have hK1 : 1 ≤ K := by omega
    have hK8 : K ≤ 8 := by omega
    have hbd := bytes_drop l 1 hl
    have hcells := Lib.hid (fun j (hj : j + 1 < l.length) => (show w.cell? ⟨b, o + (j + 1), none⟩ = some (.int .u8 (ith (l.drop 1) j)) from by
      rw [ith_drop, Nat.add_comm 1 j]; exact h4 (j + 1) (by omega)))
    have hbyte := Lib.hid (fun j => hbd j)
    have hval := Lib.hid (fun j (hj : j ≤ 7) => (show 0 ≤ (valN (l.drop 1) j : Int) ∧ (valN (l.drop 1) j : Int) < 72057594037927936 from by
      have h1 := valN_lt (l.drop 1) hbd j
      have h2 : (256 : Nat) ^ j ≤ 72057594037927936 := (show (256 : Nat) ^ j ≤ 256 ^ 7 from Nat.pow_le_pow_right (by decide) hj)
      omega))
    have hstep := Lib.hid (fun j => (show (valN (l.drop 1) (j + 1) : Int) = 256 * (valN (l.drop 1) j : Int) + ith (l.drop 1) j from by
      have := hbd j
      rw [valN]; omega))
    obtain ⟨M, hM⟩ : ∃ M, min K (l.length - 1) = M := ⟨_, rfl⟩
    rw [hM] at hrN
    have hMK : M ≤ K := by omega
    have hML : M + 1 ≤ l.length := by omega
    have hMe : M = K ∨ M + 1 = l.length := by omega
    have hrN' := Lib.hid hrN.symm
    generalize rdN l = RN at *
    generalize rdU l = RU at *
    generalize rdE l = RE at *
    generalize numL (refN l) = LN at *
    generalize refN l = n at *
    generalize l.length = N at *
    clear h4 hl hrN hb0 hq hK eK hM hbd
    go_enter Try.func37, Try.ntmps37
    go_wp2
    go_loop [5, 7] (fun x i => ∃ j : Nat, j ≤ M ∧ i = .int .i64 ((j : Int) + 1) ∧ x = .int .u64 (valN (l.drop 1) j : Nat)) (fun _ i => N - (intOf i).toNat)
    case atStart => exact ⟨0, Nat.zero_le _, rfl, rfl⟩
    case round =>
      obtain ⟨j, hj, rfl, rfl⟩ := hrel
      by_cases hlt : j < M
      · have hck := hcells.out j (by omega)
        have hb := hbyte.out j
        have hx := hval.out j (by omega)
        have hnx := hstep.out j
        generalize hY : valN (l.drop 1) (j + 1) = y at hnx
        generalize hX : valN (l.drop 1) j = x at *
        generalize ith (l.drop 1) j = z at *
        have hnx' := Lib.hid hnx; have hY' := Lib.hid hY
        clear hnx hY hX
        have g1 : (j : Int) + 1 ≤ (K : Int) := by omega
        have g2 : (j : Int) + 1 < (N : Int) := by omega
        clear hMe
        go_wp2
        go_round
        case rel => exact ⟨j + 1, by omega, by go_num, by rw [hY'.out, hnx'.out]⟩
        case measure => simp [intOf]; omega
      · obtain rfl : j = M := by omega
        rw [hrN'.out]
        clear hrN' hcells hbyte hval hstep
        by_cases g1 : (j : Int) + 1 ≤ (K : Int)
        all_goals
          try have g2 : ¬ (j : Int) + 1 < (N : Int) := by omega
          clear hMe
          go_wp2_with (go_at_call 44; (with_reducible refine (hT.out _ (Below.refl _ _)).mono ?_); rintro e w1 ⟨oa, oc, rfl, hs, hb⟩; have hs' := Lib.hid (hs.out _ (Below.refl _ _)); have hb' := Lib.hid hb; clear hs hb hT; refine Stop.go'' _ ?_)
          refine StopP.go ?_
          cases hre : refE l
          · obtain ⟨e1, e2, e3⟩ := hno.out hre
            rw [hre] at hs'
            subst e1 e2 e3
            clear hre hyes hno
            go_wp2_with (go_at_call 52; (with_reducible refine (hs'.out).mono ?_); rintro e w2 ⟨rfl, hd⟩; have hd' := Lib.hid hd; clear hd)
            go_ret3
            exact ⟨rfl, hd'.out.below hb'.out⟩
          · obtain ⟨e1, e2, e3⟩ := hyes.out hre
            rw [hre] at hs'
            subst e1 e2 e3
            clear hre hyes hno
            go_wp2_with (go_at_call 52; (with_reducible refine (hs'.out).mono ?_); rintro e w2 ⟨rfl, hd⟩; have hd' := Lib.hid hd; clear hd)
            go_ret3
            exact ⟨rfl, hd'.out.below hb'.out⟩
theorem same_yesW (va vb : Value) (a : List Int) (w : World) (hm : a.length ≤ 140737488355328) (h1 : RdB w va a) (h2 : RdB w vb a) :
    Calls Try.prog 17 #[va, vb] w fun e w' => e = .returned (.bool true) ∧ Draws w w' := by
  have h := same_any va vb a a w hm h1 h2
  rw [sameF_self] at h
  exact h
end Go.Proofs.Ytegffpjhdodldaa

/- The reference's order: size and less. -/
import Derived.Test.YtpklfohaifeboaaV29
namespace Go.Proofs.Ytpklfohaifeboaa
open Go.RowKit Go.Ytpklfohaifeboaa
set_option linter.unusedVariables false
set_option maxHeartbeats 4000000 in
set_option maxRecDepth 100000 in
theorem rsize_num (n : Int) (b : Nat) (s : ByteArray) (hn : -9223372036854775808 ≤ n ∧ n ≤ 9223372036854775807) (w : World) :
    Calls Try.prog 67 #[vA 1 n b s] w fun e w' => ∃ v, e = .returned v ∧ OwnB w.heap.size 5 w' v (szF 1 n b) ∧ Below w.heap.size w w' := by
  have hp := heap_alloc_new w (.cells (vC 1 n b s) 26)
  have hB := Lib.hid (below_a w (.cells (vC 1 n b s) 26))
  obtain ⟨c0, c1, c2, c3⟩ := cellsV hp
  clear hp
  have hD := Lib.hid (fun w => rdigits_any n.natAbs 1074 (by omega) (by omega) w)
  have e : szF 1 n b = digF n.natAbs 1074 := by unfold szF; rw [if_pos rfl]
  rw [e]
  rw [show ((1074 : Nat) : Int) = 1074 from rfl] at hD
  generalize digF n.natAbs 1074 = DD at *
  by_cases h0 : n < 0
  · have h1 : IntKind.u64.wrap (-(n + 1)) = -(n + 1) := by rw [IntKind.wrap_u64]; omega
    have h2 : -(n + 1) + 1 = (n.natAbs : Int) := by omega
    have h3 : wrap64 (-(n + 1)) = -(n + 1) := by unfold wrap64; omega
    clear e
    go_enter Try.func67, Try.ntmps67
    go_wp2_with (go_at_call 83; (with_reducible refine (hD.out _).mono ?_); rintro e w1 ⟨v, rfl, ho, hb⟩; have ho' := Lib.hid (ho.mono hB.out.size); have hb' := Lib.hid (hB.out.trans (hb.mono hB.out.size)); clear ho hb)
    go_ret
    exact ⟨_, rfl, ho'.out, hb'.out⟩
  · have h1 : IntKind.u64.wrap n = (n.natAbs : Int) := by rw [IntKind.wrap_u64]; omega
    clear e
    go_enter Try.func67, Try.ntmps67
    go_wp2_with (go_at_call 83; (with_reducible refine (hD.out _).mono ?_); rintro e w1 ⟨v, rfl, ho, hb⟩; have ho' := Lib.hid (ho.mono hB.out.size); have hb' := Lib.hid (hB.out.trans (hb.mono hB.out.size)); clear ho hb)
    go_ret
    exact ⟨_, rfl, ho'.out, hb'.out⟩
set_option maxHeartbeats 4000000 in
set_option maxRecDepth 100000 in
theorem rsize_flt (n : Int) (b : Nat) (s : ByteArray) (hb : b < 18446744073709551616) (w : World) :
    Calls Try.prog 67 #[vA 2 n b s] w fun e w' => ∃ v, e = .returned v ∧ OwnB w.heap.size 5 w' v (szF 2 n b) ∧ Below w.heap.size w w' := by
  have hp := Lib.hid (heap_alloc_new w (.cells (vC 2 n b s) 26))
  have hB := Lib.hid (below_a w (.cells (vC 2 n b s) 26))
  obtain ⟨c0, c1, c2, c3⟩ := cellsV hp.out
  have hX := Lib.hid (fun w => rexp_any b hb w)
  have hF := Lib.hid (fun w => rfrac_any b hb w)
  have x1 := spX_lt b
  have f1 := spF_lt b
  have e : szF 2 n b = if spX b = 0 then digF (spF b) 0 else digF (4503599627370496 + spF b) (spX b - 1) := by unfold szF; rw [if_neg (show ¬ (2 : Int) = 1 by decide)]
  have hc2 := Lib.hid (fun w' (h : Below (w.alloc (.cells (vC 2 n b s) 26)).heap.size (w.alloc (.cells (vC 2 n b s) 26)) w') => (cellsV (rowB hp.out h (Array.getElem?_eq_some_iff.1 hp.out).1)).2.2.1)
  by_cases h0 : spX b = 0
  · rw [if_pos h0] at e
    rw [e]
    have hD := Lib.hid (fun w => rdigits_any (spF b) 0 (by omega) (by omega) w)
    rw [show ((0 : Nat) : Int) = 0 from rfl] at hD
    rw [h0, show ((0 : Nat) : Int) = 0 from rfl] at hX
    generalize digF (spF b) 0 = DD at *
    generalize spF b = FF at *
    clear e h0 x1 f1 hb hc2
    go_enter Try.func67, Try.ntmps67
    go_upto_region 5 with fail
    go_quiet (((first | (go_at_call 44; exact Calls.quiet_of_same ((hX.out _).mono fun _ _ h => ⟨h.1, h.2.symm⟩)) | (go_at_call 45; exact Calls.quiet_of_same ((hF.out _).mono fun _ _ h => ⟨h.1, h.2.symm⟩)))))
    have hBd := Lib.hid (((Draws.refl (w.alloc (.cells #[.int .u8 2, .int .i64 n, .int .u64 (b : Int), .string s] 26))).drewN nq).below hB.out)
    generalize (w.alloc (.cells #[.int .u8 2, .int .i64 n, .int .u64 (b : Int), .string s] 26)).drewN nq = wq at *
    go_wp2_with (go_at_call 83; (with_reducible refine (hD.out _).mono ?_); rintro e w1 ⟨v, rfl, ho, hb⟩; have ho' := Lib.hid (ho.mono hBd.out.size); have hb' := Lib.hid (hBd.out.trans (hb.mono hBd.out.size)); clear ho hb)
    go_ret
    exact ⟨_, rfl, ho'.out, hb'.out⟩
  · rw [if_neg h0] at e
    rw [e]
    have hD := Lib.hid (fun w => rdigits_any (4503599627370496 + spF b) (spX b - 1) (by omega) (by omega) w)
    rw [show ((4503599627370496 + spF b : Nat) : Int) = 4503599627370496 + (spF b : Int) by omega, show ((spX b - 1 : Nat) : Int) = (spX b : Int) - 1 by omega] at hD
    generalize digF (4503599627370496 + spF b) (spX b - 1) = DD at *
    generalize spF b = FF at *
    generalize spX b = XX at *
    have h0b : ((XX : Int) == 0) = false := by simpa using h0
    have x2 : (XX : Int) < 2048 := by omega
    have f2 : (FF : Int) < 4503599627370496 := by omega
    clear e h0 x1 f1 hb hc2
    go_enter Try.func67, Try.ntmps67
    go_upto_region 5 with fail
    go_quiet (((first | (go_at_call 44; exact Calls.quiet_of_same ((hX.out _).mono fun _ _ h => ⟨h.1, h.2.symm⟩)) | (go_at_call 45; exact Calls.quiet_of_same ((hF.out _).mono fun _ _ h => ⟨h.1, h.2.symm⟩)))))
    have hBd := Lib.hid (((Draws.refl (w.alloc (.cells #[.int .u8 2, .int .i64 n, .int .u64 (b : Int), .string s] 26))).drewN nq).below hB.out)
    generalize (w.alloc (.cells #[.int .u8 2, .int .i64 n, .int .u64 (b : Int), .string s] 26)).drewN nq = wq at *
    go_wp2_with (go_at_call 83; (with_reducible refine (hD.out _).mono ?_); rintro e w1 ⟨v, rfl, ho, hb⟩; have ho' := Lib.hid (ho.mono hBd.out.size); have hb' := Lib.hid (hBd.out.trans (hb.mono hBd.out.size)); clear ho hb)
    go_ret
    exact ⟨_, rfl, ho'.out, hb'.out⟩
theorem rsize_any (k n : Int) (b : Nat) (s : ByteArray) (hk : k = 1 ∨ k = 2) (hn : -9223372036854775808 ≤ n ∧ n ≤ 9223372036854775807) (hb : b < 18446744073709551616) (w : World) :
    Calls Try.prog 67 #[vA k n b s] w fun e w' => ∃ v, e = .returned v ∧ OwnB w.heap.size 5 w' v (szF k n b) ∧ Below w.heap.size w w' := by
  rcases hk with rfl | rfl
  · exact rsize_num n b s hn w
  · exact rsize_flt n b s hb w
theorem lsE_zero : ∀ (a b : List Int), (∀ i, i < a.length → ith a i = ith b i) → a.length = b.length → lsE a b = 0
  | [], [], _, _ => rfl
  | x :: a, y :: b, h, hl => by
    have h0 : x = y := h 0 (by simp)
    rw [lsE, lsE_zero a b (fun i hi => h (i + 1) (by simpa using hi)) (by simpa using hl), if_pos rfl, cmpI_same h0]
theorem lsE_at : ∀ (a b : List Int) (i : Nat), a.length = b.length → i < a.length → (∀ j, i < j → j < a.length → ith a j = ith b j) → ith a i ≠ ith b i → lsE a b = cmpI (ith a i) (ith b i)
  | x :: a, y :: b, 0, hl, _, hj, hne => by
    have hz := lsE_zero a b (fun j h => hj (j + 1) (by omega) (by simpa using h)) (by simpa using hl)
    rw [lsE, hz, if_pos rfl]; rfl
  | x :: a, y :: b, i + 1, hl, hi, hj, hne => by
    have ih := lsE_at a b i (by simpa using hl) (by simpa using hi) (fun j h1 h2 => hj (j + 1) (by omega) (by simpa using h2)) hne
    have hz : lsE a b ≠ 0 := by
      rw [ih]
      have hne2 : ith a i ≠ ith b i := hne
      rcases Int.lt_trichotomy (ith a i) (ith b i) with g | g | g
      · rw [cmpI_lt g]; decide
      · exact absurd g hne2
      · rw [cmpI_gt g]; decide
    rw [lsE, if_neg hz, ih]; rfl
set_option maxHeartbeats 4000000 in
set_option maxRecDepth 100000 in
theorem rless_any (va vb : Value) (a b : List Int) (w : World) (hm : a.length ≤ 1000000) (hm2 : b.length ≤ 1000000) (h1 : RdB w va a) (h2 : RdB w vb b) :
    Calls Try.prog 66 #[va, vb] w fun e w' => e = .returned (.int .i64 (lsF a b)) ∧ Below w.heap.size w w' := by
  obtain ⟨aa, ac, rfl⟩ := h1.slice
  obtain ⟨ba, bc, rfl⟩ := h2.slice
  have h1' := Lib.hid h1
  have h2' := Lib.hid h2
  clear h1 h2
  obtain ⟨R, hR⟩ : ∃ R, R = lsF a b := ⟨_, rfl⟩
  rw [← hR]
  unfold lsF at hR
  by_cases hl : a.length = b.length
  · rw [if_pos hl] at hR
    have hR' := Lib.hid hR
    have hl' := Lib.hid hl
    rw [← hl]
    have hN : a.length ≤ 1000000 := hm
    obtain ⟨N, hNa⟩ : ∃ N, N = a.length := ⟨_, rfl⟩
    rw [← hNa] at hN ⊢
    have hNa' := Lib.hid hNa
    have hN2 : (N : Int) ≤ 1000000 := by omega
    clear hR hl hm hm2 hNa
    go_enter Try.func66, Try.ntmps66
    go_wp2
    go_loopw [5] (fun i wr => ∃ k : Nat, k ≤ N ∧ i = .int .i64 ((k : Int) - 1) ∧ (∀ j, k ≤ j → j < N → ith a j = ith b j) ∧ Draws w wr) (fun i _ => (intOf i + 1).toNat)
    case atStart => exact ⟨N, Nat.le_refl _, rfl, (fun j h1 h2 => absurd h2 (by omega)), Draws.refl _⟩
    case round =>
      obtain ⟨k, hk, rfl, heq, hd⟩ := hrel
      have heq' := Lib.hid heq
      have hd' := Lib.hid hd
      clear heq hd
      cases k with
      | zero =>
        have hC := Lib.hid (hR'.out.trans (lsE_zero a b (fun i hi => heq'.out i (Nat.zero_le _) (by rw [hNa'.out]; exact hi)) hl'.out))
        clear heq' hR'
        go_wp2
        go_ret
        exact ⟨ret_int hC.out.symm, hd'.out.below (Below.refl _ _)⟩
      | succ q =>
        have hq : q < N := by omega
        obtain ⟨b1, o1, rfl, _, e1⟩ := rdB_at h1'.out q (by rw [← hNa'.out]; exact hq)
        obtain ⟨b2, o2, rfl, _, e2⟩ := rdB_at h2'.out q (by rw [← hl'.out, ← hNa'.out]; exact hq)
        have c1 := (hd'.out.cell _).trans e1
        have c2 := (hd'.out.cell _).trans e2
        rw [show ((q + 1 : Nat) : Int) - 1 = (q : Int) by omega]
        have q1 : (0 : Int) ≤ (q : Int) := by omega
        have q2 : (q : Int) < (N : Int) := by omega
        clear e1 e2
        by_cases hne : ith a q = ith b q
        · have hnq := Lib.hid hne
          rw [← hne] at c2
          generalize ith a q = x at c1 c2
          clear hne
          go_wp2
          go_quiet (fail)
          go_wp2
          go_roundw
          case rel =>
            refine ⟨q, by omega, by go_num, fun j j1 j2 => ?_, hd'.out.drewN _⟩
            by_cases hjq : j = q
            · rw [hjq]; exact hnq.out
            · exact heq'.out j (by omega) j2
          case measure => simp [intOf]
        · have hC := Lib.hid (hR'.out.trans (lsE_at a b q hl'.out (by rw [← hNa'.out]; exact hq) (fun j j1 j2 => heq'.out j (by omega) (by rw [hNa'.out]; exact j2)) hne))
          generalize ith a q = x at *
          generalize ith b q = y at *
          have hxy : (x != y) = true := by simpa using hne
          rcases Int.lt_trichotomy x y with g | g | g
          · rw [cmpI_lt g] at hC
            clear hne heq'
            go_wp2
            go_quiet (fail)
            go_wp2
            go_quiet (fail)
            go_wp2
            go_ret
            exact ⟨ret_int hC.out.symm, ((hd'.out.drewN _).drewN _).below (Below.refl _ _)⟩
          · exact absurd g hne
          · have g2 : ¬ x < y := by omega
            rw [cmpI_gt g] at hC
            clear hne heq' g
            go_wp2
            go_quiet (fail)
            go_wp2
            go_quiet (fail)
            go_wp2
            go_ret
            exact ⟨ret_int hC.out.symm, ((hd'.out.drewN _).drewN _).below (Below.refl _ _)⟩
  · rw [if_neg hl] at hR
    have hlb : ((a.length : Int) != (b.length : Int)) = true := by simp; omega
    by_cases hlt : a.length < b.length
    · rw [if_pos hlt] at hR
      subst hR
      have g : (a.length : Int) < (b.length : Int) := by omega
      generalize a.length = N at *
      generalize b.length = M at *
      clear hl hlt
      go_enter Try.func66, Try.ntmps66
      go_wp2
      go_ret
      exact ⟨rfl, Below.refl _ _⟩
    · rw [if_neg hlt] at hR
      subst hR
      have g : ¬ (a.length : Int) < (b.length : Int) := by omega
      generalize a.length = N at *
      generalize b.length = M at *
      clear hl hlt
      go_enter Try.func66, Try.ntmps66
      go_wp2
      go_ret
      exact ⟨rfl, Below.refl _ _⟩
end Go.Proofs.Ytpklfohaifeboaa

/- Contracts of package value: where values stand. -/
import Derived.Test.YtpklfohaifeboaaV03
import Derived.Test.YtpklfohaifeboaaV05
import Derived.Test.YtpklfohaifeboaaLexL
namespace Go.Proofs.Ytpklfohaifeboaa
open Go.RowKit Go.Ytpklfohaifeboaa
set_option linter.unusedVariables false
theorem and_two63 (b : Nat) : b &&& 2 ^ 63 = if b.testBit 63 = true then 2 ^ 63 else 0 := by
  apply Nat.eq_of_testBit_eq
  intro i
  rw [Nat.testBit_and, Nat.testBit_two_pow]
  by_cases hi : 63 = i
  · subst hi
    rw [show decide (63 = 63) = true from rfl, Bool.and_true]
    cases b.testBit 63
    · rfl
    · rw [if_pos rfl, Nat.testBit_two_pow]; rfl
  · have : (if b.testBit 63 = true then 2 ^ 63 else 0 : Nat).testBit i = false := by
      split
      · rw [Nat.testBit_two_pow]; simpa using hi
      · simp
    rw [this]; simp [hi]
theorem and_sign (b : Nat) (hb : b < 18446744073709551616) : bits .and .u64 (b : Int) 9223372036854775808 = if b < 9223372036854775808 then 0 else 9223372036854775808 := by
  have h := bits_and_nat b (2 ^ 63) hb (by omega)
  rw [and_two63] at h
  have ht : b.testBit 63 = decide (¬ b < 9223372036854775808) := by
    rw [Nat.testBit_eq_decide_div_mod_eq]
    exact Bool.eq_iff_iff.2 (by simp only [decide_eq_true_eq]; omega)
  rw [ht] at h
  refine (show _ = bits .and .u64 (b : Int) ((2 ^ 63 : Nat) : Int) from rfl).trans (h.trans ?_)
  by_cases hlt : b < 9223372036854775808
  · rw [if_pos hlt, if_neg (by simp [hlt])]; rfl
  · rw [if_neg hlt, if_pos (by simp [hlt])]; rfl
theorem xor_max (n : Nat) (h : n < 18446744073709551616) : bits BinOp.xor IntKind.u64 IntKind.u64.max (n : Int) = 18446744073709551615 - (n : Int) := by
  show IntKind.u64.wrap ((BitVec.ofInt 64 IntKind.u64.max ^^^ BitVec.ofInt 64 (n : Int)).toNat : Int) = _
  rw [show BitVec.ofInt 64 IntKind.u64.max = BitVec.allOnes 64 from rfl, BitVec.allOnes_xor, BitVec.toNat_not, BitVec.toNat_ofInt, IntKind.wrap_u64]
  omega
theorem or_sign (b : Nat) (hb : b < 9223372036854775808) : bits .or .u64 (b : Int) 9223372036854775808 = ((b + 9223372036854775808 : Nat) : Int) := by
  have h := bits_or_nat b 9223372036854775808 (by omega) (by omega)
  rw [Nat.or_comm, show (9223372036854775808 : Nat) = 2 ^ 63 * 1 by decide, ← Nat.two_pow_add_eq_or_of_lt (by omega) 1] at h
  rw [show (9223372036854775808 : Int) = ((2 ^ 63 * 1 : Nat) : Int) by decide, h]
  omega
theorem sign_or (b : Nat) (hb : b < 9223372036854775808) : bits .or .u64 9223372036854775808 (b : Int) = ((9223372036854775808 + b : Nat) : Int) := by
  have h := bits_or_nat 9223372036854775808 b (by omega) (by omega)
  rw [show (9223372036854775808 : Nat) = 2 ^ 63 * 1 by decide, ← Nat.two_pow_add_eq_or_of_lt (by omega) 1] at h
  rw [show (9223372036854775808 : Int) = ((2 ^ 63 * 1 : Nat) : Int) by decide, h]
set_option maxRecDepth 100000 in
theorem rank_any (b : Nat) (hb : b < 18446744073709551616) (w : World) :
    Calls Try.prog 54 #[.int .u64 (b : Int)] w fun e w' => e = .returned (.int .u64 (rankF b : Nat)) ∧ w = w' := by
  have hs := and_sign b hb
  by_cases hlt : b < 9223372036854775808
  · rw [if_pos hlt] at hs
    have ho := Lib.hid (or_sign b hlt)
    have e := Lib.hid (show rankF b = b + 9223372036854775808 by unfold rankF; rw [if_pos hlt])
    clear hb hlt
    go_enter Try.func54, Try.ntmps54
    go_wp2
    go_ret
    exact ⟨ret_int (by rw [e.out]; exact ho.out), rfl⟩
  · rw [if_neg hlt] at hs
    have e := Lib.hid (show (rankF b : Int) = 18446744073709551615 - b by unfold rankF; rw [if_neg hlt]; omega)
    have hb' := Lib.hid hb
    clear hb hlt
    go_enter Try.func54, Try.ntmps54
    go_wp2
    go_ret
    exact ⟨ret_int (by rw [e.out]; exact xor_max b hb'.out), rfl⟩
set_option maxRecDepth 100000 in
theorem cut_any (n : Nat) (hn : n < 18446744073709551616) (w : World) :
    Calls Try.prog 75 #[.int .u64 (n : Int)] w fun e w' => e = .returned (.tuple #[.int .u64 (cutB n : Nat), .int .i64 (cutR n : Nat)]) ∧ w = w' := by
  by_cases h0 : n = 0
  · subst h0
    clear hn
    go_enter Try.func75, Try.ntmps75
    go_wp2
    go_ret2
    exact ⟨rfl, rfl⟩
  have hb := Try.bits_Len64 (n : Int) w (by omega) (by omega)
  rw [Int.toNat_natCast] at hb
  have hb' := Lib.hid hb
  obtain ⟨l1, l2, l3, l4⟩ := bitLen_in n h0 hn
  obtain ⟨d1, d2⟩ := cutD_in n h0 hn
  have hB : cutB n = (1022 + Lib.bitLen n) * 4503599627370496 + cutD n / 2048 % 4503599627370496 := by unfold cutB; rw [if_neg h0]
  have hR : cutR n = cutD n % 2048 := by unfold cutR; rw [if_neg h0]
  have hD : cutD n = n * 2 ^ (64 - Lib.bitLen n) := rfl
  rw [hB, hR]
  generalize cutD n = D at *
  generalize Lib.bitLen n = L at *
  have hn0 : ((n : Int) == 0) = false := by simpa using h0
  have hD' := Lib.hid hD
  have hd' := Lib.hid (And.intro d1 d2)
  clear hB hR hb hn h0 l3 l4 hD d1 d2
  go_enter Try.func75, Try.ntmps75
  go_wp2_with (go_at_call 86; (with_reducible refine (hb'.out).mono ?_); rintro e w' ⟨rfl, rfl⟩)
  go_ret2
  obtain ⟨d1, d2⟩ := hd'.out
  have hD := hD'.out
  have w1 : IntKind.u64.wrap ((n : Int) * 2 ^ (64 - L)) = (D : Int) := by
    rw [IntKind.wrap_u64, show (n : Int) * 2 ^ (64 - L) = ((n * 2 ^ (64 - L) : Nat) : Int) by simp, ← hD]
    omega
  have w2 : IntKind.u64.wrap ((D : Int) * 2) / 4096 = ((D / 2048 % 4503599627370496 : Nat) : Int) := by
    rw [IntKind.wrap_u64]; omega
  have w3 : (1023 + (L : Int) - 1) * 4503599627370496 = ((2 ^ 52 * (1022 + L) : Nat) : Int) := by omega
  have w4 := or_high 52 (1022 + L) (D / 2048 % 4503599627370496) (by omega) (by omega)
  have w5 : wrap64 ((D % 2048 : Nat) : Int) = ((D % 2048 : Nat) : Int) := by
    have : D % 2048 < 2048 := Nat.mod_lt _ (by decide)
    unfold wrap64; omega
  rw [Nat.mul_comm (1022 + L) 4503599627370496]
  refine ⟨?_, rfl⟩
  show Ending.returned (.tuple #[.int .u64 (bits BinOp.or IntKind.u64 ((1023 + (L : Int) - 1) * 4503599627370496) (IntKind.u64.wrap (IntKind.u64.wrap ((n : Int) * 2 ^ (64 - L)) * 2) / 4096)), .int .i64 (wrap64 (bits BinOp.and IntKind.u64 (IntKind.u64.wrap ((n : Int) * 2 ^ (64 - L))) 2047))]) = _
  rw [w1, w2, w3, w4, and_2047 D d2, w5]
abbrev plA (f : Nat) (r k : Int) : Value := .agg #[.int .u64 (f : Int), .int .i64 r, .int .u8 k]
theorem info_place : (Try.prog.info? 66).map (·.size) = some 3 := by kernel_rfl
set_option maxRecDepth 100000 in
theorem placeNum_any (n : Int) (hn : -9223372036854775808 ≤ n ∧ n ≤ 9223372036854775807) (w : World) :
    Calls Try.prog 53 #[.int .i64 n] w fun e w' => e = .returned (plA (plF 1 n 0) (plR 1 n) 1) ∧ Below w.heap.size w w' := by
  by_cases h0 : n < 0
  · have hc := Lib.hid (fun w => cut_any (-n).toNat (by omega) w)
    have hB := cutB_lt (-n).toNat (by omega)
    have hR := cutR_lt (-n).toNat
    have hs := Lib.hid (sign_or (cutB (-n).toNat) hB)
    have hr := Lib.hid (fun w => rank_any (9223372036854775808 + cutB (-n).toNat) (by omega) w)
    have e1 : plF 1 n 0 = rankF (9223372036854775808 + cutB (-n).toNat) := by unfold plF; rw [if_pos rfl, if_pos h0]
    have e2 : plR 1 n = -(cutR (-n).toNat : Int) := by unfold plR; rw [if_pos rfl, if_pos h0]
    rw [e1, e2]
    have w1 : IntKind.u64.wrap (-IntKind.u64.wrap n) = ((-n).toNat : Int) := by rw [IntKind.wrap_u64, IntKind.wrap_u64]; omega
    generalize cutB (-n).toNat = B at *
    generalize cutR (-n).toNat = R at *
    generalize (-n).toNat = N at *
    generalize rankF (9223372036854775808 + B) = F at *
    generalize 9223372036854775808 + B = M at *
    have hR' := Lib.hid (show wrap64 (-(R : Int)) = -(R : Int) by unfold wrap64; omega)
    clear hn hB hR e1 e2
    go_enter Try.func53, Try.ntmps53
    go_wp2_with (go_at_call 75; (with_reducible refine (hc.out _).mono ?_); rintro e w' ⟨rfl, rfl⟩; refine Stop.go'' _ ?_)
    refine StopP.go ?_
    have hs := hs.out
    go_wp2_with (go_at_call 54; (with_reducible refine (hr.out _).mono ?_); rintro e w' ⟨rfl, rfl⟩)
    simp only [hR'.out]
    exact bodyPost_ret (results_cell_row rfl _ _ w.heap.size 66 _ _ _ rfl (heap_alloc_new w _) Try.underlying66 rfl info_place) rfl ⟨rfl, below_a _ _⟩
  · have hc := Lib.hid (fun w => cut_any n.toNat (by omega) w)
    have hB := cutB_lt n.toNat (by omega)
    have hr := Lib.hid (fun w => rank_any (cutB n.toNat) (by omega) w)
    have e1 : plF 1 n 0 = rankF (cutB n.toNat) := by unfold plF; rw [if_pos rfl, if_neg h0]
    have e2 : plR 1 n = (cutR n.toNat : Int) := by unfold plR; rw [if_pos rfl, if_neg h0]
    rw [e1, e2]
    have w1 : IntKind.u64.wrap n = (n.toNat : Int) := by rw [IntKind.wrap_u64]; omega
    generalize cutR n.toNat = R at *
    generalize rankF (cutB n.toNat) = F at *
    generalize cutB n.toNat = B at *
    generalize n.toNat = N at *
    clear hn hB e1 e2
    go_enter Try.func53, Try.ntmps53
    go_wp2_with (first | (go_at_call 75; (with_reducible refine (hc.out _).mono ?_); rintro e w' ⟨rfl, rfl⟩) | (go_at_call 54; (with_reducible refine (hr.out _).mono ?_); rintro e w' ⟨rfl, rfl⟩))
    exact bodyPost_ret (results_cell_row rfl _ _ w.heap.size 66 _ _ _ rfl (heap_alloc_new w _) Try.underlying66 rfl info_place) rfl ⟨rfl, below_a _ _⟩
theorem placeCells {w : World} {g : Nat} {f : Nat} {r k : Int} (h : w.heap[g]? = some (.cells #[.int .u64 (f : Int), .int .i64 r, .int .u8 k] 66 (0, 0))) :
    w.cell? ⟨g, 0, none⟩ = some (.int .u64 (f : Int)) ∧ w.cell? ⟨g, 1, none⟩ = some (.int .i64 r) ∧ w.cell? ⟨g, 2, none⟩ = some (.int .u8 k) :=
  ⟨cell_of_row _ _ _ _ _ _ h, cell_of_row _ _ _ _ _ _ h, cell_of_row _ _ _ _ _ _ h⟩
theorem place_one (f : Nat) (r k : Int) : (#[Value.int .u64 (f : Int), .int .i64 r, .int .u8 k] : Array Value).all (·.oneCell') = true := by simp [Value.oneCell']
set_option maxHeartbeats 1000000 in
set_option maxRecDepth 100000 in
theorem placeOf_any (k n : Int) (b : Nat) (s : ByteArray) (hk : 1 ≤ k ∧ k ≤ 3) (hn : -9223372036854775808 ≤ n ∧ n ≤ 9223372036854775807) (hb : b < 18446744073709551616) (w : World) :
    Calls Try.prog 35 #[vA k n b s] w fun e w' => e = .returned (plA (plF k n b) (plR k n) k) ∧ Below w.heap.size w w' := by
  have hr0 := heap_alloc_new w (.cells (vC k n b s) 26)
  have es : (w.alloc (.cells (vC k n b s) 26)).heap.size = w.heap.size + 1 := by simp
  have hp := Lib.hid (rowB hr0 (below_a _ (.cells #[.int .u64 0, .int .i64 0, .int .u8 0] 66)) (by simp))
  have hq0 := heap_alloc_new (w.alloc (.cells (vC k n b s) 26)) (.cells #[.int .u64 0, .int .i64 0, .int .u8 0] 66)
  rw [es] at hq0
  have hq := Lib.hid hq0
  have hB := Lib.hid ((below_a w (.cells (vC k n b s) 26)).trans ((below_a _ (.cells #[.int .u64 0, .int .i64 0, .int .u8 0] 66)).mono (by simp)))
  have hlt := Lib.hid (Array.getElem?_eq_some_iff.1 hq0).1
  clear hr0 es hq0
  by_cases h1 : k = 1
  · subst h1
    have hN := Lib.hid (fun w => placeNum_any n hn w)
    rw [show plF 1 n b = plF 1 n 0 from rfl]
    generalize plF 1 n 0 = F at *
    generalize plR 1 n = R at *
    clear hb hn hk
    go_enter Try.func35, Try.ntmps35
    go_upto_region 1 with fail
    generalize (w.alloc (.cells (vC 1 n b s) 26)).alloc (.cells #[.int .u64 0, .int .i64 0, .int .u8 0] 66) = W2 at *
    obtain ⟨c0, c1, c2, c3⟩ := cellsV hp.out
    go_wp2_with (first | (go_at_call 53; (with_reducible refine (hN.out _).mono ?_); rintro e w1 ⟨rfl, h1⟩; have hq1 := Lib.hid (rowB hq.out h1 hlt.out); have hb1 := Lib.hid (hB.out.trans (h1.mono hB.out.size)); clear h1 c0 c1 c2 c3) | (refine storeOver w1 (w.heap.size + 1) _ rfl 66 _ _ rfl #[.int .u64 (F : Int), .int .i64 R, .int .u8 1] 66 hq1.out rfl rfl info_place rfl (place_one _ _ _) ?_; intro w2 hr2 hb2; have hr2' := Lib.hid hr2; have hb2' := Lib.hid hb2; clear hr2 hb2))
    exact bodyPost_ret (results_cell_row rfl _ _ (w.heap.size + 1) 66 _ _ _ rfl hr2'.out Try.underlying66 rfl info_place) rfl ⟨rfl, hb1.out.trans (hb2'.out.mono (Nat.le_succ _))⟩
  by_cases h2 : k = 2
  · subst h2
    have hR := Lib.hid (fun w => rank_any b hb w)
    rw [show plF 2 n b = rankF b from rfl, show plR 2 n = 0 from rfl]
    generalize rankF b = F at *
    clear hb hn hk h1
    go_enter Try.func35, Try.ntmps35
    go_upto_region 1 with fail
    generalize (w.alloc (.cells (vC 2 n b s) 26)).alloc (.cells #[.int .u64 0, .int .i64 0, .int .u8 0] 66) = W2 at *
    obtain ⟨c0, c1, c2, c3⟩ := cellsV hp.out
    go_upto_region 5 with fail
    clear c0 c1 c2 c3
    refine wp_region_headN (C := fun w' => Below W2.heap.size W2 w') 6 [] (by kernel_rfl) (by kernel_rfl) ((Below.refl _ _).drew) ?_
    simp only [List.take_succ_cons, List.take_zero, List.drop_succ_cons, List.drop_zero]
    repeat (first | (refine head_step _ (by rfl) (quiet_cell 23 _ rfl w.heap.size 2 rfl (.int .u64 (b : Int)) (fun w h => cell_of_row _ _ _ _ _ _ (rowB hp.out h (Array.getElem?_eq_some_iff.1 hp.out).1)) Try.isAgg23) rfl rfl (fun K hK => ?_); go_simp; refine hK _ ?_; clear hK K)
                  | (refine head_step _ (by rfl) (quiet_cell 5 _ rfl w.heap.size 0 rfl (.int .u8 2) (fun w h => cell_of_row _ _ _ _ _ _ (rowB hp.out h (Array.getElem?_eq_some_iff.1 hp.out).1)) Try.isAgg5) rfl rfl (fun K hK => ?_); go_simp; refine hK _ ?_; clear hK K)
                  | (refine head_step (.int .u64 (F : Int)) (by rfl) (qa_call1 (.int .u64 (b : Int)) rfl Try.func54 (by kernel_rfl) rfl rfl rfl (fun w h => (hR.out w).mono fun e w' ⟨he, hb⟩ => ⟨he, hb ▸ h⟩)) rfl rfl (fun K hK => ?_); go_simp; refine hK _ ?_; clear hK K)
                  | (refine head_walk (by rfl) (fun K hK => ?_); go_simp; first | (refine hK _ ?_; clear hK K) | (refine ⟨_, fun _ _ => rfl, ?_⟩; refine hK _ ?_; clear hK K)))
    refine head_nil ?_
    intro w1 h1
    have hq1 := Lib.hid (rowB hq.out h1 hlt.out)
    have hb1 := Lib.hid (hB.out.trans (h1.mono hB.out.size))
    clear h1
    go_wp2_with (refine storeOver w1 (w.heap.size + 1) _ rfl 66 _ _ rfl #[.int .u64 (F : Int), .int .i64 0, .int .u8 2] 66 hq1.out rfl rfl info_place rfl (place_one _ _ _) ?_; intro w2 hr2 hb2; have hr2' := Lib.hid hr2; have hb2' := Lib.hid hb2; clear hr2 hb2)
    refine NoPanic.normal ?_
    go_wp2
    exact bodyPost_ret (results_cell_row rfl _ _ (w.heap.size + 1) 66 _ _ _ rfl hr2'.out Try.underlying66 rfl info_place) rfl ⟨rfl, hb1.out.trans (hb2'.out.mono (Nat.le_succ _))⟩
  · obtain rfl : k = 3 := by omega
    rw [show plF 3 n b = 18446744073709551615 from rfl, show plR 3 n = 0 from rfl]
    clear hb hn hk h1 h2
    go_enter Try.func35, Try.ntmps35
    go_upto_region 1 with fail
    generalize (w.alloc (.cells (vC 3 n b s) 26)).alloc (.cells #[.int .u64 0, .int .i64 0, .int .u8 0] 66) = W2 at *
    obtain ⟨c0, c1, c2, c3⟩ := cellsV hp.out
    go_wp2_with (refine storeOver W2 (w.heap.size + 1) _ rfl 66 _ _ rfl #[.int .u64 (18446744073709551615 : Int), .int .i64 0, .int .u8 3] 66 hq.out rfl rfl info_place rfl (place_one _ _ _) ?_; intro w2 hr2 hb2; have hr2' := Lib.hid hr2; have hb2' := Lib.hid hb2; clear hr2 hb2)
    exact bodyPost_ret (results_cell_row rfl _ _ (w.heap.size + 1) 66 _ _ _ rfl hr2'.out Try.underlying66 rfl info_place) rfl ⟨rfl, hB.out.trans (hb2'.out.mono (Nat.le_succ _))⟩
end Go.Proofs.Ytpklfohaifeboaa

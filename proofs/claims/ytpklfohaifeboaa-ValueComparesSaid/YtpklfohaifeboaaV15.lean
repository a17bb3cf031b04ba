/- ValueAs' walk. -/
import Derived.Test.YtpklfohaifeboaaV14
namespace Go.Proofs.Ytpklfohaifeboaa
open Go.RowKit Go.Ytpklfohaifeboaa
set_option linter.unusedVariables false
theorem boxes2 (w : World) (o1 o2 : Obj) : ((w.alloc o1).alloc o2).heap[w.heap.size]? = some o1 ∧ ((w.alloc o1).alloc o2).heap[w.heap.size + 1]? = some o2 ∧ Below w.heap.size w ((w.alloc o1).alloc o2) := by
  have e1 : (w.alloc o1).heap.size = w.heap.size + 1 := by simp
  have h1 := heap_alloc_new w o1
  have h2 := heap_alloc_new (w.alloc o1) o2
  have b2 := below_a (w.alloc o1) o2
  refine ⟨rowB h1 b2 (by omega), ?_, (below_a w o1).trans (b2.mono (by omega))⟩
  rw [e1] at h2; exact h2
set_option maxHeartbeats 8000000 in
set_option maxRecDepth 100000 in
theorem as_law (n m : Int) (x y : Nat) (k0 n0 : Int) (b0 : Nat) (s0 : ByteArray) (hn : -9223372036854775808 ≤ n ∧ n ≤ 9223372036854775807) (hm : -9223372036854775808 ≤ m ∧ m ≤ 9223372036854775807) (hx : x < 18446744073709551616) (hy : y < 18446744073709551616) (p0 : 0 ≤ k0 ∧ k0 < 256) (q0 : -9223372036854775808 ≤ n0 ∧ n0 ≤ 9223372036854775807) (r0 : b0 < 18446744073709551616) (w : World) :
    Calls Try.prog 7 #[.int .i64 n, .int .i64 m, .int .u64 (x : Int), .int .u64 (y : Int), vA k0 n0 b0 s0] w fun e w' => e = .returned (.bool true) ∧ Below w.heap.size w w' := by
  have hal := Lib.hid (fun w => alive_any w)
  have N1 := Lib.hid (fun w => number_val n w)
  have N2 := Lib.hid (fun w => number_val m w)
  have C1 := Lib.hid (fun w => cmp_ok 1 n 0 ⟨#[]⟩ 1 m 0 ⟨#[]⟩ (num_fit n hn) (num_fit m hm) (num_ok n) (num_ok m) w)
  rw [cmp_num n m hn hm] at C1
  have A1 : decide (cmpI n m < 0) = decide (n < m) := cmpI_neg n m
  have A2 : decide (0 < cmpI n m) = decide (m < n) := cmpI_pos n m
  generalize cmpI n m = A at *
  obtain ⟨w9, hw9⟩ : ∃ x, x = w.alloc (.cells (vC k0 n0 b0 s0) 26) := ⟨_, rfl⟩
  have hr0 : w9.heap[w.heap.size]? = some (.cells (vC k0 n0 b0 s0) 26 (0, 0)) := by rw [hw9]; exact heap_alloc_new w _
  have hr0 := Lib.hid hr0
  have hS := Lib.hid (show Below w.heap.size w w9 by rw [hw9]; exact below_a w _)
  have hn' := Lib.hid hn
  have hm' := Lib.hid hm
  have hx' := Lib.hid hx
  have hy' := Lib.hid hy
  have pqr := Lib.hid (And.intro p0 (And.intro q0 r0))
  clear hn hm hx hy p0 q0 r0
  go_enter Try.func7, Try.ntmps7
  go_upto_region 1 with fail
  rw [← hw9]
  clear hw9
  go_upto_if 50 with (first | (go_at_call 12; (first | (with_reducible refine (N1.out _).mono ?_) | (with_reducible refine (N2.out _).mono ?_)); rintro e w9 ⟨rfl, h9⟩; have hr0 := Lib.hid (rowB hr0.out h9 (Array.getElem?_eq_some_iff.1 hr0.out).1); have hS := Lib.hid (hS.out.trans (h9.mono hS.out.size)); clear h9) | (go_at_call 14; (first | (with_reducible refine (C1.out _).mono ?_)); rintro e w9 ⟨rfl, h9⟩; have hr0 := Lib.hid (rowB hr0.out h9 (Array.getElem?_eq_some_iff.1 hr0.out).1); have hS := Lib.hid (hS.out.trans (h9.mono hS.out.size)); clear h9))
  go_step
  go_step
  rename_i K hK
  refine hK _ _ ?_
  clear hK
  go_step
  go_cut [] (fun wz => wz.heap[w.heap.size]? = some (.cells (vC k0 n0 b0 s0) 26 (0, 0)) ∧ Below w.heap.size w wz)
  case first =>
    clear A1 A2 N1 N2 C1 hal
    have hx := hx'.out
    have hy := hy'.out
    have K1 := Lib.hid (fun w => class_any x hx w)
    have K2 := Lib.hid (fun w => class_any y hy w)
    have F1 := Lib.hid (fun w => float_val x hx w)
    have F2 := Lib.hid (fun w => float_val y hy w)
    by_cases cx : clsF x = 5
    · have hc1 : ((clsF x : Int) != 5) = false := by rw [cx]; rfl
      generalize (clsF x : Int) = c at *
      clear cx hx hy
      go_wp2_with (first | (go_at_call 9; (first | (with_reducible refine (K1.out _).mono ?_) | (with_reducible refine (K2.out _).mono ?_)); rintro e wz ⟨rfl, rfl⟩))
      go_meet
      exact ⟨hr0.out, hS.out⟩
    have hc1 : ((clsF x : Int) != 5) = true := by simp; omega
    by_cases cy : clsF y = 5
    · have hc2 : ((clsF y : Int) != 5) = false := by rw [cy]; rfl
      generalize (clsF x : Int) = c at *
      generalize (clsF y : Int) = d at *
      clear cx cy hx hy
      go_wp2_with (first | (go_at_call 9; (first | (with_reducible refine (K1.out _).mono ?_) | (with_reducible refine (K2.out _).mono ?_)); rintro e wz ⟨rfl, rfl⟩))
      go_meet
      exact ⟨hr0.out, hS.out⟩
    have hc2 : ((clsF y : Int) != 5) = true := by simp; omega
    by_cases hs : x / 9223372036854775808 = y / 9223372036854775808
    · have X1 := cmp_flt x y hx hy cx cy hs
      have C2 := Lib.hid (fun w => cmp_ok 2 0 (canF x) ⟨#[]⟩ 2 0 (canF y) ⟨#[]⟩ (flt_fit _ (canF_lt x hx)) (flt_fit _ (canF_lt y hy)) (flt_ok _ (canF_canF x)) (flt_ok _ (canF_canF y)) w)
      have g1 : ((x : Int) / 9223372036854775808 == (y : Int) / 9223372036854775808) = true := by simp; omega
      rw [X1] at C2
      generalize (clsF x : Int) = c at *
      generalize (clsF y : Int) = d at *
      generalize canF x = cfx at *
      generalize canF y = cfy at *
      by_cases h1 : x / 9223372036854775808 = 1
      · rw [if_pos h1] at C2
        have g2 : ((x : Int) / 9223372036854775808 == 1) = true := by simp; omega
        have A1 : decide (cmpI (y : Int) (x : Int) < 0) = decide (y < x) := by rw [cmpI_neg]; exact decide_eq_decide.2 (by omega)
        have A2 : decide (0 < cmpI (y : Int) (x : Int)) = decide (x < y) := by rw [cmpI_pos]; exact decide_eq_decide.2 (by omega)
        clear X1 cx cy hx hy hs h1
        generalize cmpI (y : Int) (x : Int) = B at *
        go_wp2_with (first | (go_at_call 9; (first | (with_reducible refine (K1.out _).mono ?_) | (with_reducible refine (K2.out _).mono ?_)); rintro e wz ⟨rfl, rfl⟩) | (go_at_call 11; (first | (with_reducible refine (F1.out _).mono ?_) | (with_reducible refine (F2.out _).mono ?_)); rintro e w9 ⟨rfl, h9⟩; have hr0 := Lib.hid (rowB hr0.out h9 (Array.getElem?_eq_some_iff.1 hr0.out).1); have hS := Lib.hid (hS.out.trans (h9.mono hS.out.size)); clear h9) | (go_at_call 14; (first | (with_reducible refine (C2.out _).mono ?_)); rintro e w9 ⟨rfl, h9⟩; have hr0 := Lib.hid (rowB hr0.out h9 (Array.getElem?_eq_some_iff.1 hr0.out).1); have hS := Lib.hid (hS.out.trans (h9.mono hS.out.size)); clear h9))
        go_meet
        exact ⟨hr0.out, hS.out⟩
      · rw [if_neg h1] at C2
        have g2 : ((x : Int) / 9223372036854775808 == 1) = false := by simp; omega
        have A1 : decide (cmpI (x : Int) (y : Int) < 0) = decide (x < y) := by rw [cmpI_neg]; exact decide_eq_decide.2 (by omega)
        have A2 : decide (0 < cmpI (x : Int) (y : Int)) = decide (y < x) := by rw [cmpI_pos]; exact decide_eq_decide.2 (by omega)
        clear X1 cx cy hx hy hs h1
        generalize cmpI (x : Int) (y : Int) = B at *
        go_wp2_with (first | (go_at_call 9; (first | (with_reducible refine (K1.out _).mono ?_) | (with_reducible refine (K2.out _).mono ?_)); rintro e wz ⟨rfl, rfl⟩) | (go_at_call 11; (first | (with_reducible refine (F1.out _).mono ?_) | (with_reducible refine (F2.out _).mono ?_)); rintro e w9 ⟨rfl, h9⟩; have hr0 := Lib.hid (rowB hr0.out h9 (Array.getElem?_eq_some_iff.1 hr0.out).1); have hS := Lib.hid (hS.out.trans (h9.mono hS.out.size)); clear h9) | (go_at_call 14; (first | (with_reducible refine (C2.out _).mono ?_)); rintro e w9 ⟨rfl, h9⟩; have hr0 := Lib.hid (rowB hr0.out h9 (Array.getElem?_eq_some_iff.1 hr0.out).1); have hS := Lib.hid (hS.out.trans (h9.mono hS.out.size)); clear h9))
        go_meet
        exact ⟨hr0.out, hS.out⟩
    · have g1 : ((x : Int) / 9223372036854775808 == (y : Int) / 9223372036854775808) = false := by simp; omega
      generalize (clsF x : Int) = c at *
      generalize (clsF y : Int) = d at *
      clear cx cy hx hy hs
      go_wp2_with (first | (go_at_call 9; (first | (with_reducible refine (K1.out _).mono ?_) | (with_reducible refine (K2.out _).mono ?_)); rintro e wz ⟨rfl, rfl⟩))
      go_meet
      exact ⟨hr0.out, hS.out⟩
  case rest =>
    rename_i hK
    refine hK _ _ ?_
    clear hK A1 A2 N2 C1
    obtain ⟨h0, h9⟩ := hcut
    have hr0 := Lib.hid h0
    have hS := Lib.hid h9
    clear h0 h9
    obtain ⟨p0, q0, r0⟩ := pqr.out
    have FI := Lib.hid (fun w => fit_any k0 n0 b0 s0 p0 r0 w)
    rw [show (decide (s0.size ≤ 100) && validB k0 n0 b0 s0) = fitV k0 n0 b0 s0 from rfl] at FI
    have hn := hn'.out
    by_cases h1 : 9007199254740992 < n
    · have h1b : decide (9007199254740992 < n) = true := decide_eq_true h1
      clear hn h1 p0 q0 r0
      generalize (9007199254740992 : Int) = c53 at h1b ⊢
      go_wp2_with (first | (go_at_call 29; (first | (with_reducible refine (FI.out _).mono ?_)); rintro e w9 ⟨rfl, h9⟩; have hr0 := Lib.hid (rowB hr0.out h9 (Array.getElem?_eq_some_iff.1 hr0.out).1); have hS := Lib.hid (hS.out.trans (h9.mono hS.out.size)); clear h9) | (go_at_call 20; (first | (with_reducible refine (hal.out _).mono ?_)); rintro e w9 ⟨rfl, h9⟩; have hr0 := Lib.hid (rowB hr0.out h9 (Array.getElem?_eq_some_iff.1 hr0.out).1); have hS := Lib.hid (hS.out.trans (h9.mono hS.out.size)); clear h9) | (refine wpList_load_row_g rfl 26 _ rfl (w.heap.size) rfl 26 (vC k0 n0 b0 s0) (0, 0) _ hr0.out Try.underlying26 rfl info_val ?_))
      go_ret
      exact ⟨rfl, hS.out⟩
    have h1b : decide (9007199254740992 < n) = false := decide_eq_false h1
    by_cases h2 : n < -9007199254740992
    · have h2b : decide (n < -9007199254740992) = true := decide_eq_true h2
      clear hn h1 h2 p0 q0 r0
      generalize (9007199254740992 : Int) = c53 at h1b h2b ⊢
      go_wp2_with (first | (go_at_call 29; (first | (with_reducible refine (FI.out _).mono ?_)); rintro e w9 ⟨rfl, h9⟩; have hr0 := Lib.hid (rowB hr0.out h9 (Array.getElem?_eq_some_iff.1 hr0.out).1); have hS := Lib.hid (hS.out.trans (h9.mono hS.out.size)); clear h9) | (go_at_call 20; (first | (with_reducible refine (hal.out _).mono ?_)); rintro e w9 ⟨rfl, h9⟩; have hr0 := Lib.hid (rowB hr0.out h9 (Array.getElem?_eq_some_iff.1 hr0.out).1); have hS := Lib.hid (hS.out.trans (h9.mono hS.out.size)); clear h9) | (refine wpList_load_row_g rfl 26 _ rfl (w.heap.size) rfl 26 (vC k0 n0 b0 s0) (0, 0) _ hr0.out Try.underlying26 rfl info_val ?_))
      go_ret
      exact ⟨rfl, hS.out⟩
    have h2b : decide (n < -9007199254740992) = false := decide_eq_false h2
    cases hf : fitV k0 n0 b0 s0
    · rw [hf] at FI
      clear hn h1 h2 p0 q0 r0 hf
      generalize (9007199254740992 : Int) = c53 at h1b h2b ⊢
      go_wp2_with (first | (go_at_call 29; (first | (with_reducible refine (FI.out _).mono ?_)); rintro e w9 ⟨rfl, h9⟩; have hr0 := Lib.hid (rowB hr0.out h9 (Array.getElem?_eq_some_iff.1 hr0.out).1); have hS := Lib.hid (hS.out.trans (h9.mono hS.out.size)); clear h9) | (go_at_call 20; (first | (with_reducible refine (hal.out _).mono ?_)); rintro e w9 ⟨rfl, h9⟩; have hr0 := Lib.hid (rowB hr0.out h9 (Array.getElem?_eq_some_iff.1 hr0.out).1); have hS := Lib.hid (hS.out.trans (h9.mono hS.out.size)); clear h9) | (refine wpList_load_row_g rfl 26 _ rfl (w.heap.size) rfl 26 (vC k0 n0 b0 s0) (0, 0) _ hr0.out Try.underlying26 rfl info_val ?_))
      go_ret
      exact ⟨rfl, hS.out⟩
    have hfit := fitV_ok p0 q0 r0 hf
    have hnn : -9007199254740992 ≤ n ∧ n ≤ 9007199254740992 := by omega
    obtain ⟨z1, z2⟩ := szB_in n hnn
    have SZ := Lib.hid (fun w => sized_any n hnn w)
    have FZ := Lib.hid (fun w => float_val (szB n) z1 w)
    rw [canF_of _ z2] at FZ
    have o1 := num_ok n
    have o2 := flt_ok (szB n) (canF_of _ z2)
    have f1 := num_fit n hn
    have f2 := flt_fit (szB n) z1
    have CO := Lib.hid (fun w => cmp_ok 1 n 0 ⟨#[]⟩ 2 0 (szB n) ⟨#[]⟩ f1 f2 o1 o2 w)
    rw [cmp_own n hnn] at CO
    have CV := Lib.hid (fun w => cmp_ok k0 n0 b0 s0 1 n 0 ⟨#[]⟩ hfit.1 f1 hfit.2 o1 w)
    have CW := Lib.hid (fun w => cmp_ok k0 n0 b0 s0 2 0 (szB n) ⟨#[]⟩ hfit.1 f2 hfit.2 o2 w)
    have hbt := Lib.hid (cmp_between ⟨k0, n0, b0, s0⟩ hfit.1 hfit.2 n hnn)
    have E0 := Lib.hid (fun w => flt_lit 9223372036854775808 9223372036854775808 9223372036854775808 rfl (by decide) (by decide +kernel) w)
    rw [hf] at FI
    generalize szB n = Z at *
    clear hn h1 h2 p0 q0 r0 hf hfit hnn z1 z2 o1 o2 f1 f2 hn' hm' hx' hy'
    generalize (9007199254740992 : Int) = c53 at h1b h2b ⊢
    go_upto_region 14 with (first | (go_at_call 29; (first | (with_reducible refine (FI.out _).mono ?_)); rintro e w9 ⟨rfl, h9⟩; have hr0 := Lib.hid (rowB hr0.out h9 (Array.getElem?_eq_some_iff.1 hr0.out).1); have hS := Lib.hid (hS.out.trans (h9.mono hS.out.size)); clear h9) | (go_at_call 12; (first | (with_reducible refine (N1.out _).mono ?_)); rintro e w9 ⟨rfl, h9⟩; have hr0 := Lib.hid (rowB hr0.out h9 (Array.getElem?_eq_some_iff.1 hr0.out).1); have hS := Lib.hid (hS.out.trans (h9.mono hS.out.size)); clear h9) | (go_at_call 30; (first | (with_reducible refine (SZ.out _).mono ?_)); rintro e wz ⟨rfl, rfl⟩) | (go_at_call 11; (first | (with_reducible refine (FZ.out _).mono ?_)); rintro e w9 ⟨rfl, h9⟩; have hr0 := Lib.hid (rowB hr0.out h9 (Array.getElem?_eq_some_iff.1 hr0.out).1); have hS := Lib.hid (hS.out.trans (h9.mono hS.out.size)); clear h9) | (refine wpList_load_row_g rfl 26 _ rfl (w.heap.size) rfl 26 (vC k0 n0 b0 s0) (0, 0) _ hr0.out Try.underlying26 rfl info_val ?_))
    clear h1b h2b
    obtain ⟨b1, b2, b3⟩ := boxes2 w9 (.cells (vC 1 n 0 ⟨#[]⟩) 26) (.cells (vC 2 0 Z ⟨#[]⟩) 26)
    have hr0 := Lib.hid (rowB hr0.out b3 (Array.getElem?_eq_some_iff.1 hr0.out).1)
    have hS := Lib.hid (hS.out.trans (b3.mono hS.out.size))
    have hr1 := Lib.hid b1
    have hr2 := Lib.hid b2
    clear b1 b2 b3
    generalize hg : w9.heap.size = g at *
    clear hg
    generalize (w9.alloc _).alloc _ = w9 at *
    go_upto_region 17 with (first | (go_at_call 14; (first | (with_reducible refine (CO.out _).mono ?_)); rintro e w9 ⟨rfl, h9⟩; have hr0 := Lib.hid (rowB hr0.out h9 (Array.getElem?_eq_some_iff.1 hr0.out).1); have hr1 := Lib.hid (rowB hr1.out h9 (Array.getElem?_eq_some_iff.1 hr1.out).1); have hr2 := Lib.hid (rowB hr2.out h9 (Array.getElem?_eq_some_iff.1 hr2.out).1); have hS := Lib.hid (hS.out.trans (h9.mono hS.out.size)); clear h9) | (refine wpList_load_row_g rfl 26 _ rfl (w.heap.size) rfl 26 (vC k0 n0 b0 s0) (0, 0) _ hr0.out Try.underlying26 rfl info_val ?_) | (refine wpList_load_row_g rfl 26 _ rfl (g) rfl 26 (vC 1 n 0 ⟨#[]⟩) (0, 0) _ hr1.out Try.underlying26 rfl info_val ?_) | (refine wpList_load_row_g rfl 26 _ rfl (g + 1) rfl 26 (vC 2 0 Z ⟨#[]⟩) (0, 0) _ hr2.out Try.underlying26 rfl info_val ?_))
    cases e1 : eqB k0 n0 b0 s0 1 n 0 ⟨#[]⟩
    · cases e2 : eqB k0 n0 b0 s0 2 0 Z ⟨#[]⟩
      · obtain ⟨d, d1, d2, d3⟩ := hbt.out e1 e2
        rw [d1] at CV
        rw [d2] at CW
        have d4 : (d != 0) = true := by simpa using d3
        clear d1 d2 d3
        cases e3 : eqB k0 n0 b0 s0 2 0 9223372036854775808 ⟨#[]⟩
        · refine wp_region_quiet (C := fun w' => Below w9.heap.size w9 w') (by kernel_rfl) (by kernel_rfl) ((Below.refl _ _).drew) ?_
          simp only [List.toList_toArray]
          repeat (first | (refine wpq _ rfl (quiet_row 26 _ rfl (w.heap.size) rfl 26 (vC k0 n0 b0 s0) (0, 0) _ (fun w h => rowB hr0.out h (Array.getElem?_eq_some_iff.1 hr0.out).1) Try.underlying26 rfl info_val) rfl (fun K hK => ?_); go_simp; refine hK _ ?_; clear hK K) | (refine wpq _ rfl (quiet_row 26 _ rfl (g) rfl 26 (vC 1 n 0 ⟨#[]⟩) (0, 0) _ (fun w h => rowB hr1.out h (Array.getElem?_eq_some_iff.1 hr1.out).1) Try.underlying26 rfl info_val) rfl (fun K hK => ?_); go_simp; refine hK _ ?_; clear hK K) | (refine wpq _ rfl (quiet_row 26 _ rfl (g + 1) rfl 26 (vC 2 0 Z ⟨#[]⟩) (0, 0) _ (fun w h => rowB hr2.out h (Array.getElem?_eq_some_iff.1 hr2.out).1) Try.underlying26 rfl info_val) rfl (fun K hK => ?_); go_simp; refine hK _ ?_; clear hK K) | (refine wpq _ rfl (qa_eqlV (ops := #[]) _ _ k0 n0 b0 s0 1 n 0 ⟨#[]⟩ _ rfl rfl rfl e1) rfl (fun K hK => ?_); go_simp; refine hK _ ?_; clear hK K) | (refine wpq _ rfl (qa_eqlV (ops := #[]) _ _ k0 n0 b0 s0 2 0 Z ⟨#[]⟩ _ rfl rfl rfl e2) rfl (fun K hK => ?_); go_simp; refine hK _ ?_; clear hK K) | (refine wpq _ rfl (qa_eqlV (ops := #[]) _ _ k0 n0 b0 s0 2 0 9223372036854775808 ⟨#[]⟩ _ rfl rfl rfl e3) rfl (fun K hK => ?_); go_simp; refine hK _ ?_; clear hK K) | (refine wpq (vA 2 0 9223372036854775808 ⟨#[]⟩) rfl (qa_call1 (.int .u64 9223372036854775808) rfl Try.func11 (by kernel_rfl) rfl rfl rfl (fun w h => (E0.out w).mono fun e w' ⟨he, hb⟩ => ⟨he, h.trans (hb.mono h.size)⟩)) rfl (fun K hK => ?_); go_simp; refine hK _ ?_; clear hK K) | go_big_quiet_skip | (go_big_quiet_want; go_big_quiet_op; first | go_big_quiet_on | (refine ⟨_, fun _ _ => rfl, ?_⟩; go_big_quiet_on)))
          refine wpQuiet_nil ?_
          intro w6 h9
          have hr0 := Lib.hid (rowB hr0.out h9 (Array.getElem?_eq_some_iff.1 hr0.out).1); have hr1 := Lib.hid (rowB hr1.out h9 (Array.getElem?_eq_some_iff.1 hr1.out).1); have hr2 := Lib.hid (rowB hr2.out h9 (Array.getElem?_eq_some_iff.1 hr2.out).1); have hS := Lib.hid (hS.out.trans (h9.mono hS.out.size))
          clear h9
          go_wp2_with (first | (go_at_call 14; (first | (with_reducible refine (CV.out _).mono ?_) | (with_reducible refine (CW.out _).mono ?_)); rintro e w9 ⟨rfl, h9⟩; have hr0 := Lib.hid (rowB hr0.out h9 (Array.getElem?_eq_some_iff.1 hr0.out).1); have hr1 := Lib.hid (rowB hr1.out h9 (Array.getElem?_eq_some_iff.1 hr1.out).1); have hr2 := Lib.hid (rowB hr2.out h9 (Array.getElem?_eq_some_iff.1 hr2.out).1); have hS := Lib.hid (hS.out.trans (h9.mono hS.out.size)); clear h9) | (go_at_call 20; (first | (with_reducible refine (hal.out _).mono ?_)); rintro e w9 ⟨rfl, h9⟩; have hr0 := Lib.hid (rowB hr0.out h9 (Array.getElem?_eq_some_iff.1 hr0.out).1); have hr1 := Lib.hid (rowB hr1.out h9 (Array.getElem?_eq_some_iff.1 hr1.out).1); have hr2 := Lib.hid (rowB hr2.out h9 (Array.getElem?_eq_some_iff.1 hr2.out).1); have hS := Lib.hid (hS.out.trans (h9.mono hS.out.size)); clear h9) | (refine wpList_load_row_g rfl 26 _ rfl (w.heap.size) rfl 26 (vC k0 n0 b0 s0) (0, 0) _ hr0.out Try.underlying26 rfl info_val ?_) | (refine wpList_load_row_g rfl 26 _ rfl (g) rfl 26 (vC 1 n 0 ⟨#[]⟩) (0, 0) _ hr1.out Try.underlying26 rfl info_val ?_) | (refine wpList_load_row_g rfl 26 _ rfl (g + 1) rfl 26 (vC 2 0 Z ⟨#[]⟩) (0, 0) _ hr2.out Try.underlying26 rfl info_val ?_))
          go_ret
          exact ⟨rfl, hS.out⟩
        · refine wp_region_quiet (C := fun w' => Below w9.heap.size w9 w') (by kernel_rfl) (by kernel_rfl) ((Below.refl _ _).drew) ?_
          simp only [List.toList_toArray]
          repeat (first | (refine wpq _ rfl (quiet_row 26 _ rfl (w.heap.size) rfl 26 (vC k0 n0 b0 s0) (0, 0) _ (fun w h => rowB hr0.out h (Array.getElem?_eq_some_iff.1 hr0.out).1) Try.underlying26 rfl info_val) rfl (fun K hK => ?_); go_simp; refine hK _ ?_; clear hK K) | (refine wpq _ rfl (quiet_row 26 _ rfl (g) rfl 26 (vC 1 n 0 ⟨#[]⟩) (0, 0) _ (fun w h => rowB hr1.out h (Array.getElem?_eq_some_iff.1 hr1.out).1) Try.underlying26 rfl info_val) rfl (fun K hK => ?_); go_simp; refine hK _ ?_; clear hK K) | (refine wpq _ rfl (quiet_row 26 _ rfl (g + 1) rfl 26 (vC 2 0 Z ⟨#[]⟩) (0, 0) _ (fun w h => rowB hr2.out h (Array.getElem?_eq_some_iff.1 hr2.out).1) Try.underlying26 rfl info_val) rfl (fun K hK => ?_); go_simp; refine hK _ ?_; clear hK K) | (refine wpq _ rfl (qa_eqlV (ops := #[]) _ _ k0 n0 b0 s0 1 n 0 ⟨#[]⟩ _ rfl rfl rfl e1) rfl (fun K hK => ?_); go_simp; refine hK _ ?_; clear hK K) | (refine wpq _ rfl (qa_eqlV (ops := #[]) _ _ k0 n0 b0 s0 2 0 Z ⟨#[]⟩ _ rfl rfl rfl e2) rfl (fun K hK => ?_); go_simp; refine hK _ ?_; clear hK K) | (refine wpq _ rfl (qa_eqlV (ops := #[]) _ _ k0 n0 b0 s0 2 0 9223372036854775808 ⟨#[]⟩ _ rfl rfl rfl e3) rfl (fun K hK => ?_); go_simp; refine hK _ ?_; clear hK K) | (refine wpq (vA 2 0 9223372036854775808 ⟨#[]⟩) rfl (qa_call1 (.int .u64 9223372036854775808) rfl Try.func11 (by kernel_rfl) rfl rfl rfl (fun w h => (E0.out w).mono fun e w' ⟨he, hb⟩ => ⟨he, h.trans (hb.mono h.size)⟩)) rfl (fun K hK => ?_); go_simp; refine hK _ ?_; clear hK K) | go_big_quiet_skip | (go_big_quiet_want; go_big_quiet_op; first | go_big_quiet_on | (refine ⟨_, fun _ _ => rfl, ?_⟩; go_big_quiet_on)))
          refine wpQuiet_nil ?_
          intro w6 h9
          have hr0 := Lib.hid (rowB hr0.out h9 (Array.getElem?_eq_some_iff.1 hr0.out).1); have hr1 := Lib.hid (rowB hr1.out h9 (Array.getElem?_eq_some_iff.1 hr1.out).1); have hr2 := Lib.hid (rowB hr2.out h9 (Array.getElem?_eq_some_iff.1 hr2.out).1); have hS := Lib.hid (hS.out.trans (h9.mono hS.out.size))
          clear h9
          go_wp2_with (first | (go_at_call 14; (first | (with_reducible refine (CV.out _).mono ?_) | (with_reducible refine (CW.out _).mono ?_)); rintro e w9 ⟨rfl, h9⟩; have hr0 := Lib.hid (rowB hr0.out h9 (Array.getElem?_eq_some_iff.1 hr0.out).1); have hr1 := Lib.hid (rowB hr1.out h9 (Array.getElem?_eq_some_iff.1 hr1.out).1); have hr2 := Lib.hid (rowB hr2.out h9 (Array.getElem?_eq_some_iff.1 hr2.out).1); have hS := Lib.hid (hS.out.trans (h9.mono hS.out.size)); clear h9) | (go_at_call 20; (first | (with_reducible refine (hal.out _).mono ?_)); rintro e w9 ⟨rfl, h9⟩; have hr0 := Lib.hid (rowB hr0.out h9 (Array.getElem?_eq_some_iff.1 hr0.out).1); have hr1 := Lib.hid (rowB hr1.out h9 (Array.getElem?_eq_some_iff.1 hr1.out).1); have hr2 := Lib.hid (rowB hr2.out h9 (Array.getElem?_eq_some_iff.1 hr2.out).1); have hS := Lib.hid (hS.out.trans (h9.mono hS.out.size)); clear h9) | (refine wpList_load_row_g rfl 26 _ rfl (w.heap.size) rfl 26 (vC k0 n0 b0 s0) (0, 0) _ hr0.out Try.underlying26 rfl info_val ?_) | (refine wpList_load_row_g rfl 26 _ rfl (g) rfl 26 (vC 1 n 0 ⟨#[]⟩) (0, 0) _ hr1.out Try.underlying26 rfl info_val ?_) | (refine wpList_load_row_g rfl 26 _ rfl (g + 1) rfl 26 (vC 2 0 Z ⟨#[]⟩) (0, 0) _ hr2.out Try.underlying26 rfl info_val ?_))
          go_ret
          exact ⟨rfl, hS.out⟩
      · refine wp_region_quiet (C := fun w' => Below w9.heap.size w9 w') (by kernel_rfl) (by kernel_rfl) ((Below.refl _ _).drew) ?_
        simp only [List.toList_toArray]
        repeat (first | (refine wpq _ rfl (quiet_row 26 _ rfl (w.heap.size) rfl 26 (vC k0 n0 b0 s0) (0, 0) _ (fun w h => rowB hr0.out h (Array.getElem?_eq_some_iff.1 hr0.out).1) Try.underlying26 rfl info_val) rfl (fun K hK => ?_); go_simp; refine hK _ ?_; clear hK K) | (refine wpq _ rfl (quiet_row 26 _ rfl (g) rfl 26 (vC 1 n 0 ⟨#[]⟩) (0, 0) _ (fun w h => rowB hr1.out h (Array.getElem?_eq_some_iff.1 hr1.out).1) Try.underlying26 rfl info_val) rfl (fun K hK => ?_); go_simp; refine hK _ ?_; clear hK K) | (refine wpq _ rfl (quiet_row 26 _ rfl (g + 1) rfl 26 (vC 2 0 Z ⟨#[]⟩) (0, 0) _ (fun w h => rowB hr2.out h (Array.getElem?_eq_some_iff.1 hr2.out).1) Try.underlying26 rfl info_val) rfl (fun K hK => ?_); go_simp; refine hK _ ?_; clear hK K) | (refine wpq _ rfl (qa_eqlV (ops := #[]) _ _ k0 n0 b0 s0 1 n 0 ⟨#[]⟩ _ rfl rfl rfl e1) rfl (fun K hK => ?_); go_simp; refine hK _ ?_; clear hK K) | (refine wpq _ rfl (qa_eqlV (ops := #[]) _ _ k0 n0 b0 s0 2 0 Z ⟨#[]⟩ _ rfl rfl rfl e2) rfl (fun K hK => ?_); go_simp; refine hK _ ?_; clear hK K) | go_big_quiet_skip | (go_big_quiet_want; go_big_quiet_op; first | go_big_quiet_on | (refine ⟨_, fun _ _ => rfl, ?_⟩; go_big_quiet_on)))
        refine wpQuiet_nil ?_
        intro w6 h9
        have hr0 := Lib.hid (rowB hr0.out h9 (Array.getElem?_eq_some_iff.1 hr0.out).1); have hr1 := Lib.hid (rowB hr1.out h9 (Array.getElem?_eq_some_iff.1 hr1.out).1); have hr2 := Lib.hid (rowB hr2.out h9 (Array.getElem?_eq_some_iff.1 hr2.out).1); have hS := Lib.hid (hS.out.trans (h9.mono hS.out.size))
        clear h9
        go_wp2_with (first | (go_at_call 14; (first | (with_reducible refine (CV.out _).mono ?_) | (with_reducible refine (CW.out _).mono ?_)); rintro e w9 ⟨rfl, h9⟩; have hr0 := Lib.hid (rowB hr0.out h9 (Array.getElem?_eq_some_iff.1 hr0.out).1); have hr1 := Lib.hid (rowB hr1.out h9 (Array.getElem?_eq_some_iff.1 hr1.out).1); have hr2 := Lib.hid (rowB hr2.out h9 (Array.getElem?_eq_some_iff.1 hr2.out).1); have hS := Lib.hid (hS.out.trans (h9.mono hS.out.size)); clear h9) | (go_at_call 20; (first | (with_reducible refine (hal.out _).mono ?_)); rintro e w9 ⟨rfl, h9⟩; have hr0 := Lib.hid (rowB hr0.out h9 (Array.getElem?_eq_some_iff.1 hr0.out).1); have hr1 := Lib.hid (rowB hr1.out h9 (Array.getElem?_eq_some_iff.1 hr1.out).1); have hr2 := Lib.hid (rowB hr2.out h9 (Array.getElem?_eq_some_iff.1 hr2.out).1); have hS := Lib.hid (hS.out.trans (h9.mono hS.out.size)); clear h9) | (refine wpList_load_row_g rfl 26 _ rfl (w.heap.size) rfl 26 (vC k0 n0 b0 s0) (0, 0) _ hr0.out Try.underlying26 rfl info_val ?_) | (refine wpList_load_row_g rfl 26 _ rfl (g) rfl 26 (vC 1 n 0 ⟨#[]⟩) (0, 0) _ hr1.out Try.underlying26 rfl info_val ?_) | (refine wpList_load_row_g rfl 26 _ rfl (g + 1) rfl 26 (vC 2 0 Z ⟨#[]⟩) (0, 0) _ hr2.out Try.underlying26 rfl info_val ?_))
        go_ret
        exact ⟨rfl, hS.out⟩
    · refine wp_region_quiet (C := fun w' => Below w9.heap.size w9 w') (by kernel_rfl) (by kernel_rfl) ((Below.refl _ _).drew) ?_
      simp only [List.toList_toArray]
      repeat (first | (refine wpq _ rfl (quiet_row 26 _ rfl (w.heap.size) rfl 26 (vC k0 n0 b0 s0) (0, 0) _ (fun w h => rowB hr0.out h (Array.getElem?_eq_some_iff.1 hr0.out).1) Try.underlying26 rfl info_val) rfl (fun K hK => ?_); go_simp; refine hK _ ?_; clear hK K) | (refine wpq _ rfl (quiet_row 26 _ rfl (g) rfl 26 (vC 1 n 0 ⟨#[]⟩) (0, 0) _ (fun w h => rowB hr1.out h (Array.getElem?_eq_some_iff.1 hr1.out).1) Try.underlying26 rfl info_val) rfl (fun K hK => ?_); go_simp; refine hK _ ?_; clear hK K) | (refine wpq _ rfl (qa_eqlV (ops := #[]) _ _ k0 n0 b0 s0 1 n 0 ⟨#[]⟩ _ rfl rfl rfl e1) rfl (fun K hK => ?_); go_simp; refine hK _ ?_; clear hK K) | go_big_quiet_skip | (go_big_quiet_want; go_big_quiet_op; first | go_big_quiet_on | (refine ⟨_, fun _ _ => rfl, ?_⟩; go_big_quiet_on)))
      refine wpQuiet_nil ?_
      intro w6 h9
      have hr0 := Lib.hid (rowB hr0.out h9 (Array.getElem?_eq_some_iff.1 hr0.out).1); have hr1 := Lib.hid (rowB hr1.out h9 (Array.getElem?_eq_some_iff.1 hr1.out).1); have hr2 := Lib.hid (rowB hr2.out h9 (Array.getElem?_eq_some_iff.1 hr2.out).1); have hS := Lib.hid (hS.out.trans (h9.mono hS.out.size))
      clear h9
      go_wp2_with (first | (go_at_call 14; (first | (with_reducible refine (CV.out _).mono ?_) | (with_reducible refine (CW.out _).mono ?_)); rintro e w9 ⟨rfl, h9⟩; have hr0 := Lib.hid (rowB hr0.out h9 (Array.getElem?_eq_some_iff.1 hr0.out).1); have hr1 := Lib.hid (rowB hr1.out h9 (Array.getElem?_eq_some_iff.1 hr1.out).1); have hr2 := Lib.hid (rowB hr2.out h9 (Array.getElem?_eq_some_iff.1 hr2.out).1); have hS := Lib.hid (hS.out.trans (h9.mono hS.out.size)); clear h9) | (go_at_call 20; (first | (with_reducible refine (hal.out _).mono ?_)); rintro e w9 ⟨rfl, h9⟩; have hr0 := Lib.hid (rowB hr0.out h9 (Array.getElem?_eq_some_iff.1 hr0.out).1); have hr1 := Lib.hid (rowB hr1.out h9 (Array.getElem?_eq_some_iff.1 hr1.out).1); have hr2 := Lib.hid (rowB hr2.out h9 (Array.getElem?_eq_some_iff.1 hr2.out).1); have hS := Lib.hid (hS.out.trans (h9.mono hS.out.size)); clear h9) | (refine wpList_load_row_g rfl 26 _ rfl (w.heap.size) rfl 26 (vC k0 n0 b0 s0) (0, 0) _ hr0.out Try.underlying26 rfl info_val ?_) | (refine wpList_load_row_g rfl 26 _ rfl (g) rfl 26 (vC 1 n 0 ⟨#[]⟩) (0, 0) _ hr1.out Try.underlying26 rfl info_val ?_) | (refine wpList_load_row_g rfl 26 _ rfl (g + 1) rfl 26 (vC 2 0 Z ⟨#[]⟩) (0, 0) _ hr2.out Try.underlying26 rfl info_val ?_))
      go_ret
      exact ⟨rfl, hS.out⟩
end Go.Proofs.Ytpklfohaifeboaa

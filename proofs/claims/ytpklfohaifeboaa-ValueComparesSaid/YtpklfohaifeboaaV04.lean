/- ValueMakes' walk. -/
import Derived.Test.YtpklfohaifeboaaV03
import Derived.Test.YtpklfohaifeboaaLexL
namespace Go.Proofs.Ytpklfohaifeboaa
open Go.RowKit Go.Ytpklfohaifeboaa
set_option linter.unusedVariables false
set_option maxRecDepth 100000 in
theorem fit_any (k n : Int) (b : Nat) (s : ByteArray) (hk : 0 ≤ k ∧ k < 256) (hb : b < 18446744073709551616) (w : World) :
    Calls Try.prog 29 #[vA k n b s] w fun e w' => e = .returned (.bool (decide (s.size ≤ 100) && validB k n b s)) ∧ Below w.heap.size w w' := by
  have hrow := Lib.hid (heap_alloc_new w (.cells (vC k n b s) 26))
  by_cases hs : s.size ≤ 100
  · have hV := Lib.hid (fun w => rcheck_any k n b s hk hb (by omega) w)
    have e' := Lib.hid (show (decide (s.size ≤ 100) && validB k n b s) = (chkE k n b s == 0) by unfold chkE; cases validB k n b s <;> simp [hs])
    have hs2 : (s.size : Int) ≤ 100 := by omega
    generalize chkE k n b s = E at *
    generalize (decide (s.size ≤ 100) && validB k n b s) = R at *
    clear hk hb hs
    go_enter Try.func29, Try.ntmps29
    go_wp2_with (first | (go_at_call 22; (with_reducible refine (hV.out _).mono ?_); rintro e w2 ⟨rfl, hb2⟩; have hb2' := Lib.hid ((below_a w _).trans (hb2.mono (by simp))); clear hb2) | (refine wpList_load_row_g rfl 26 _ rfl w.heap.size rfl 26 (vC k n b s) (0, 0) _ hrow.out Try.underlying26 rfl info_val ?_))
    go_ret
    exact ⟨ret_bool e'.out.symm, hb2'.out⟩
  · have hs2 : ¬ (s.size : Int) ≤ 100 := by omega
    rw [decide_eq_false hs, Bool.false_and]
    clear hk hb hs
    go_enter Try.func29, Try.ntmps29
    go_wp2
    go_ret
    exact ⟨rfl, below_a _ _⟩
theorem eqB_same (k n : Int) (b : Nat) (s : ByteArray) : eqB k n b s k n b s = true := by simp [eqB]
set_option maxHeartbeats 4000000 in
set_option maxRecDepth 100000 in
theorem makes_law (k n : Int) (b : Nat) (s : ByteArray) (hk : 0 ≤ k ∧ k < 256) (hb : b < 18446744073709551616) (m : Nat) (hm : m < 18446744073709551616) (q : Int) (t : ByteArray) (w : World) :
    Calls Try.prog 4 #[vA k n b s, .int .u64 (m : Int), .int .i64 q, .string t] w fun e w' => e = .returned (.bool true) ∧ Below w.heap.size w w' := by
  by_cases hs : ¬ s.size ≤ 100
  · have hs2 : ¬ (s.size : Int) ≤ 100 := by omega
    clear hk hb hm hs
    go_enter Try.func4, Try.ntmps4
    go_wp2
    all_goals
      go_ret
      exact ⟨rfl, below_a _ _⟩
  by_cases ht : ¬ t.size ≤ 100
  · have hs2 : (s.size : Int) ≤ 100 := by omega
    have ht2 : ¬ (t.size : Int) ≤ 100 := by omega
    clear hk hb hm hs ht
    go_enter Try.func4, Try.ntmps4
    go_wp2
    all_goals
      go_ret
      exact ⟨rfl, below_a _ _⟩
  have hs2 : (s.size : Int) ≤ 100 := by omega
  have ht2 : (t.size : Int) ≤ 100 := by omega
  have hT := Lib.hid (fun w => text_any t (by omega) w)
  have hrT := Lib.hid (fun w => rtext_any t (by omega) w)
  have hK := Lib.hid (fun w => check_any k n b s hk hb (by omega) w)
  have hrK := Lib.hid (fun w => rcheck_any k n b s hk hb (by omega) w)
  have hL := Lib.hid (fun w => class_any m hm w)
  have hrL := Lib.hid (fun w => rclass_any m hm w)
  have hC := Lib.hid (fun w => canon_any m hm w)
  have hrC := Lib.hid (fun w => rcanon_any m hm w)
  have hN := Lib.hid (fun w => number_val q w)
  have hF := Lib.hid (fun w => float_val m hm w)
  obtain ⟨tk, ts, hte⟩ : ∃ tk ts, txtV t = vA tk 0 0 ts := by
    unfold txtV; split
    · exact ⟨3, t, rfl⟩
    · exact ⟨0, ⟨#[]⟩, rfl⟩
  rw [hte] at hT hrT
  clear hte hk hb hm hs ht
  generalize txtE t = TE at *
  generalize chkE k n b s = KE at *
  generalize clsF m = L at *
  generalize canF m = D at *
  have hr0 := Lib.hid (heap_alloc_new w (.cells (vC k n b s) 26))
  have hb0 := Lib.hid (below_a w (.cells (vC k n b s) 26))
  go_enter Try.func4, Try.ntmps4
  go_upto_region 5 with (first | (go_at_call 17; (with_reducible refine (hT.out _).mono ?_); rintro e w2 ⟨rfl, h2⟩; have hb2 := Lib.hid (hb0.out.trans (h2.mono (by simp))); have hr2 := Lib.hid (rowB hr0.out h2 (by simp)); have ha2 := Lib.hid (below_a w2 (.cells (vC tk 0 0 ts) 26)); have hn2 := Lib.hid (heap_alloc_new w2 (.cells (vC tk 0 0 ts) 26)); clear h2) | (go_at_call 21; (with_reducible refine (hrT.out _).mono ?_); rintro e w3 ⟨rfl, h3⟩; have hb3 := Lib.hid ((hb2.out.trans (ha2.out.mono hb2.out.size)).trans (h3.mono (Nat.le_trans hb2.out.size (by simp)))); have hr3 := Lib.hid (rowB (rowB hr2.out ha2.out (Array.getElem?_eq_some_iff.1 hr2.out).1) h3 (Nat.lt_of_lt_of_le (Array.getElem?_eq_some_iff.1 hr2.out).1 (by simp))); have hn3 := Lib.hid (rowB hn2.out h3 (by simp)); have hm3 := Lib.hid (heap_alloc_new w3 (.cells (vC tk 0 0 ts) 26)); have ha3 := Lib.hid (below_a w3 (.cells (vC tk 0 0 ts) 26)); clear h3))
  have hb5 := Lib.hid (hb3.out.trans (ha3.out.mono hb3.out.size))
  have q0 := Lib.hid (rowB hr3.out ha3.out (Array.getElem?_eq_some_iff.1 hr3.out).1)
  have q9 := Lib.hid (rowB hn3.out ha3.out (Array.getElem?_eq_some_iff.1 hn3.out).1)
  have q11 := hm3
  clear hr2 ha2 hn2 hb2 hr3 hn3 hm3 hb3 ha3 hr0 hb0 hT hrT
  generalize w3.alloc (.cells (vC tk 0 0 ts) 26) = w5 at *
  refine wp_region_quiet (C := fun w' => Below w5.heap.size w5 w') (by kernel_rfl) (lexB_of_lexL (by kernel_rfl) (by kernel_rfl)) ((Below.refl _ _).drew) ?_
  simp only [List.toList_toArray]
  repeat (first | (refine wpq _ rfl (quiet_row 26 _ rfl w.heap.size rfl 26 (vC k n b s) (0, 0) _ (fun w h => rowB q0.out h (Array.getElem?_eq_some_iff.1 q0.out).1) Try.underlying26 rfl info_val) rfl (fun K hK => ?_); go_simp; refine hK _ ?_; clear hK K)
                | (refine wpq _ rfl (quiet_row 26 _ rfl w2.heap.size rfl 26 (vC tk 0 0 ts) (0, 0) _ (fun w h => rowB q9.out h (Array.getElem?_eq_some_iff.1 q9.out).1) Try.underlying26 rfl info_val) rfl (fun K hK => ?_); go_simp; refine hK _ ?_; clear hK K)
                | (refine wpq _ rfl (quiet_row 26 _ rfl w3.heap.size rfl 26 (vC tk 0 0 ts) (0, 0) _ (fun w h => rowB q11.out h (Array.getElem?_eq_some_iff.1 q11.out).1) Try.underlying26 rfl info_val) rfl (fun K hK => ?_); go_simp; refine hK _ ?_; clear hK K)
                | (refine wpq (.int .i64 KE) rfl (qa_call1 (vA k n b s) rfl Try.func16 (by kernel_rfl) rfl rfl rfl (fun w h => (hK.out w).mono fun e w' ⟨he, hb⟩ => ⟨he, h.trans (hb.mono h.size)⟩)) rfl (fun K hK => ?_); go_simp; refine hK _ ?_; clear hK K)
                | (refine wpq (.int .i64 KE) rfl (qa_call1 (vA k n b s) rfl Try.func22 (by kernel_rfl) rfl rfl rfl (fun w h => (hrK.out w).mono fun e w' ⟨he, hb⟩ => ⟨he, h.trans (hb.mono h.size)⟩)) rfl (fun K hK => ?_); go_simp; refine hK _ ?_; clear hK K)
                | (refine wpq (.int .u8 (L : Int)) rfl (qa_call1 (.int .u64 (m : Int)) rfl Try.func9 (by kernel_rfl) rfl rfl rfl (fun w h => (hL.out w).mono fun e w' ⟨he, hb⟩ => ⟨he, hb ▸ h⟩)) rfl (fun K hK => ?_); go_simp; refine hK _ ?_; clear hK K)
                | (refine wpq (.int .u8 (L : Int)) rfl (qa_call1 (.int .u64 (m : Int)) rfl Try.func23 (by kernel_rfl) rfl rfl rfl (fun w h => (hrL.out w).mono fun e w' ⟨he, hb⟩ => ⟨he, hb ▸ h⟩)) rfl (fun K hK => ?_); go_simp; refine hK _ ?_; clear hK K)
                | (refine wpq (.int .u64 (D : Int)) rfl (qa_call1 (.int .u64 (m : Int)) rfl Try.func10 (by kernel_rfl) rfl rfl rfl (fun w h => (hC.out w).mono fun e w' ⟨he, hb⟩ => ⟨he, hb ▸ h⟩)) rfl (fun K hK => ?_); go_simp; refine hK _ ?_; clear hK K)
                | (refine wpq (.int .u64 (D : Int)) rfl (qa_call1 (.int .u64 (m : Int)) rfl Try.func24 (by kernel_rfl) rfl rfl rfl (fun w h => (hrC.out w).mono fun e w' ⟨he, hb⟩ => ⟨he, hb ▸ h⟩)) rfl (fun K hK => ?_); go_simp; refine hK _ ?_; clear hK K)
                | (refine wpq (vA 1 q 0 ⟨#[]⟩) rfl (qa_call1 (.int .i64 q) rfl Try.func12 (by kernel_rfl) rfl rfl rfl (fun w h => (hN.out w).mono fun e w' ⟨he, hb⟩ => ⟨he, h.trans (hb.mono h.size)⟩)) rfl (fun K hK => ?_); go_simp; refine hK _ ?_; clear hK K)
                | (refine wpq (vA 2 0 D ⟨#[]⟩) rfl (qa_call1 (.int .u64 (m : Int)) rfl Try.func11 (by kernel_rfl) rfl rfl rfl (fun w h => (hF.out w).mono fun e w' ⟨he, hb⟩ => ⟨he, h.trans (hb.mono h.size)⟩)) rfl (fun K hK => ?_); go_simp; refine hK _ ?_; clear hK K)
                | (refine wpq (.bool true) rfl (qa_eqlV (ops := #[]) _ _ 1 q 0 ⟨#[]⟩ 1 q 0 ⟨#[]⟩ _ rfl rfl rfl (eqB_same _ _ _ _)) rfl (fun K hK => ?_); go_simp; refine hK _ ?_; clear hK K)
                | (refine wpq (.bool true) rfl (qa_eqlV (ops := #[]) _ _ 2 0 D ⟨#[]⟩ 2 0 D ⟨#[]⟩ _ rfl rfl rfl (eqB_same _ _ _ _)) rfl (fun K hK => ?_); go_simp; refine hK _ ?_; clear hK K)
                | (refine wpq (.bool true) rfl (qa_eqlV (ops := #[]) _ _ tk 0 0 ts tk 0 0 ts _ rfl rfl rfl (eqB_same _ _ _ _)) rfl (fun K hK => ?_); go_simp; refine hK _ ?_; clear hK K)
                | go_big_quiet_skip
                | (go_big_quiet_want; go_big_quiet_op; first | go_big_quiet_on | (refine ⟨_, fun _ _ => rfl, ?_⟩; go_big_quiet_on)))
  refine wpQuiet_nil ?_
  intro w6 h6
  have h6' := Lib.hid (hb5.out.trans (h6.mono hb5.out.size))
  clear h6
  go_wp2
  go_ret
  exact ⟨rfl, h6'.out⟩
end Go.Proofs.Ytpklfohaifeboaa

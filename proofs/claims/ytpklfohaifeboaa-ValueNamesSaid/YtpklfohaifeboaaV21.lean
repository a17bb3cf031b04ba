/- ValueNames' walk. -/
import Derived.Test.YtpklfohaifeboaaV20
namespace Go.Proofs.Ytpklfohaifeboaa
open Go.RowKit Go.Ytpklfohaifeboaa
set_option linter.unusedVariables false
set_option maxHeartbeats 16000000 in
set_option maxRecDepth 100000 in
theorem names_law (w : World) : Calls Try.prog 3 #[] w fun e w' => e = .returned (.bool true) ∧ Below w.heap.size w w' := by
  have hal := Lib.hid (fun w => alive_any w)
  have c0 := Lib.hid (fun w => cls_lit 0 1 0 rfl (by decide) (by decide +kernel) w)
  have c1 := Lib.hid (fun w => cls_lit 9223372036854775808 1 9223372036854775808 rfl (by decide) (by decide +kernel) w)
  have c2 := Lib.hid (fun w => cls_lit 1 2 1 rfl (by decide) (by decide +kernel) w)
  have c3 := Lib.hid (fun w => cls_lit 9227875636482146303 2 9227875636482146303 rfl (by decide) (by decide +kernel) w)
  have c4 := Lib.hid (fun w => cls_lit 4503599627370496 3 4503599627370496 rfl (by decide) (by decide +kernel) w)
  have c5 := Lib.hid (fun w => cls_lit 9218868437227405311 3 9218868437227405311 rfl (by decide) (by decide +kernel) w)
  have c6 := Lib.hid (fun w => cls_lit 9218868437227405312 4 9218868437227405312 rfl (by decide) (by decide +kernel) w)
  have c7 := Lib.hid (fun w => cls_lit 18442240474082181120 4 18442240474082181120 rfl (by decide) (by decide +kernel) w)
  have c8 := Lib.hid (fun w => cls_lit 9218868437227405313 5 9218868437227405313 rfl (by decide) (by decide +kernel) w)
  have c9 := Lib.hid (fun w => cls_lit 18446744073709551615 5 18446744073709551615 rfl (by decide) (by decide +kernel) w)
  have d0 := Lib.hid (fun w => can_lit 18442240474082181121 9221120237041090560 18442240474082181121 rfl (by decide) (by decide +kernel) w)
  have d1 := Lib.hid (fun w => can_lit 18442240474082181120 18442240474082181120 18442240474082181120 rfl (by decide) (by decide +kernel) w)
  have d2 := Lib.hid (fun w => can_lit 9223372036854775808 9223372036854775808 9223372036854775808 rfl (by decide) (by decide +kernel) w)
  have f0 := Lib.hid (fun w => flt_lit 0 0 0 rfl (by decide) (by decide +kernel) w)
  have f1 := Lib.hid (fun w => flt_lit 1 1 1 rfl (by decide) (by decide +kernel) w)
  have f2 := Lib.hid (fun w => flt_lit 4503599627370495 4503599627370495 4503599627370495 rfl (by decide) (by decide +kernel) w)
  have f3 := Lib.hid (fun w => flt_lit 4503599627370496 4503599627370496 4503599627370496 rfl (by decide) (by decide +kernel) w)
  have f4 := Lib.hid (fun w => flt_lit 4845873199050653695 4845873199050653695 4845873199050653695 rfl (by decide) (by decide +kernel) w)
  have f5 := Lib.hid (fun w => flt_lit 4845873199050653696 4845873199050653696 4845873199050653696 rfl (by decide) (by decide +kernel) w)
  have f6 := Lib.hid (fun w => flt_lit 4845873199050653697 4845873199050653697 4845873199050653697 rfl (by decide) (by decide +kernel) w)
  have f7 := Lib.hid (fun w => flt_lit 4890909195324358655 4890909195324358655 4890909195324358655 rfl (by decide) (by decide +kernel) w)
  have f8 := Lib.hid (fun w => flt_lit 4890909195324358656 4890909195324358656 4890909195324358656 rfl (by decide) (by decide +kernel) w)
  have f9 := Lib.hid (fun w => flt_lit 9218868437227405311 9218868437227405311 9218868437227405311 rfl (by decide) (by decide +kernel) w)
  have f10 := Lib.hid (fun w => flt_lit 9218868437227405312 9218868437227405312 9218868437227405312 rfl (by decide) (by decide +kernel) w)
  have f11 := Lib.hid (fun w => flt_lit 9221120237041090560 9221120237041090560 9221120237041090560 rfl (by decide) (by decide +kernel) w)
  have f12 := Lib.hid (fun w => flt_lit 9223372036854775808 9223372036854775808 9223372036854775808 rfl (by decide) (by decide +kernel) w)
  have f13 := Lib.hid (fun w => flt_lit 9223372036854775809 9223372036854775809 9223372036854775809 rfl (by decide) (by decide +kernel) w)
  have f14 := Lib.hid (fun w => flt_lit 13830554455654793216 13830554455654793216 13830554455654793216 rfl (by decide) (by decide +kernel) w)
  have f15 := Lib.hid (fun w => flt_lit 13832806255468478464 13832806255468478464 13832806255468478464 rfl (by decide) (by decide +kernel) w)
  have f16 := Lib.hid (fun w => flt_lit 13835058055282163712 13835058055282163712 13835058055282163712 rfl (by decide) (by decide +kernel) w)
  have f17 := Lib.hid (fun w => flt_lit 14114281232179134464 14114281232179134464 14114281232179134464 rfl (by decide) (by decide +kernel) w)
  have f18 := Lib.hid (fun w => flt_lit 14114281232179134465 14114281232179134465 14114281232179134465 rfl (by decide) (by decide +kernel) w)
  have f19 := Lib.hid (fun w => flt_lit 18442240474082181119 18442240474082181119 18442240474082181119 rfl (by decide) (by decide +kernel) w)
  have f20 := Lib.hid (fun w => flt_lit 18442240474082181120 18442240474082181120 18442240474082181120 rfl (by decide) (by decide +kernel) w)
  have n0 := Lib.hid (fun w => number_val (-9223372036854775808) w)
  have n1 := Lib.hid (fun w => number_val (-9223372036854775807) w)
  have n2 := Lib.hid (fun w => number_val (-2) w)
  have n3 := Lib.hid (fun w => number_val (-1) w)
  have n4 := Lib.hid (fun w => number_val 9007199254740991 w)
  have n5 := Lib.hid (fun w => number_val 9007199254740992 w)
  have n6 := Lib.hid (fun w => number_val 9007199254740993 w)
  have n7 := Lib.hid (fun w => number_val 9007199254740994 w)
  have n8 := Lib.hid (fun w => number_val 9223372036854775807 w)
  have tx := Lib.hid (fun s w => text_val s w)
  have hS := Lib.hid (Inv.start w)
  go_enter Try.func3, Try.ntmps3
  go_upto_region 4 with (first | (go_at_call 9; (first | (with_reducible refine (c0.out _).mono ?_) | (with_reducible refine (c1.out _).mono ?_) | (with_reducible refine (c2.out _).mono ?_) | (with_reducible refine (c3.out _).mono ?_) | (with_reducible refine (c4.out _).mono ?_) | (with_reducible refine (c5.out _).mono ?_) | (with_reducible refine (c6.out _).mono ?_) | (with_reducible refine (c7.out _).mono ?_) | (with_reducible refine (c8.out _).mono ?_) | (with_reducible refine (c9.out _).mono ?_)); rintro e wz ⟨rfl, rfl⟩) | (go_at_call 10; (first | (with_reducible refine (d0.out _).mono ?_) | (with_reducible refine (d1.out _).mono ?_) | (with_reducible refine (d2.out _).mono ?_)); rintro e wz ⟨rfl, rfl⟩) | (go_at_call 11; (first | (with_reducible refine (f0.out _).mono ?_) | (with_reducible refine (f1.out _).mono ?_) | (with_reducible refine (f2.out _).mono ?_) | (with_reducible refine (f3.out _).mono ?_) | (with_reducible refine (f4.out _).mono ?_) | (with_reducible refine (f5.out _).mono ?_) | (with_reducible refine (f6.out _).mono ?_) | (with_reducible refine (f7.out _).mono ?_) | (with_reducible refine (f8.out _).mono ?_) | (with_reducible refine (f9.out _).mono ?_) | (with_reducible refine (f10.out _).mono ?_) | (with_reducible refine (f11.out _).mono ?_) | (with_reducible refine (f12.out _).mono ?_) | (with_reducible refine (f13.out _).mono ?_) | (with_reducible refine (f14.out _).mono ?_) | (with_reducible refine (f15.out _).mono ?_) | (with_reducible refine (f16.out _).mono ?_) | (with_reducible refine (f17.out _).mono ?_) | (with_reducible refine (f18.out _).mono ?_) | (with_reducible refine (f19.out _).mono ?_) | (with_reducible refine (f20.out _).mono ?_)); rintro e w9 ⟨rfl, h9⟩; replace hS := Lib.hid (hS.out.step0 h9); clear h9) | (go_at_call 12; (first | (with_reducible refine (n0.out _).mono ?_) | (with_reducible refine (n1.out _).mono ?_) | (with_reducible refine (n2.out _).mono ?_) | (with_reducible refine (n3.out _).mono ?_) | (with_reducible refine (n4.out _).mono ?_) | (with_reducible refine (n5.out _).mono ?_) | (with_reducible refine (n6.out _).mono ?_) | (with_reducible refine (n7.out _).mono ?_) | (with_reducible refine (n8.out _).mono ?_)); rintro e w9 ⟨rfl, h9⟩; replace hS := Lib.hid (hS.out.step0 h9); clear h9) | (go_at_call 13; (first | (with_reducible refine (tx.out _ _).mono ?_)); rintro e w9 ⟨rfl, h9⟩; replace hS := Lib.hid (hS.out.step0 h9); clear h9))
  replace hS := Lib.hid (hS.out.add (.cells (rowV Llow) 26))
  change Code.wp _ _ _ _ (w9.alloc (.cells (rowV Llow) 26))
  generalize w9.heap.size = gl at *
  generalize w9.alloc (.cells (rowV Llow) 26) = w9 at *
  clear c0 c1 c2 c3 c4 c5 c6 c7 c8 c9 d0 d1 d2
  go_upto_region 5 with (first | (go_at_call 9; (first | (with_reducible refine (c0.out _).mono ?_) | (with_reducible refine (c1.out _).mono ?_) | (with_reducible refine (c2.out _).mono ?_) | (with_reducible refine (c3.out _).mono ?_) | (with_reducible refine (c4.out _).mono ?_) | (with_reducible refine (c5.out _).mono ?_) | (with_reducible refine (c6.out _).mono ?_) | (with_reducible refine (c7.out _).mono ?_) | (with_reducible refine (c8.out _).mono ?_) | (with_reducible refine (c9.out _).mono ?_)); rintro e wz ⟨rfl, rfl⟩) | (go_at_call 10; (first | (with_reducible refine (d0.out _).mono ?_) | (with_reducible refine (d1.out _).mono ?_) | (with_reducible refine (d2.out _).mono ?_)); rintro e wz ⟨rfl, rfl⟩) | (go_at_call 11; (first | (with_reducible refine (f0.out _).mono ?_) | (with_reducible refine (f1.out _).mono ?_) | (with_reducible refine (f2.out _).mono ?_) | (with_reducible refine (f3.out _).mono ?_) | (with_reducible refine (f4.out _).mono ?_) | (with_reducible refine (f5.out _).mono ?_) | (with_reducible refine (f6.out _).mono ?_) | (with_reducible refine (f7.out _).mono ?_) | (with_reducible refine (f8.out _).mono ?_) | (with_reducible refine (f9.out _).mono ?_) | (with_reducible refine (f10.out _).mono ?_) | (with_reducible refine (f11.out _).mono ?_) | (with_reducible refine (f12.out _).mono ?_) | (with_reducible refine (f13.out _).mono ?_) | (with_reducible refine (f14.out _).mono ?_) | (with_reducible refine (f15.out _).mono ?_) | (with_reducible refine (f16.out _).mono ?_) | (with_reducible refine (f17.out _).mono ?_) | (with_reducible refine (f18.out _).mono ?_) | (with_reducible refine (f19.out _).mono ?_) | (with_reducible refine (f20.out _).mono ?_)); rintro e w9 ⟨rfl, h9⟩; replace hS := Lib.hid (hS.out.step0 h9); clear h9) | (go_at_call 12; (first | (with_reducible refine (n0.out _).mono ?_) | (with_reducible refine (n1.out _).mono ?_) | (with_reducible refine (n2.out _).mono ?_) | (with_reducible refine (n3.out _).mono ?_) | (with_reducible refine (n4.out _).mono ?_) | (with_reducible refine (n5.out _).mono ?_) | (with_reducible refine (n6.out _).mono ?_) | (with_reducible refine (n7.out _).mono ?_) | (with_reducible refine (n8.out _).mono ?_)); rintro e w9 ⟨rfl, h9⟩; replace hS := Lib.hid (hS.out.step0 h9); clear h9) | (go_at_call 13; (first | (with_reducible refine (tx.out _ _).mono ?_)); rintro e w9 ⟨rfl, h9⟩; replace hS := Lib.hid (hS.out.step0 h9); clear h9))
  replace hS := Lib.hid (hS.out.add (.cells (rowV Lhigh) 26))
  change Code.wp _ _ _ _ (w9.alloc (.cells (rowV Lhigh) 26))
  generalize w9.heap.size = gh at *
  generalize w9.alloc (.cells (rowV Lhigh) 26) = w9 at *
  clear f0 f1 f2 f3 f4 f5 f6 f7 f8 f9 f10 f11 f12 f13 f14 f15 f16 f17 f18 f19 f20 n0 n1 n2 n3 n4 n5 n6 n7 n8
  go_upto_region 6 with fail
  replace hS := Lib.hid (hS.out.add (.cells (rowV Lbad) 26))
  change Code.wp _ _ _ _ (w9.alloc (.cells (rowV Lbad) 26))
  generalize w9.heap.size = gb at *
  generalize w9.alloc (.cells (rowV Lbad) 26) = w9 at *
  have hbad := Lib.hid (fun i (hi : i < 14) => badB_at Lbad_bad i hi)
  have htx := Lib.hid (show VFit 3 0 0 ⟨#[97]⟩ ∧ validB 3 0 0 ⟨#[97]⟩ = true from ⟨⟨by decide, by decide, by decide, by decide⟩, by decide +kernel⟩)
  go_wp2
  go_loopw [6] (fun i wr => ∃ k : Nat, k ≤ 14 ∧ i = .int .i64 (k : Int) ∧ Inv w [(gb, .cells (rowV Lbad) 26), (gh, .cells (rowV Lhigh) 26), (gl, .cells (rowV Llow) 26)] wr) (fun i _ => 14 - (intOf i).toNat)
  case atStart => exact ⟨0, Nat.zero_le _, rfl, hS.out⟩
  case round =>
    obtain ⟨k, hk, rfl, hI⟩ := hrel
    by_cases hlt : k < 14
    · have hS := Lib.hid hI
      clear hI
      have hu := hbad.out k hlt
      have hu2 : validB (vaAt Lbad k).k (vaAt Lbad k).n (vaAt Lbad k).b (vaAt Lbad k).s = false := hu.2
      have q1 := Lib.hid (fun w => cmp_bad _ _ _ _ 3 0 0 ⟨#[97]⟩ hu.1 htx.out.1 (by rw [hu2]; rfl) w)
      have q2 := Lib.hid (fun w => cmp_bad 3 0 0 ⟨#[97]⟩ _ _ _ _ htx.out.1 hu.1 (by rw [hu2]; exact Bool.and_false _) w)
      have q3 := Lib.hid (fun w => enc_bad _ _ _ _ hu.1 hu.2 w)
      have q4 := Lib.hid (fun w => check_any (vaAt Lbad k).k (vaAt Lbad k).n (vaAt Lbad k).b (vaAt Lbad k).s hu.1.k hu.1.b hu.1.s w)
      rw [show chkE (vaAt Lbad k).k (vaAt Lbad k).n (vaAt Lbad k).b (vaAt Lbad k).s = 8 by unfold chkE; rw [hu2]; rfl] at q4
      have hm := Lib.hid (fun wz (h : Inv w [(gb, .cells (rowV Lbad) 26), (gh, .cells (rowV Lhigh) 26), (gl, .cells (rowV Llow) 26)] wz) => h.mid (List.mem_cons_self ..) k hlt)
      generalize vaAt Lbad k = u at *
      clear hu hu2
      have d1 : ((k : Int) + 1).toNat = k + 1 := by omega
      go_upto_region 9 with fail
      refine wp_region_quiet (C := Inv w [(gb, .cells (rowV Lbad) 26), (gh, .cells (rowV Lhigh) 26), (gl, .cells (rowV Llow) 26)]) (by kernel_rfl) (by kernel_rfl) (hS.out.drew) ?_
      simp only [List.toList_toArray]
      repeat (first | (refine wpq (u.v) rfl (quiet_mid 26 _ rfl gb (k * 4) rfl u.l _ (fun w h => hm.out w h) Try.underlying26 rfl info_val) rfl (fun K hK => ?_); go_simp; refine hK _ ?_; clear hK K) | (refine wpq (vA 3 0 0 ⟨#[97]⟩) rfl (qa_call1 (.string ⟨#[97]⟩) rfl Try.func13 (by kernel_rfl) rfl rfl rfl (fun w h => (tx.out _ w).mono fun e w' ⟨he, hb⟩ => ⟨he, h.step0 hb⟩)) rfl (fun K hK => ?_); go_simp; refine hK _ ?_; clear hK K) | (refine wpq (.tuple #[.int .i64 0, .int .i64 8]) rfl (quiet_call2 rfl Try.func14 (by kernel_rfl) rfl (u.v) (vA 3 0 0 ⟨#[97]⟩) _ rfl rfl rfl (fun w h => (q1.out w).mono fun e w' ⟨he, hb⟩ => ⟨he, h.step0 hb⟩)) rfl (fun K hK => ?_); go_simp; refine hK _ ?_; clear hK K) | (refine wpq (.tuple #[.int .i64 0, .int .i64 8]) rfl (quiet_call2 rfl Try.func14 (by kernel_rfl) rfl (vA 3 0 0 ⟨#[97]⟩) (u.v) _ rfl rfl rfl (fun w h => (q2.out w).mono fun e w' ⟨he, hb⟩ => ⟨he, h.step0 hb⟩)) rfl (fun K hK => ?_); go_simp; refine hK _ ?_; clear hK K) | (go_big_quiet_want; go_big_quiet_op; first | go_big_quiet_on | (refine ⟨_, fun _ _ => rfl, ?_⟩; go_big_quiet_on)))
      refine wpQuiet_nil ?_
      intro w6 h9
      have hS := Lib.hid h9
      clear h9
      go_upto_region 10 with fail
      refine wp_region_quiet (C := Inv w [(gb, .cells (rowV Lbad) 26), (gh, .cells (rowV Lhigh) 26), (gl, .cells (rowV Llow) 26)]) (by kernel_rfl) (by kernel_rfl) (hS.out.drew) ?_
      simp only [List.toList_toArray]
      repeat (first | (refine wpq (u.v) rfl (quiet_mid 26 _ rfl gb (k * 4) rfl u.l _ (fun w h => hm.out w h) Try.underlying26 rfl info_val) rfl (fun K hK => ?_); go_simp; refine hK _ ?_; clear hK K) | (refine wpq (vA 3 0 0 ⟨#[97]⟩) rfl (qa_call1 (.string ⟨#[97]⟩) rfl Try.func13 (by kernel_rfl) rfl rfl rfl (fun w h => (tx.out _ w).mono fun e w' ⟨he, hb⟩ => ⟨he, h.step0 hb⟩)) rfl (fun K hK => ?_); go_simp; refine hK _ ?_; clear hK K) | (refine wpq (.tuple #[.int .i64 0, .int .i64 8]) rfl (quiet_call2 rfl Try.func14 (by kernel_rfl) rfl (u.v) (vA 3 0 0 ⟨#[97]⟩) _ rfl rfl rfl (fun w h => (q1.out w).mono fun e w' ⟨he, hb⟩ => ⟨he, h.step0 hb⟩)) rfl (fun K hK => ?_); go_simp; refine hK _ ?_; clear hK K) | (refine wpq (.tuple #[.int .i64 0, .int .i64 8]) rfl (quiet_call2 rfl Try.func14 (by kernel_rfl) rfl (vA 3 0 0 ⟨#[97]⟩) (u.v) _ rfl rfl rfl (fun w h => (q2.out w).mono fun e w' ⟨he, hb⟩ => ⟨he, h.step0 hb⟩)) rfl (fun K hK => ?_); go_simp; refine hK _ ?_; clear hK K) | (go_big_quiet_want; go_big_quiet_op; first | go_big_quiet_on | (refine ⟨_, fun _ _ => rfl, ?_⟩; go_big_quiet_on)))
      refine wpQuiet_nil ?_
      intro w6 h9
      have hS := Lib.hid h9
      clear h9
      have hmw := Lib.hid (hm.out _ hS.out)
      go_wp2_with (first | (refine wpList_mid rfl 26 _ rfl gb (k * 4) rfl u.l _ hmw.out Try.underlying26 rfl info_val ?_) | (go_at_call 15; (first | (with_reducible refine (q3.out _).mono ?_)); rintro e w9 ⟨rfl, h9⟩; replace hS := Lib.hid (hS.out.step0 h9); clear h9; have hmw := Lib.hid (hm.out _ hS.out)) | (go_at_call 16; (first | (with_reducible refine (q4.out _).mono ?_)); rintro e w9 ⟨rfl, h9⟩; replace hS := Lib.hid (hS.out.step0 h9); clear h9; have hmw := Lib.hid (hm.out _ hS.out)))
      go_roundw
      case rel => exact ⟨k + 1, by omega, by go_num, hS.out⟩
      case measure => simp [intOf]; omega
    · obtain rfl : k = 14 := by omega
      have hS := Lib.hid hI
      clear hI hbad htx hlt hk
      rename_i Kx hKx
      obtain ⟨w9, hw9⟩ : ∃ x, x = wr := ⟨_, rfl⟩
      rw [← hw9] at hS ⊢
      clear hw9
      have t0 := Lib.hid (fun w => txt_lit ⟨#[49, 50, 51, 52, 53, 54, 55, 56, 57, 48, 49, 50, 51, 52, 53, 54, 55, 56, 57, 48, 49, 50, 51, 52, 53, 54, 55, 56, 57, 48, 49]⟩ (vA 0 0 0 ⟨#[]⟩) 4 (by decide) (by decide +kernel) rfl w)
      have t1 := Lib.hid (fun w => txt_lit ⟨#[31]⟩ (vA 0 0 0 ⟨#[]⟩) 8 (by decide) (by decide +kernel) rfl w)
      have t2 := Lib.hid (fun w => txt_lit ⟨#[49, 50, 51, 52, 53, 54, 55, 56, 57, 48, 49, 50, 51, 52, 53, 54, 55, 56, 57, 48, 49, 50, 51, 52, 53, 54, 55, 56, 57, 48]⟩ (vA 3 0 0 ⟨#[49, 50, 51, 52, 53, 54, 55, 56, 57, 48, 49, 50, 51, 52, 53, 54, 55, 56, 57, 48, 49, 50, 51, 52, 53, 54, 55, 56, 57, 48]⟩) 0 (by decide) (by decide +kernel) rfl w)
      obtain ⟨s30, hs30⟩ : ∃ s : ByteArray, s = ⟨#[49, 50, 51, 52, 53, 54, 55, 56, 57, 48, 49, 50, 51, 52, 53, 54, 55, 56, 57, 48, 49, 50, 51, 52, 53, 54, 55, 56, 57, 48]⟩ := ⟨_, rfl⟩
      have h30 : s30.size = 30 := by rw [hs30]; rfl
      have t2 : Hid (∀ w, Calls Try.prog 17 #[.string ⟨#[49, 50, 51, 52, 53, 54, 55, 56, 57, 48, 49, 50, 51, 52, 53, 54, 55, 56, 57, 48, 49, 50, 51, 52, 53, 54, 55, 56, 57, 48]⟩] w fun e w' => e = .returned (.tuple #[vA 3 0 0 s30, .int .i64 0]) ∧ Below w.heap.size w w') := by rw [hs30]; exact t2
      clear hs30
      go_upto_region 17 with (go_at_call 17; (first | (with_reducible refine (t0.out _).mono ?_) | (with_reducible refine (t1.out _).mono ?_) | (with_reducible refine (t2.out _).mono ?_)); rintro e w9 ⟨rfl, h9⟩; (first | (replace hS := Lib.hid (hS.out.step0 h9)) | (have hS := Lib.hid ((hS.out.alloc _).step0 h9))); clear h9)
      replace hS := Lib.hid (hS.out.add (.cells #[.int .u8 3, .int .i64 0, .int .u64 0, .string s30] 26))
      generalize w9.heap.size = gm at *
      generalize w9.alloc (.cells #[.int .u8 3, .int .i64 0, .int .u64 0, .string s30] 26) = w9 at *
      have hD := Lib.hid (fun w => dec_nil w)
      go_upto_region 18 with (go_at_call 18; (first | (with_reducible refine (hD.out _).mono ?_)); rintro e w9 ⟨rfl, h9⟩; replace hS := Lib.hid (hS.out.step0 h9); clear h9)
      replace hS := Lib.hid (hS.out.alloc (.cells #[.int .u8 0, .int .i64 0, .int .u64 0, .string ⟨#[]⟩] 26))
      generalize w9.alloc (.cells #[.int .u8 0, .int .i64 0, .int .u64 0, .string ⟨#[]⟩] 26) = w9 at *
      have hD := Lib.hid (dec_at [2, 0, 0, 0, 0, 0, 0, 0] _ dec_lit1 rfl 8 rfl (by decide) #[.int .u8 2, .int .u8 0, .int .u8 0, .int .u8 0, .int .u8 0, .int .u8 0, .int .u8 0, .int .u8 0] rfl w9)
      go_upto_region 19 with (go_at_call 18; (first | (with_reducible refine (hD.out).mono ?_)); rintro e w9 ⟨rfl, h9⟩; replace hS := Lib.hid (hS.out.step0 h9); clear h9)
      replace hS := Lib.hid (hS.out.alloc (.cells #[.int .u8 0, .int .i64 0, .int .u64 0, .string ⟨#[]⟩] 26))
      generalize w9.alloc (.cells #[.int .u8 0, .int .i64 0, .int .u64 0, .string ⟨#[]⟩] 26) = w9 at *
      have hD := Lib.hid (dec_at [2, 127, 248, 0, 0, 0, 0, 0, 1] _ dec_lit2 rfl 9 rfl (by decide) #[.int .u8 2, .int .u8 127, .int .u8 248, .int .u8 0, .int .u8 0, .int .u8 0, .int .u8 0, .int .u8 0, .int .u8 1] rfl w9)
      go_upto_region 20 with (go_at_call 18; (first | (with_reducible refine (hD.out).mono ?_)); rintro e w9 ⟨rfl, h9⟩; replace hS := Lib.hid (hS.out.step0 h9); clear h9)
      replace hS := Lib.hid (hS.out.alloc (.cells #[.int .u8 0, .int .i64 0, .int .u64 0, .string ⟨#[]⟩] 26))
      generalize w9.alloc (.cells #[.int .u8 0, .int .i64 0, .int .u64 0, .string ⟨#[]⟩] 26) = w9 at *
      have hD := Lib.hid (dec_at [4, 0] _ dec_lit3 rfl 2 rfl (by decide) #[.int .u8 4, .int .u8 0] rfl w9)
      go_upto_region 21 with (go_at_call 18; (first | (with_reducible refine (hD.out).mono ?_)); rintro e w9 ⟨rfl, h9⟩; replace hS := Lib.hid (hS.out.step0 h9); clear h9)
      replace hS := Lib.hid (hS.out.alloc (.cells #[.int .u8 0, .int .i64 0, .int .u64 0, .string ⟨#[]⟩] 26))
      generalize w9.alloc (.cells #[.int .u8 0, .int .i64 0, .int .u64 0, .string ⟨#[]⟩] 26) = w9 at *
      have hD := Lib.hid (dec_at [3, 1, 31] _ dec_lit4 rfl 3 rfl (by decide) #[.int .u8 3, .int .u8 1, .int .u8 31] rfl w9)
      go_upto_region 22 with (go_at_call 18; (first | (with_reducible refine (hD.out).mono ?_)); rintro e w9 ⟨rfl, h9⟩; replace hS := Lib.hid (hS.out.step0 h9); clear h9)
      replace hS := Lib.hid (hS.out.alloc (.cells #[.int .u8 0, .int .i64 0, .int .u64 0, .string ⟨#[]⟩] 26))
      generalize w9.alloc (.cells #[.int .u8 0, .int .i64 0, .int .u64 0, .string ⟨#[]⟩] 26) = w9 at *
      have hD := Lib.hid (dec_at [1, 248, 1] _ dec_lit5 rfl 3 rfl (by decide) #[.int .u8 1, .int .u8 248, .int .u8 1] rfl w9)
      go_upto_region 23 with (go_at_call 18; (first | (with_reducible refine (hD.out).mono ?_)); rintro e w9 ⟨rfl, h9⟩; replace hS := Lib.hid (hS.out.step0 h9); clear h9)
      replace hS := Lib.hid (hS.out.alloc (.cells #[.int .u8 0, .int .i64 0, .int .u64 0, .string ⟨#[]⟩] 26))
      generalize w9.alloc (.cells #[.int .u8 0, .int .i64 0, .int .u64 0, .string ⟨#[]⟩] 26) = w9 at *
      have hD := Lib.hid (dec_at [3, 1, 120, 121] _ dec_lit6 rfl 4 rfl (by decide) #[.int .u8 3, .int .u8 1, .int .u8 120, .int .u8 121] rfl w9)
      go_wp2_with (go_at_call 18; (first | (with_reducible refine (hD.out).mono ?_)); rintro e w9 ⟨rfl, h9⟩; replace hS := Lib.hid (hS.out.step0 h9); clear h9; refine Stop.go'' _ ?_)
      refine StopP.go ?_
      have hSv := Lib.hid (hS.out.add (.cells #[.int .u8 3, .int .i64 0, .int .u64 0, .string ⟨#[120]⟩] 26))
      have hRl := Lib.hid (fun wx (h : Inv w ((w9.heap.size, .cells #[.int .u8 3, .int .i64 0, .int .u64 0, .string ⟨#[120]⟩] 26) :: (gm, .cells #[.int .u8 3, .int .i64 0, .int .u64 0, .string s30] 26) :: [(gb, .cells (rowV Lbad) 26), (gh, .cells (rowV Lhigh) 26), (gl, .cells (rowV Llow) 26)]) wx) => rises_lit Llow Llow_asc gl 13 rfl (by decide) wx _ _ (h.r (gl, .cells (rowV Llow) 26) (by simp)))
      have hRh := Lib.hid (fun wx (h : Inv w ((w9.heap.size, .cells #[.int .u8 3, .int .i64 0, .int .u64 0, .string ⟨#[120]⟩] 26) :: (gm, .cells #[.int .u8 3, .int .i64 0, .int .u64 0, .string s30] 26) :: [(gb, .cells (rowV Lbad) 26), (gh, .cells (rowV Lhigh) 26), (gl, .cells (rowV Llow) 26)]) wx) => rises_lit Lhigh Lhigh_asc gh 23 rfl (by decide) wx _ _ (h.r (gh, .cells (rowV Lhigh) 26) (by simp)))
      have hCM := Lib.hid (fun wx (h : Inv w ((w9.heap.size, .cells #[.int .u8 3, .int .i64 0, .int .u64 0, .string ⟨#[120]⟩] 26) :: (gm, .cells #[.int .u8 3, .int .i64 0, .int .u64 0, .string s30] 26) :: [(gb, .cells (rowV Lbad) 26), (gh, .cells (rowV Lhigh) 26), (gl, .cells (rowV Llow) 26)]) wx) => show wx.cell? ⟨gm, 3, none⟩ = some (.string s30) from cell_of_row _ _ _ _ _ _ (h.r (gm, .cells #[.int .u8 3, .int .i64 0, .int .u64 0, .string s30] 26) (by simp)))
      have hRV := Lib.hid (fun wx (h : Inv w ((w9.heap.size, .cells #[.int .u8 3, .int .i64 0, .int .u64 0, .string ⟨#[120]⟩] 26) :: (gm, .cells #[.int .u8 3, .int .i64 0, .int .u64 0, .string s30] 26) :: [(gb, .cells (rowV Lbad) 26), (gh, .cells (rowV Lhigh) 26), (gl, .cells (rowV Llow) 26)]) wx) => show wx.heap[w9.heap.size]? = some (.cells (vC 3 0 0 ⟨#[120]⟩) 26 (0, 0)) from h.r (w9.heap.size, .cells #[.int .u8 3, .int .i64 0, .int .u64 0, .string ⟨#[120]⟩] 26) (List.mem_cons_self ..))
      clear hS hD
      go_upto_region 24 with fail
      simp only [List.append]
      refine wp_region_quiet (C := Inv w ((w9.heap.size, .cells #[.int .u8 3, .int .i64 0, .int .u64 0, .string ⟨#[120]⟩] 26) :: (gm, .cells #[.int .u8 3, .int .i64 0, .int .u64 0, .string s30] 26) :: [(gb, .cells (rowV Lbad) 26), (gh, .cells (rowV Lhigh) 26), (gl, .cells (rowV Llow) 26)])) (by kernel_rfl) (lexB_of_lexL (by kernel_rfl) (by kernel_rfl)) (hSv.out.drew) ?_
      simp only [List.toList_toArray]
      repeat (first | fail | (refine wpq (vA 3 0 0 ⟨#[120]⟩) rfl (quiet_row 26 _ rfl (w9.heap.size) rfl 26 (vC 3 0 0 ⟨#[120]⟩) (0, 0) _ (fun w h => hRV.out w h) Try.underlying26 rfl info_val) rfl (fun K hK => ?_); go_simp; refine hK _ ?_; clear hK K) | (refine wpq (.string s30) rfl (quiet_cell 9 _ rfl gm 3 rfl (.string s30) (fun w h => hCM.out w h) Try.isAgg9) rfl (fun K hK => ?_); go_simp; refine hK _ ?_; clear hK K) | (refine wpq (.bool true) rfl (qa_call1 (.slice (some ⟨gl, 0, none⟩) 13 13) rfl Try.func19 (by kernel_rfl) rfl rfl rfl (fun w h => (hRl.out w h).mono fun e w' ⟨he, hb⟩ => ⟨he, h.step0 hb⟩)) rfl (fun K hK => ?_); go_simp; refine hK _ ?_; clear hK K) | (refine wpq (.bool true) rfl (qa_call1 (.slice (some ⟨gh, 0, none⟩) 23 23) rfl Try.func19 (by kernel_rfl) rfl rfl rfl (fun w h => (hRh.out w h).mono fun e w' ⟨he, hb⟩ => ⟨he, h.step0 hb⟩)) rfl (fun K hK => ?_); go_simp; refine hK _ ?_; clear hK K) | (refine wpq (vA 3 0 0 ⟨#[120]⟩) rfl (qa_call1 (.string ⟨#[120]⟩) rfl Try.func13 (by kernel_rfl) rfl rfl rfl (fun w h => (tx.out _ w).mono fun e w' ⟨he, hb⟩ => ⟨he, h.step0 hb⟩)) rfl (fun K hK => ?_); go_simp; refine hK _ ?_; clear hK K) | (refine wpq (.bool true) rfl (qa_call0 rfl Try.func20 (by kernel_rfl) rfl rfl (fun w h => (hal.out w).mono fun e w' ⟨he, hb⟩ => ⟨he, h.step0 hb⟩)) rfl (fun K hK => ?_); go_simp; refine hK _ ?_; clear hK K) | (refine wpq (.bool true) rfl (qa_eqlV (ops := #[]) _ _ 3 0 0 ⟨#[120]⟩ 3 0 0 ⟨#[120]⟩ _ rfl rfl rfl (eqB_refl _ _ _ _)) rfl (fun K hK => ?_); go_simp; refine hK _ ?_; clear hK K) | go_big_quiet_skip | (go_big_quiet_want; go_big_quiet_op; first | go_big_quiet_on | (refine ⟨_, fun _ _ => rfl, ?_⟩; go_big_quiet_on)))
      refine wpQuiet_nil ?_
      intro w5 h9
      replace hSv := Lib.hid h9
      clear h9
      go_wp2
      go_ret
      exact ⟨rfl, hSv.out.b⟩
end Go.Proofs.Ytpklfohaifeboaa

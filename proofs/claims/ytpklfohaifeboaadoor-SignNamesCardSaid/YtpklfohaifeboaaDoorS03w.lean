/- SignNames' walk. -/
import Derived.Test.YtpklfohaifeboaaDoorS03n
import Derived.Test.YtpklfohaifeboaaDoorLexL
import Derived.BigQuiet
namespace Go.Proofs.YtpklfohaifeboaaDoor
open Go.RowKit Go.YtpklfohaifeboaaDoor
set_option linter.unusedVariables false
set_option maxRecDepth 100000 in
set_option maxHeartbeats 4000000 in
theorem names_law (w : World) (hgl : GlobW w) :
  Calls Tryd.prog 6 #[] w fun e w' => e = .returned (.bool true) ∧ Below w.heap.size w w' := by
  have hmk := mk9992
  have hN := Lib.hid (nst0 w hgl)
  generalize u8s (zerosB 9992) = U at *
  obtain ⟨p⟩ := names0
  generalize zerosB 9991 = Z at *
  have hal := Lib.hid (fun wi (o : NSt Z w.heap.size w wi) => alive3 wi o.gl)
  have v1 := Lib.hid (fun wi (o : NSt Z w.heap.size w wi) => nv1 wi o.gl)
  have v2 := Lib.hid (fun wi (o : NSt Z w.heap.size w wi) => nv2 wi o.gl)
  have c1 := Lib.hid (fun wi (o : NSt Z w.heap.size w wi) => p.chal wi _ o.rd o.gl)
  have s1 := Lib.hid (fun wi (o : NSt Z w.heap.size w wi) => p.sign1 wi o.gl)
  have s2 := Lib.hid (fun wi (o : NSt Z w.heap.size w wi) => p.sign2 wi _ o.rd o.gl)
  have v3 := Lib.hid (fun wi (o : NSt Z w.heap.size w wi) => p.ver1 wi o.gl)
  have v4 := Lib.hid (fun wi (o : NSt Z w.heap.size w wi) => p.ver2 wi _ o.rd o.gl)
  generalize p.E1 = E1 at *
  generalize p.S1 = S1 at *
  generalize p.E2 = E2 at *
  generalize p.S2 = S2 at *
  generalize p.C = C at *
  clear p hgl
  go_enter Tryd.func6, Tryd.ntmps6
  go_upto_region 2 with fail
  have hS := hN
  generalize w.alloc (.cells U 5) = w9 at *
  generalize hg1 : w.heap.size = g1 at *
  have hg1' := Lib.hid hg1
  clear hg1 hN hmk
  have q1 := Lib.hid nq1; have q2 := Lib.hid nq2; have q3 := Lib.hid pub_last
  have n1 := Lib.hid (nn1 g1); have n2 := Lib.hid (nn2 g1)
  have c2 := Lib.hid (nc2 g1)
  have s3 := Lib.hid (ns3 g1); have s4 := Lib.hid (ns4 g1)
  have v5 := Lib.hid (nv5 g1 E2 S2); have v6 := Lib.hid (nv6 g1 E2 S2); have v7 := Lib.hid (nv7 E1 S1)
  have k1 := Lib.hid nk1; have k2 := Lib.hid nk2
  go_wp2_with (first | (go_at_call 24; (first | (with_reducible refine (q1.out _).mono ?_) | (with_reducible refine (q2.out _).mono ?_) | (with_reducible refine (q3.out _).mono ?_)); rintro e w9 ⟨rfl, g⟩; (try have h20 := Lib.hid (h20.out.step g)); (try have h22 := Lib.hid (h22.out.step g)); have hS := Lib.hid (hS.out.step g); clear g) | (go_at_call 25; (first | (with_reducible refine (n1.out _).mono ?_) | (with_reducible refine (n2.out _).mono ?_)); rintro e w9 ⟨rfl, g⟩; (try have h20 := Lib.hid (h20.out.step g)); (try have h22 := Lib.hid (h22.out.step g)); have hS := Lib.hid (hS.out.step g); clear g) | (go_at_call 26; (first | (with_reducible refine (c1.out _ hS.out).mono ?_) | (with_reducible refine (c2.out _).mono ?_)); rintro e w9 ⟨rfl, g⟩; (try have h20 := Lib.hid (h20.out.step g)); (try have h22 := Lib.hid (h22.out.step g)); have hS := Lib.hid (hS.out.step g); clear g) | (go_at_call 27; (first | (with_reducible refine (s1.out _ hS.out).mono ?_) | (with_reducible refine (s2.out _ hS.out).mono ?_) | (with_reducible refine (s3.out _).mono ?_) | (with_reducible refine (s4.out _).mono ?_)); rintro e w9 ⟨rfl, g⟩; (try have h20 := Lib.hid (h20.out.step g)); (try have h22 := Lib.hid (h22.out.step g)); have hS := Lib.hid (hS.out.step g); clear g) | (go_at_call 29; (first | (with_reducible refine (k1.out _).mono ?_) | (with_reducible refine (k2.out _).mono ?_)); rintro e w9 ⟨rfl, g⟩; (try have h20 := Lib.hid (h20.out.step g)); (try have h22 := Lib.hid (h22.out.step g)); have hS := Lib.hid (hS.out.step g); clear g) | (go_at_call 28; (first | (with_reducible refine (v1.out _ hS.out).mono ?_) | (with_reducible refine (v2.out _ hS.out).mono ?_) | (with_reducible refine (v3.out _ hS.out).mono ?_) | (with_reducible refine (v4.out _ hS.out).mono ?_) | (with_reducible refine (v5.out _).mono ?_) | (with_reducible refine (v6.out _).mono ?_) | (with_reducible refine (v7.out _).mono ?_)); rintro e w9 ⟨rfl, g⟩; (try have h20 := Lib.hid (h20.out.step g)); (try have h22 := Lib.hid (h22.out.step g)); have hS := Lib.hid (hS.out.step g); clear g) | (go_at_call 30; ((with_reducible refine (hal.out _ hS.out).mono ?_)); rintro e w9 ⟨rfl, g⟩; (try have h20 := Lib.hid (h20.out.step g)); (try have h22 := Lib.hid (h22.out.step g)); have hS := Lib.hid (hS.out.step g); clear g) | (refine storeNew w9 rfl 58 _ _ rfl #[.int .u32 0, .int .u32 0] 58 rfl rfl (sig_info2 _ _) rfl (two_one _ _) ?_; intro w9 hr g; (try have h20 := Lib.hid (h20.out.step g)); (try have h22 := Lib.hid (h22.out.step g)); have hS := Lib.hid (hS.out.step g); clear hr g) | (refine storeNew w9 rfl 58 _ _ rfl #[.int .u32 (E1 : Int), .int .u32 (S1 : Int)] 58 rfl rfl (sig_info2 _ _) rfl (two_one _ _) ?_; intro w9 hr g; have h20 := Lib.hid (show Has w9 _ _ _ from hr); have hS := Lib.hid (hS.out.step g); clear hr g) | (refine storeNew w9 rfl 58 _ _ rfl #[.int .u32 (E2 : Int), .int .u32 (S2 : Int)] 58 rfl rfl (sig_info2 _ _) rfl (two_one _ _) ?_; intro w9 hr g; (try have h20 := Lib.hid (h20.out.step g)); have h22 := Lib.hid (show Has w9 _ _ _ from hr); have hS := Lib.hid (hS.out.step g); clear hr g) | (refine wpList_load_row_g rfl 58 _ rfl _ rfl 58 _ (0, 0) _ h20.out Tryd.underlying58 rfl (sig_info2 _ _) ?_) | (refine wpList_load_row_g rfl 58 _ rfl _ rfl 58 _ (0, 0) _ h22.out Tryd.underlying58 rfl (sig_info2 _ _) ?_))
  have hC0 : NC Z g1 w _ _ _ _ w9 := ⟨hS.out, h20.out, h22.out⟩
  have hC0' := Lib.hid (hC0.step ((Below.refl _ _).drew))
  clear hC0 h20 h22 hS
  simp only [List.append]
  refine wp_region_quiet (C := NC Z g1 w _ _ _ _) (by kernel_rfl) (lexB_of_lexL (by kernel_rfl) (by kernel_rfl)) hC0'.out ?_
  simp only [List.toList_toArray]
  go_big_quiet_want; go_big_quiet_op; first | go_big_quiet_on | (refine ⟨_, fun _ _ => rfl, ?_⟩; go_big_quiet_on)
  go_big_quiet_want; go_big_quiet_op; first | go_big_quiet_on | (refine ⟨_, fun _ _ => rfl, ?_⟩; go_big_quiet_on)
  go_big_quiet_want; go_big_quiet_op; first | go_big_quiet_on | (refine ⟨_, fun _ _ => rfl, ?_⟩; go_big_quiet_on)
  go_big_quiet_want; go_big_quiet_op; first | go_big_quiet_on | (refine ⟨_, fun _ _ => rfl, ?_⟩; go_big_quiet_on)
  go_big_quiet_want; go_big_quiet_op; first | go_big_quiet_on | (refine ⟨_, fun _ _ => rfl, ?_⟩; go_big_quiet_on)
  go_big_quiet_want; go_big_quiet_op; first | go_big_quiet_on | (refine ⟨_, fun _ _ => rfl, ?_⟩; go_big_quiet_on)
  go_big_quiet_want; go_big_quiet_op; first | go_big_quiet_on | (refine ⟨_, fun _ _ => rfl, ?_⟩; go_big_quiet_on)
  go_big_quiet_want; go_big_quiet_op; first | go_big_quiet_on | (refine ⟨_, fun _ _ => rfl, ?_⟩; go_big_quiet_on)
  go_big_quiet_want; go_big_quiet_op; first | go_big_quiet_on | (refine ⟨_, fun _ _ => rfl, ?_⟩; go_big_quiet_on)
  go_big_quiet_want; go_big_quiet_op; first | go_big_quiet_on | (refine ⟨_, fun _ _ => rfl, ?_⟩; go_big_quiet_on)
  go_big_quiet_want; go_big_quiet_op; first | go_big_quiet_on | (refine ⟨_, fun _ _ => rfl, ?_⟩; go_big_quiet_on)
  go_big_quiet_want; go_big_quiet_op; first | go_big_quiet_on | (refine ⟨_, fun _ _ => rfl, ?_⟩; go_big_quiet_on)
  go_big_quiet_want; go_big_quiet_op; first | go_big_quiet_on | (refine ⟨_, fun _ _ => rfl, ?_⟩; go_big_quiet_on)
  go_big_quiet_want; go_big_quiet_op; first | go_big_quiet_on | (refine ⟨_, fun _ _ => rfl, ?_⟩; go_big_quiet_on)
  go_big_quiet_want; go_big_quiet_op; first | go_big_quiet_on | (refine ⟨_, fun _ _ => rfl, ?_⟩; go_big_quiet_on)
  go_big_quiet_want; go_big_quiet_op; first | go_big_quiet_on | (refine ⟨_, fun _ _ => rfl, ?_⟩; go_big_quiet_on)
  go_big_quiet_want; go_big_quiet_op; first | go_big_quiet_on | (refine ⟨_, fun _ _ => rfl, ?_⟩; go_big_quiet_on)
  go_big_quiet_want; go_big_quiet_op; first | go_big_quiet_on | (refine ⟨_, fun _ _ => rfl, ?_⟩; go_big_quiet_on)
  go_big_quiet_want; go_big_quiet_op; first | go_big_quiet_on | (refine ⟨_, fun _ _ => rfl, ?_⟩; go_big_quiet_on)
  go_big_quiet_want; go_big_quiet_op; first | go_big_quiet_on | (refine ⟨_, fun _ _ => rfl, ?_⟩; go_big_quiet_on)
  go_big_quiet_want; go_big_quiet_op; first | go_big_quiet_on | (refine ⟨_, fun _ _ => rfl, ?_⟩; go_big_quiet_on)
  go_big_quiet_want; go_big_quiet_op; first | go_big_quiet_on | (refine ⟨_, fun _ _ => rfl, ?_⟩; go_big_quiet_on)
  go_big_quiet_want; go_big_quiet_op; first | go_big_quiet_on | (refine ⟨_, fun _ _ => rfl, ?_⟩; go_big_quiet_on)
  go_big_quiet_want; go_big_quiet_op; first | go_big_quiet_on | (refine ⟨_, fun _ _ => rfl, ?_⟩; go_big_quiet_on)
  go_big_quiet_want; go_big_quiet_op; first | go_big_quiet_on | (refine ⟨_, fun _ _ => rfl, ?_⟩; go_big_quiet_on)
  go_big_quiet_want; go_big_quiet_op; first | go_big_quiet_on | (refine ⟨_, fun _ _ => rfl, ?_⟩; go_big_quiet_on)
  go_big_quiet_want; go_big_quiet_op; first | go_big_quiet_on | (refine ⟨_, fun _ _ => rfl, ?_⟩; go_big_quiet_on)
  go_big_quiet_want; go_big_quiet_op; first | go_big_quiet_on | (refine ⟨_, fun _ _ => rfl, ?_⟩; go_big_quiet_on)
  go_big_quiet_want; go_big_quiet_op; first | go_big_quiet_on | (refine ⟨_, fun _ _ => rfl, ?_⟩; go_big_quiet_on)
  go_big_quiet_want; go_big_quiet_op; first | go_big_quiet_on | (refine ⟨_, fun _ _ => rfl, ?_⟩; go_big_quiet_on)
  go_big_quiet_want; go_big_quiet_op; first | go_big_quiet_on | (refine ⟨_, fun _ _ => rfl, ?_⟩; go_big_quiet_on)
  go_big_quiet_want; go_big_quiet_op; first | go_big_quiet_on | (refine ⟨_, fun _ _ => rfl, ?_⟩; go_big_quiet_on)
  go_big_quiet_want; go_big_quiet_op; first | go_big_quiet_on | (refine ⟨_, fun _ _ => rfl, ?_⟩; go_big_quiet_on)
  go_big_quiet_want; go_big_quiet_op; first | go_big_quiet_on | (refine ⟨_, fun _ _ => rfl, ?_⟩; go_big_quiet_on)
  go_big_quiet_want; go_big_quiet_op; first | go_big_quiet_on | (refine ⟨_, fun _ _ => rfl, ?_⟩; go_big_quiet_on)
  go_big_quiet_want; go_big_quiet_op; first | go_big_quiet_on | (refine ⟨_, fun _ _ => rfl, ?_⟩; go_big_quiet_on)
  go_big_quiet_want; go_big_quiet_op; first | go_big_quiet_on | (refine ⟨_, fun _ _ => rfl, ?_⟩; go_big_quiet_on)
  go_big_quiet_want; go_big_quiet_op; first | go_big_quiet_on | (refine ⟨_, fun _ _ => rfl, ?_⟩; go_big_quiet_on)
  go_big_quiet_want; go_big_quiet_op; first | go_big_quiet_on | (refine ⟨_, fun _ _ => rfl, ?_⟩; go_big_quiet_on)
  go_big_quiet_want; go_big_quiet_op; first | go_big_quiet_on | (refine ⟨_, fun _ _ => rfl, ?_⟩; go_big_quiet_on)
  go_big_quiet_want; go_big_quiet_op; first | go_big_quiet_on | (refine ⟨_, fun _ _ => rfl, ?_⟩; go_big_quiet_on)
  go_big_quiet_want; go_big_quiet_op; first | go_big_quiet_on | (refine ⟨_, fun _ _ => rfl, ?_⟩; go_big_quiet_on)
  go_big_quiet_want; go_big_quiet_op; first | go_big_quiet_on | (refine ⟨_, fun _ _ => rfl, ?_⟩; go_big_quiet_on)
  go_big_quiet_want; go_big_quiet_op; first | go_big_quiet_on | (refine ⟨_, fun _ _ => rfl, ?_⟩; go_big_quiet_on)
  go_big_quiet_want; go_big_quiet_op; first | go_big_quiet_on | (refine ⟨_, fun _ _ => rfl, ?_⟩; go_big_quiet_on)
  go_big_quiet_want; go_big_quiet_op; first | go_big_quiet_on | (refine ⟨_, fun _ _ => rfl, ?_⟩; go_big_quiet_on)
  refine wpq (.agg #[.int .u32 (E1 : Int), .int .u32 (S1 : Int)]) rfl (quiet_row 58 _ rfl _ rfl 58 _ (0, 0) _ (fun w h => h.2.1) Tryd.underlying58 rfl (sig_info2 _ _)) (D := some 124) rfl (fun K hK => ?_); go_simp; refine hK _ ?_; clear hK K
  refine wpq (.int .i64 0) rfl (qa_call3 (.int .u32 250000002) (.slice none 0 0) (.agg #[.int .u32 (E1 : Int), .int .u32 (S1 : Int)]) rfl Tryd.func28 (by kernel_rfl) rfl rfl rfl rfl rfl (fun w h => (v3.out w h.1).mono fun e w' ⟨he, hb⟩ => ⟨he, h.step hb⟩)) (D := some 125) rfl (fun K hK => ?_); go_simp; refine hK _ ?_; clear hK K
  go_big_quiet_want; go_big_quiet_op; first | go_big_quiet_on | (refine ⟨_, fun _ _ => rfl, ?_⟩; go_big_quiet_on)
  go_big_quiet_want; go_big_quiet_op; first | go_big_quiet_on | (refine ⟨_, fun _ _ => rfl, ?_⟩; go_big_quiet_on)
  go_big_quiet_want; go_big_quiet_op; first | go_big_quiet_on | (refine ⟨_, fun _ _ => rfl, ?_⟩; go_big_quiet_on)
  go_big_quiet_want; go_big_quiet_op; first | go_big_quiet_on | (refine ⟨_, fun _ _ => rfl, ?_⟩; go_big_quiet_on)
  go_big_quiet_want; go_big_quiet_op; first | go_big_quiet_on | (refine ⟨_, fun _ _ => rfl, ?_⟩; go_big_quiet_on)
  go_big_quiet_want; go_big_quiet_op; first | go_big_quiet_on | (refine ⟨_, fun _ _ => rfl, ?_⟩; go_big_quiet_on)
  go_big_quiet_want; go_big_quiet_op; first | go_big_quiet_on | (refine ⟨_, fun _ _ => rfl, ?_⟩; go_big_quiet_on)
  go_big_quiet_want; go_big_quiet_op; first | go_big_quiet_on | (refine ⟨_, fun _ _ => rfl, ?_⟩; go_big_quiet_on)
  go_big_quiet_want; go_big_quiet_op; first | go_big_quiet_on | (refine ⟨_, fun _ _ => rfl, ?_⟩; go_big_quiet_on)
  refine wpq (.agg #[.int .u32 (E2 : Int), .int .u32 (S2 : Int)]) rfl (quiet_row 58 _ rfl _ rfl 58 _ (0, 0) _ (fun w h => h.2.2) Tryd.underlying58 rfl (sig_info2 _ _)) (D := some 135) rfl (fun K hK => ?_); go_simp; refine hK _ ?_; clear hK K
  refine wpq (.int .i64 0) rfl (qa_call3 (.int .u32 4) (.slice (some ⟨g1, 0, none⟩) 9991 9992) (.agg #[.int .u32 (E2 : Int), .int .u32 (S2 : Int)]) rfl Tryd.func28 (by kernel_rfl) rfl rfl rfl rfl rfl (fun w h => (v4.out w h.1).mono fun e w' ⟨he, hb⟩ => ⟨he, h.step hb⟩)) (D := some 136) rfl (fun K hK => ?_); go_simp; refine hK _ ?_; clear hK K
  go_big_quiet_want; go_big_quiet_op; first | go_big_quiet_on | (refine ⟨_, fun _ _ => rfl, ?_⟩; go_big_quiet_on)
  go_big_quiet_want; go_big_quiet_op; first | go_big_quiet_on | (refine ⟨_, fun _ _ => rfl, ?_⟩; go_big_quiet_on)
  go_big_quiet_want; go_big_quiet_op; first | go_big_quiet_on | (refine ⟨_, fun _ _ => rfl, ?_⟩; go_big_quiet_on)
  go_big_quiet_want; go_big_quiet_op; first | go_big_quiet_on | (refine ⟨_, fun _ _ => rfl, ?_⟩; go_big_quiet_on)
  refine wpq (.agg #[.int .u32 (E2 : Int), .int .u32 (S2 : Int)]) rfl (quiet_row 58 _ rfl _ rfl 58 _ (0, 0) _ (fun w h => h.2.2) Tryd.underlying58 rfl (sig_info2 _ _)) (D := some 141) rfl (fun K hK => ?_); go_simp; refine hK _ ?_; clear hK K
  refine wpq (.int .i64 4) rfl (qa_call3 (.int .u32 4) (.slice (some ⟨g1, 0, none⟩) 9992 9992) (.agg #[.int .u32 (E2 : Int), .int .u32 (S2 : Int)]) rfl Tryd.func28 (by kernel_rfl) rfl rfl rfl rfl rfl (fun w h => (v5.out w).mono fun e w' ⟨he, hb⟩ => ⟨he, h.step hb⟩)) (D := some 142) rfl (fun K hK => ?_); go_simp; refine hK _ ?_; clear hK K
  go_big_quiet_want; go_big_quiet_op; first | go_big_quiet_on | (refine ⟨_, fun _ _ => rfl, ?_⟩; go_big_quiet_on)
  go_big_quiet_want; go_big_quiet_op; first | go_big_quiet_on | (refine ⟨_, fun _ _ => rfl, ?_⟩; go_big_quiet_on)
  go_big_quiet_want; go_big_quiet_op; first | go_big_quiet_on | (refine ⟨_, fun _ _ => rfl, ?_⟩; go_big_quiet_on)
  go_big_quiet_want; go_big_quiet_op; first | go_big_quiet_on | (refine ⟨_, fun _ _ => rfl, ?_⟩; go_big_quiet_on)
  refine wpq (.agg #[.int .u32 (E2 : Int), .int .u32 (S2 : Int)]) rfl (quiet_row 58 _ rfl _ rfl 58 _ (0, 0) _ (fun w h => h.2.2) Tryd.underlying58 rfl (sig_info2 _ _)) (D := some 147) rfl (fun K hK => ?_); go_simp; refine hK _ ?_; clear hK K
  refine wpq (.int .i64 2) rfl (qa_call3 (.int .u32 5) (.slice (some ⟨g1, 0, none⟩) 9992 9992) (.agg #[.int .u32 (E2 : Int), .int .u32 (S2 : Int)]) rfl Tryd.func28 (by kernel_rfl) rfl rfl rfl rfl rfl (fun w h => (v6.out w).mono fun e w' ⟨he, hb⟩ => ⟨he, h.step hb⟩)) (D := some 148) rfl (fun K hK => ?_); go_simp; refine hK _ ?_; clear hK K
  go_big_quiet_want; go_big_quiet_op; first | go_big_quiet_on | (refine ⟨_, fun _ _ => rfl, ?_⟩; go_big_quiet_on)
  go_big_quiet_want; go_big_quiet_op; first | go_big_quiet_on | (refine ⟨_, fun _ _ => rfl, ?_⟩; go_big_quiet_on)
  go_big_quiet_want; go_big_quiet_op; first | go_big_quiet_on | (refine ⟨_, fun _ _ => rfl, ?_⟩; go_big_quiet_on)
  refine wpq (.agg #[.int .u32 (E1 : Int), .int .u32 (S1 : Int)]) rfl (quiet_row 58 _ rfl _ rfl 58 _ (0, 0) _ (fun w h => h.2.1) Tryd.underlying58 rfl (sig_info2 _ _)) (D := some 152) rfl (fun K hK => ?_); go_simp; refine hK _ ?_; clear hK K
  refine wpq (.int .i64 2) rfl (qa_call3 (.int .u32 0) (.slice none 0 0) (.agg #[.int .u32 (E1 : Int), .int .u32 (S1 : Int)]) rfl Tryd.func28 (by kernel_rfl) rfl rfl rfl rfl rfl (fun w h => (v7.out w).mono fun e w' ⟨he, hb⟩ => ⟨he, h.step hb⟩)) (D := some 153) rfl (fun K hK => ?_); go_simp; refine hK _ ?_; clear hK K
  go_big_quiet_want; go_big_quiet_op; first | go_big_quiet_on | (refine ⟨_, fun _ _ => rfl, ?_⟩; go_big_quiet_on)
  go_big_quiet_want; go_big_quiet_op; first | go_big_quiet_on | (refine ⟨_, fun _ _ => rfl, ?_⟩; go_big_quiet_on)
  go_big_quiet_want; go_big_quiet_op; first | go_big_quiet_on | (refine ⟨_, fun _ _ => rfl, ?_⟩; go_big_quiet_on)
  go_big_quiet_want; go_big_quiet_op; first | go_big_quiet_on | (refine ⟨_, fun _ _ => rfl, ?_⟩; go_big_quiet_on)
  refine wpq (.int .i64 22) rfl (qa_call3 (.int .u32 4) (.slice none 0 0) (.agg #[.int .u32 4294967295, .int .u32 0]) rfl Tryd.func28 (by kernel_rfl) rfl rfl rfl rfl rfl (fun w h => (v1.out w h.1).mono fun e w' ⟨he, hb⟩ => ⟨he, h.step hb⟩)) (D := some 158) rfl (fun K hK => ?_); go_simp; refine hK _ ?_; clear hK K
  go_big_quiet_want; go_big_quiet_op; first | go_big_quiet_on | (refine ⟨_, fun _ _ => rfl, ?_⟩; go_big_quiet_on)
  go_big_quiet_want; go_big_quiet_op; first | go_big_quiet_on | (refine ⟨_, fun _ _ => rfl, ?_⟩; go_big_quiet_on)
  go_big_quiet_want; go_big_quiet_op; first | go_big_quiet_on | (refine ⟨_, fun _ _ => rfl, ?_⟩; go_big_quiet_on)
  go_big_quiet_want; go_big_quiet_op; first | go_big_quiet_on | (refine ⟨_, fun _ _ => rfl, ?_⟩; go_big_quiet_on)
  refine wpq (.int .i64 22) rfl (qa_call3 (.int .u32 4) (.slice none 0 0) (.agg #[.int .u32 0, .int .u32 500000003]) rfl Tryd.func28 (by kernel_rfl) rfl rfl rfl rfl rfl (fun w h => (v2.out w h.1).mono fun e w' ⟨he, hb⟩ => ⟨he, h.step hb⟩)) (D := some 163) rfl (fun K hK => ?_); go_simp; refine hK _ ?_; clear hK K
  go_big_quiet_want; go_big_quiet_op; first | go_big_quiet_on | (refine ⟨_, fun _ _ => rfl, ?_⟩; go_big_quiet_on)
  go_big_quiet_want; go_big_quiet_op; first | go_big_quiet_on | (refine ⟨_, fun _ _ => rfl, ?_⟩; go_big_quiet_on)
  go_big_quiet_want; go_big_quiet_op; first | go_big_quiet_on | (refine ⟨_, fun _ _ => rfl, ?_⟩; go_big_quiet_on)
  refine wpq (.int .i64 0) rfl (qa_call1 (.int .u32 1) rfl Tryd.func29 (by kernel_rfl) rfl rfl rfl (fun w h => (k1.out w).mono fun e w' ⟨he, hb⟩ => ⟨he, h.step hb⟩)) (D := some 167) rfl (fun K hK => ?_); go_simp; refine hK _ ?_; clear hK K
  go_big_quiet_want; go_big_quiet_op; first | go_big_quiet_on | (refine ⟨_, fun _ _ => rfl, ?_⟩; go_big_quiet_on)
  go_big_quiet_want; go_big_quiet_op; first | go_big_quiet_on | (refine ⟨_, fun _ _ => rfl, ?_⟩; go_big_quiet_on)
  go_big_quiet_want; go_big_quiet_op; first | go_big_quiet_on | (refine ⟨_, fun _ _ => rfl, ?_⟩; go_big_quiet_on)
  refine wpq (.int .i64 0) rfl (qa_call1 (.int .u32 500000002) rfl Tryd.func29 (by kernel_rfl) rfl rfl rfl (fun w h => (k2.out w).mono fun e w' ⟨he, hb⟩ => ⟨he, h.step hb⟩)) (D := some 171) rfl (fun K hK => ?_); go_simp; refine hK _ ?_; clear hK K
  go_big_quiet_want; go_big_quiet_op; first | go_big_quiet_on | (refine ⟨_, fun _ _ => rfl, ?_⟩; go_big_quiet_on)
  go_big_quiet_want; go_big_quiet_op; first | go_big_quiet_on | (refine ⟨_, fun _ _ => rfl, ?_⟩; go_big_quiet_on)
  go_big_quiet_want; go_big_quiet_op; first | go_big_quiet_on | (refine ⟨_, fun _ _ => rfl, ?_⟩; go_big_quiet_on)
  refine wpq (.bool true) rfl (qa_call0 rfl Tryd.func30 (by kernel_rfl) rfl rfl (fun w h => (hal.out w h.1).mono fun e w' ⟨he, hb⟩ => ⟨he, h.step hb⟩)) (D := some 175) rfl (fun K hK => ?_); go_simp; refine hK _ ?_; clear hK K
  go_big_quiet_want; go_big_quiet_op; first | go_big_quiet_on | (refine ⟨_, fun _ _ => rfl, ?_⟩; go_big_quiet_on)
  go_big_quiet_want; go_big_quiet_op; first | go_big_quiet_on | (refine ⟨_, fun _ _ => rfl, ?_⟩; go_big_quiet_on)
  refine wpQuiet_nil ?_
  intro wz hz
  have hz' := Lib.hid hz
  clear hz
  go_wp2
  go_ret
  exact ⟨rfl, hz'.out.1.1⟩
end Go.Proofs.YtpklfohaifeboaaDoor

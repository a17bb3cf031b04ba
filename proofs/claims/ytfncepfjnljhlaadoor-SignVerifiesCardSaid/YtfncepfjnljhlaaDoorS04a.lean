/- SignVerifies' walk. -/
import Derived.Test.YtfncepfjnljhlaaDoorS03x
import Derived.Test.YtfncepfjnljhlaaDoorLibD
namespace Go.Proofs.YtfncepfjnljhlaaDoor
open Go.RowKit Go.YtfncepfjnljhlaaDoor
set_option linter.unusedVariables false
theorem verify_both (y : Nat) (hyu : y < 4294967296) (S E : Nat) (hS : S < 4294967296) (hE : E < 4294967296) (mv : Value) (m : List Int) (w : World) (hm : RdB w mv m) (hmb : Bytes m) (hgl : GlobW w) (hl : m.length ≤ 1000 ∨ 9991 < m.length) :
    ∃ V : Int, (∀ wi, Below w.heap.size w wi → Calls Tryd.prog 36 #[.int .u32 (y : Int), mv, .agg #[.int .u32 (E : Int), .int .u32 (S : Int)]] wi fun e w' => e = .returned (.int .i64 V) ∧ Below wi.heap.size wi w') ∧
      (∀ wi, Below w.heap.size w wi → Calls Tryd.prog 44 #[.int .u32 (y : Int), mv, .agg #[.int .u32 (E : Int), .int .u32 (S : Int)]] wi fun e w' => e = .returned (.int .i64 V) ∧ Below wi.heap.size wi w') := by
  cases hy : grp.inG y
  · obtain ⟨ma, mc, rfl⟩ := hm.slice
    exact ⟨2, fun wi _ => verify_arg y hyu hy ma _ mc E S wi, fun wi _ => rverify_arg y hyu hy ma _ mc E S wi⟩
  · by_cases h : 9991 < m.length
    · obtain ⟨ma, mc, rfl⟩ := hm.slice
      exact ⟨4, fun wi _ => verify_long y hy ma _ mc h E S wi, fun wi _ => rverify_long y hy ma _ mc h E S wi⟩
    · exact ⟨_, fun wi o => verify_any y hy S E hS hE mv m wi (hm.mono o) hmb (by omega) (hgl.mono o), fun wi o => rverify_any y hy S E hS hE mv m wi (hm.mono o) hmb (by omega) _ rfl⟩
set_option maxRecDepth 100000 in
set_option maxHeartbeats 1000000 in
theorem verifies_law (y : Nat) (hyu : y < 4294967296) (mv : Value) (m : List Int) (E S : Nat) (hE : E < 4294967296) (hS : S < 4294967296) (w : World) (hm : RdB w mv m) (hmb : Bytes m) (hgl : GlobW w) :
    Calls Tryd.prog 9 #[.int .u32 (y : Int), mv, .agg #[.int .u32 (E : Int), .int .u32 (S : Int)]] w fun e w' => e = .returned (.bool true) ∧ Below w.heap.size w w' := by
  by_cases hl : m.length ≤ 1000 ∨ 9991 < m.length ∧ m.length ≤ 11000
  · obtain ⟨V, hv1, hv2⟩ := verify_both y hyu S E hS hE mv m w hm hmb hgl (by omega)
    obtain ⟨ma, mc, rfl⟩ := hm.slice
    have hR := Lib.hid (Row1.start w #[.int .u32 (E : Int), .int .u32 (S : Int)] 60)
    have v1 := Lib.hid (fun wi (o : Row1 w wi #[.int .u32 (E : Int), .int .u32 (S : Int)] 60) => (hv1 wi o.1).mono (fun e w' ⟨he, hb⟩ => (⟨he, o.step hb⟩ : _ ∧ Row1 w w' #[.int .u32 (E : Int), .int .u32 (S : Int)] 60)))
    have v2 := Lib.hid (fun wi (o : Row1 w wi #[.int .u32 (E : Int), .int .u32 (S : Int)] 60) => (hv2 wi o.1).mono (fun e w' ⟨he, hb⟩ => (⟨he, o.step hb⟩ : _ ∧ Row1 w w' #[.int .u32 (E : Int), .int .u32 (S : Int)] 60)))
    generalize m.length = n at *
    clear hv1 hv2 hm hmb hgl
    rcases hl with hl | ⟨hl, hl2⟩
    all_goals
      go_enter Tryd.func9, Tryd.ntmps9
      go_wp2
      have hR0 := hR.out.step (Below.refl _ _).drew
      refine wp_region_quiet (C := fun wi => Row1 w wi #[.int .u32 (E : Int), .int .u32 (S : Int)] 60) (by kernel_rfl) (by kernel_rfl) hR0 ?_
      refine wpq (.int .u32 (y : Int)) rfl (qa_move _ rfl rfl) (D := some 20) rfl (fun K hK => ?_); go_simp; refine hK _ ?_; clear hK K
      refine wpq (.slice ma n mc) rfl (qa_move _ rfl rfl) (D := some 21) rfl (fun K hK => ?_); go_simp; refine hK _ ?_; clear hK K
      refine wpq (.agg #[.int .u32 (E : Int), .int .u32 (S : Int)]) rfl (quiet_row 60 _ rfl _ rfl 60 _ (0, 0) _ (fun w h => h.2) Tryd.underlying60 rfl (sig_info2 _ _)) (D := some 22) rfl (fun K hK => ?_); go_simp; refine hK _ ?_; clear hK K
      refine wpq (.int .i64 V) rfl (qa_call3 (.int .u32 (y : Int)) (.slice ma n mc) (.agg #[.int .u32 (E : Int), .int .u32 (S : Int)]) rfl Tryd.func36 (by kernel_rfl) rfl rfl rfl rfl rfl v1.out) (D := some 23) rfl (fun K hK => ?_); go_simp; refine hK _ ?_; clear hK K
      refine wpq (.int .u32 (y : Int)) rfl (qa_move _ rfl rfl) (D := some 24) rfl (fun K hK => ?_); go_simp; refine hK _ ?_; clear hK K
      refine wpq (.slice ma n mc) rfl (qa_move _ rfl rfl) (D := some 25) rfl (fun K hK => ?_); go_simp; refine hK _ ?_; clear hK K
      refine wpq (.agg #[.int .u32 (E : Int), .int .u32 (S : Int)]) rfl (quiet_row 60 _ rfl _ rfl 60 _ (0, 0) _ (fun w h => h.2) Tryd.underlying60 rfl (sig_info2 _ _)) (D := some 26) rfl (fun K hK => ?_); go_simp; refine hK _ ?_; clear hK K
      refine wpq (.int .i64 V) rfl (qa_call3 (.int .u32 (y : Int)) (.slice ma n mc) (.agg #[.int .u32 (E : Int), .int .u32 (S : Int)]) rfl Tryd.func44 (by kernel_rfl) rfl rfl rfl rfl rfl v2.out) (D := some 27) rfl (fun K hK => ?_); go_simp; refine hK _ ?_; clear hK K
      refine wpq (.bool true) rfl (qa_eql 3 _ _ _ .i64 V V true rfl Tryd.underlying3 rfl rfl (beq_self_eq_true V)) (D := some 28) rfl (fun K hK => ?_); go_simp; refine hK _ ?_; clear hK K
      refine wpq (.bool true) rfl (qa_assign _ rfl rfl) (D := some 6) rfl (fun K hK => ?_); go_simp; refine hK _ ?_; clear hK K
      refine wpQuiet_nil ?_
      intro wz hz
      have hz' := Lib.hid hz
      clear hz
      go_wp2
      go_ret
      exact ⟨rfl, hz'.out.1⟩
  · obtain ⟨ma, mc, rfl⟩ := hm.slice
    generalize m.length = n at *
    clear hm hmb hgl
    by_cases h1 : n ≤ 9991
    · have h2 : 1000 < n := by omega
      clear hl
      go_enter Tryd.func9, Tryd.ntmps9
      go_wp2
      go_ret
      exact ⟨rfl, below_a _ _⟩
    · have h2 : 11000 < n := by omega
      have h3 : 9991 < n := by omega
      have h4 : 1000 < n := by omega
      clear hl
      go_enter Tryd.func9, Tryd.ntmps9
      go_wp2
      go_ret
      exact ⟨rfl, below_a _ _⟩
end Go.Proofs.YtfncepfjnljhlaaDoor

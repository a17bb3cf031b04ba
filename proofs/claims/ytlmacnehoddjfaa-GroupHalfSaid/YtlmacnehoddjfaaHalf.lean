/- GroupHalf: of a number from 1 to P - 1 and its opposite modulo P just one is in the group, and its square is; 0 is not. No condition. -/
import Derived.Test.YtlmacnehoddjfaaG
import Derived.WalkKit
import Derived.ProofKit
import Derived.OpenShut
namespace Go.Proofs.Ytlmacnehoddjfaa.groupHalf
open Go.ChangeShapes Go.WideShapes Go.ChangeAt Go.RowKit
set_option linter.unusedVariables false      -- a walk need not use every 'w<i>' (that an integer argument fits its kind)

theorem own : ownKnob Try.prog.godebug = none := by kernel_rfl

set_option maxRecDepth 100000 in
theorem walk (a0 : Int) (w0 : (Lit.int .u32 a0).wf = true) (w : World) :
    Calls Try.prog 9 #[.int .u32 a0] w fun e w' => e = .returned (.bool true) ∧ Grown w w' := by
  obtain ⟨a, rfl, ha⟩ := nat_of_u32 a0 w0
  obtain ⟨I, f, i_of, f_of, hI⟩ := is_pack
  have hI := Lib.hid hI
  have hg := Lib.hid (Grown.refl w)
  have hr0 : (a : Int) % 1000000007 = ((a % GP : Nat) : Int) := by rw [Int.natCast_emod]; rfl
  have hrl := Nat.mod_lt a GP_pos
  generalize a % GP = r at hr0 hrl
  by_cases hr : r = 0
  · subst hr
    have i0 := Lib.hid (show I 0 from i_of 0 (by decide)); have f0 := Lib.hid (show f 0 = false from (f_of 0).trans inG_zero)
    have hr1 : (a : Int) % 1000000007 = 0 := hr0
    clear hr0 w0 ha i_of f_of hrl
    go_enter Try.func9, Try.ntmps9
    generalize hc : (1000000007 : Int) = c at hr1 ⊢
    have hc0 : ¬ c = 0 := by omega
    clear hc
    go_wp2_with (first | (go_at_call 15; refine (hI.out _ (by first | exact i0.out) _).mono ?_; rintro e w' ⟨he, g⟩; (first | rw [f0.out] at he); subst he; have hg := Lib.hid (Grown.trans' hg.out g); clear g) | (go_at_call 17; refine (alive_any _).mono ?_; rintro e w' ⟨rfl, g⟩; have hg := Lib.hid (Grown.trans' hg.out g); clear g))
    go_ret
    exact ⟨rfl, hg.out⟩
  · have h0 : 0 < r := Nat.pos_of_ne_zero hr
    have hr32 := GP_u32 hrl
    have iR := Lib.hid (i_of r hr32); have fR0 := f_of r
    have iD := i_of (GP - r) (by have := GP_val; omega); have fD0 := (f_of (GP - r)).trans ((Bool.not_not _).symm.trans (congrArg (!·) (half_ne r h0 hrl).symm))
    have iQ := i_of (r * r % GP) (GP_u32 (Nat.mod_lt _ GP_pos)); have fQ := (f_of (r * r % GP)).trans (square_in r h0 hrl)
    generalize inG r = x at fR0 fD0
    have hne : ((r : Int) == 0) = false := by rw [beq_eq_false_iff_ne]; omega
    have hw1 : IntKind.u64.wrap (r : Int) = (r : Int) := by rw [IntKind.wrap_u64]; omega
    have hw2 : (IntKind.u64.wrap ((r : Int) * (r : Int))).tmod 1000000007 = ((r * r % GP : Nat) : Int) := mulGP r r hrl hrl
    have hq : ((r * r % GP : Nat) : Int) % 4294967296 = ((r * r % GP : Nat) : Int) := by
      have := GP_u32 (Nat.mod_lt (r * r) GP_pos); omega
    have hd : IntKind.u32.wrap (1000000007 - (r : Int)) = ((GP - r : Nat) : Int) := by
      have := GP_val
      rw [show IntKind.u32.wrap (1000000007 - (r : Int)) = (1000000007 - (r : Int)) % 4294967296 by simp [IntKind.wrap, IntKind.bits, IntKind.signed]]; omega
    have hd2 : (1000000007 - (r : Int)) % 4294967296 = ((GP - r : Nat) : Int) := by
      have := GP_val; omega
    generalize ((r * r % GP : Nat) : Int) = q at hw2 hq iQ fQ
    generalize ((GP - r : Nat) : Int) = d at hd hd2 iD fD0
    have fR := Lib.hid fR0; have fD := Lib.hid fD0; have iD := Lib.hid iD; have iQ := Lib.hid iQ; have fQ := Lib.hid fQ
    clear w0 ha i_of f_of hrl h0 hr fR0 fD0 hr32
    cases x
    · go_enter Try.func9, Try.ntmps9
      generalize hc : (1000000007 : Int) = c at hr0 hw2 hd hd2 ⊢
      have hc0 : ¬ c = 0 := by omega
      clear hc
      go_wp2_with (first | (go_at_call 15; refine (hI.out _ (by first | exact iR.out | exact iD.out | exact iQ.out) _).mono ?_; rintro e w' ⟨he, g⟩; (first | rw [fR.out] at he | rw [fD.out] at he | rw [fQ.out] at he); subst he; have hg := Lib.hid (Grown.trans' hg.out g); clear g) | (go_at_call 17; refine (alive_any _).mono ?_; rintro e w' ⟨rfl, g⟩; have hg := Lib.hid (Grown.trans' hg.out g); clear g))
      go_ret
      exact ⟨rfl, hg.out⟩
    · go_enter Try.func9, Try.ntmps9
      generalize hc : (1000000007 : Int) = c at hr0 hw2 hd hd2 ⊢
      have hc0 : ¬ c = 0 := by omega
      clear hc
      go_wp2_with (first | (go_at_call 15; refine (hI.out _ (by first | exact iR.out | exact iD.out | exact iQ.out) _).mono ?_; rintro e w' ⟨he, g⟩; (first | rw [fR.out] at he | rw [fD.out] at he | rw [fQ.out] at he); subst he; have hg := Lib.hid (Grown.trans' hg.out g); clear g) | (go_at_call 17; refine (alive_any _).mono ?_; rintro e w' ⟨rfl, g⟩; have hg := Lib.hid (Grown.trans' hg.out g); clear g))
      go_ret
      exact ⟨rfl, hg.out⟩

set_option maxRecDepth 100000 in
theorem lifted (os : Os) (started : os.Started) (H : Type) (enc : TypeId × Value → H) :
    ReturnsInHanded {} Try.checked os 9 .any (Rows.groupHalfSpec.pre6 enc Try.prog Try.f9 Rows.groupHalfRow.domain false) (Rows.groupHalfSpec.post enc Try.prog Try.f9 false true false false) := by
  refine returnsInHanded_of_change (C := Try.checked) own started (by kernel_rfl) Try.func9
    (ChangeSpec.witness6 (enc := enc) (C := Try.checked) false ⟨#[], #[.int .u32 0], []⟩ 8 (by kernel_rfl) (by kernel_rfl) (by kernel_rfl) (by kernel_rfl)) ?_
  intro W base args ds gs before hval0 hW hcnd _
  have hval : ∀ (j : Nat) t v, Try.f9.params[j]? = some t → args[j]? = some v → Value.okWide Try.prog W .any base t v := hval0
  have hW' := hW
  obtain ⟨p, q, hA0, hV, rfl, hfz, hnd⟩ := hW
  have hA : DataW.TrodAll enc Try.prog W 0 (fun _ => true) true Try.f9.params.toList args.toList ds p := hA0
  rw [Try.params9] at hA hval
  obtain ⟨v0, vs0, d0, ds0, p0, q0, hargs, rfl, rfl, h0, r0⟩ := trodAll_cons hA
  obtain ⟨rfl, rfl, rfl⟩ := trodAll_nil r0
  obtain rfl : args = #[v0] := by cases args; simp_all
  obtain ⟨rfl, rfl⟩ := trodVars_none hV
  obtain ⟨a0, rfl, rfl, rfl, w0⟩ := open_int Try.underlying22 (hval 0 22 v0 rfl rfl) h0
  clear hA0 hval0
  simp only [List.append_nil] at hW'
  refine (walk a0 w0 W).mono fun e W' ⟨he, hg⟩ => ?_
  subst he
  exact ⟨_, rfl, post_of_same (pa := []) (pv := []) hW' (fun _ _ _ => (trodAll_cons_mk (shut_bool Try.underlying4 _) trodAll_mk0)) (fun sp _ => (trodAll_cons_mk (shut_int Try.underlying22 w0) trodAll_mk0)) (fun _ _ => rfl) rfl
    (hg.frame _) hg.2.1 (ok_one (by kernel_rfl) rfl (okWide_bool_mk Try.underlying4 _))⟩

theorem over : Rows.groupHalfRow.holds Try.pinned (OpenSpec.ofChange Rows.groupHalfSpec) :=
  OpenClaim.holds_of_wide 9 Try.f9 rfl rfl rfl rfl rfl rfl rfl ⟨rfl, rfl, rfl, rfl, rfl⟩ rfl rfl rfl rfl rfl (by kernel_rfl) Try.func9 (by kernel_rfl)
    (of_decide_eq_true (by kernel_rfl)) (by unfold Func.isWrapper; first | (rw [if_pos (by decide +kernel)]; kernel_rfl) | (rw [if_neg (by decide +kernel)]; exact ⟨rfl, rfl⟩))
    (fun os started H enc _ => lifted os started H enc)

/-- ████ THE STATEMENT ████ -/
theorem proved : Rows.GroupHalfSaid :=
  over
#print axioms proved
end Go.Proofs.Ytlmacnehoddjfaa.groupHalf

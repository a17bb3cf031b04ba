/- GroupNames: the examples of the chapter, the numbers at the ends, and the errors. No condition. -/
import Derived.Test.YtlmacnehoddjfaaH
import Derived.WalkKit
import Derived.ProofKit
import Derived.OpenShut
namespace Go.Proofs.Ytlmacnehoddjfaa.groupNames
open Go.ChangeShapes Go.WideShapes Go.ChangeAt Go.RowKit
set_option linter.unusedVariables false      -- a walk need not use every 'w<i>' (that an integer argument fits its kind)

theorem own : ownKnob Try.prog.godebug = none := by kernel_rfl

set_option maxRecDepth 100000 in
theorem walk  (w : World) :
    Calls Try.prog 3 #[] w fun e w' => e = .returned (.bool true) ∧ Grown w w' := by
  obtain ⟨p⟩ := names
  have q1 := Lib.hid p.k1
  have q2 := Lib.hid p.k2
  have q3 := Lib.hid p.k3
  have q4 := Lib.hid p.k4
  have q5 := Lib.hid p.k5
  have q6 := Lib.hid p.k6
  have q7 := Lib.hid p.k7
  have q8 := Lib.hid p.k8
  have q9 := Lib.hid p.k9
  have q10 := Lib.hid p.k10
  have q11 := Lib.hid p.k11
  have q12 := Lib.hid p.k12
  have q13 := Lib.hid p.k13
  have q14 := Lib.hid p.k14
  have q15 := Lib.hid p.k15
  have q16 := Lib.hid p.k16
  have q17 := Lib.hid p.k17
  have q18 := Lib.hid p.k18
  have q19 := Lib.hid p.k19
  have q20 := Lib.hid p.k20
  have q21 := Lib.hid p.k21
  have q22 := Lib.hid p.k22
  have q23 := Lib.hid p.k23
  have q24 := Lib.hid p.k24
  have hg := Lib.hid (Grown.refl w)
  go_enter Try.func3, Try.ntmps3
  go_wp2_with (first | (go_at_call 10; refine (p.mul _ _ (p.i _ (by decide)) (p.i _ (by decide)) _).mono ?_; rintro e w' ⟨he, g⟩; (try simp only [q1.out, q2.out, q3.out] at he); subst he; have hg := Lib.hid (Grown.trans' hg.out g); clear g) | (go_at_call 11; refine (p.pow _ _ (p.i _ (by decide)) (p.u _ (by decide)) _).mono ?_; rintro e w' ⟨he, g⟩; (try simp only [q4.out, q6.out, q7.out, q8.out, q9.out, q10.out] at he); subst he; have hg := Lib.hid (Grown.trans' hg.out g); clear g) | (go_at_call 12; refine (p.inv _ (p.i _ (by decide)) _).mono ?_; rintro e w' ⟨he, g⟩; (try simp only [q5.out] at he); subst he; have hg := Lib.hid (Grown.trans' hg.out g); clear g) | (go_at_call 13; refine (p.plus _ _ (p.i _ (by decide)) (p.i _ (by decide)) _).mono ?_; rintro e w' ⟨he, g⟩; (try simp only [q11.out, q12.out, q14.out, q16.out] at he); subst he; have hg := Lib.hid (Grown.trans' hg.out g); clear g) | (go_at_call 14; refine (p.times _ _ (p.i _ (by decide)) (p.i _ (by decide)) _).mono ?_; rintro e w' ⟨he, g⟩; (try simp only [q13.out, q14.out, q15.out] at he); subst he; have hg := Lib.hid (Grown.trans' hg.out g); clear g) | (go_at_call 15; refine (p.isf _ (p.i _ (by decide)) _).mono ?_; rintro e w' ⟨he, g⟩; (try simp only [q17.out, q18.out, q19.out, q20.out, q21.out] at he); subst he; have hg := Lib.hid (Grown.trans' hg.out g); clear g) | (go_at_call 16; refine (p.base _ (p.u _ (by decide)) _).mono ?_; rintro e w' ⟨he, g⟩; (try simp only [q22.out, q23.out, q24.out] at he); subst he; have hg := Lib.hid (Grown.trans' hg.out g); clear g) | (go_at_call 17; refine (alive_any _).mono ?_; rintro e w' ⟨rfl, g⟩; have hg := Lib.hid (Grown.trans' hg.out g); clear g))
  go_ret
  exact ⟨rfl, hg.out⟩

set_option maxRecDepth 100000 in
theorem lifted (os : Os) (started : os.Started) (H : Type) (enc : TypeId × Value → H) :
    ReturnsInHanded {} Try.checked os 3 .any (Rows.groupNamesSpec.pre6 enc Try.prog Try.f3 Rows.groupNamesRow.domain false) (Rows.groupNamesSpec.post enc Try.prog Try.f3 false true false false) := by
  refine returnsInHanded_of_change (C := Try.checked) own started (by kernel_rfl) Try.func3
    (ChangeSpec.witness6 (enc := enc) (C := Try.checked) false ⟨#[], #[], []⟩ 8 (by kernel_rfl) (by kernel_rfl) (by kernel_rfl) (by kernel_rfl)) ?_
  intro W base args ds gs before hval0 hW hcnd _
  have hval : ∀ (j : Nat) t v, Try.f3.params[j]? = some t → args[j]? = some v → Value.okWide Try.prog W .any base t v := hval0
  have hW' := hW
  obtain ⟨p, q, hA0, hV, rfl, hfz, hnd⟩ := hW
  have hA : DataW.TrodAll enc Try.prog W 0 (fun _ => true) true Try.f3.params.toList args.toList ds p := hA0
  rw [Try.params3] at hA hval
  obtain ⟨rfl, rfl, rfl⟩ := trodAll_none hA
  obtain ⟨rfl, rfl⟩ := trodVars_none hV
  clear hA0 hval0
  simp only [List.append_nil] at hW'
  refine (walk  W).mono fun e W' ⟨he, hg⟩ => ?_
  subst he
  exact ⟨_, rfl, post_of_same (pa := []) (pv := []) hW' (fun _ _ _ => (trodAll_cons_mk (shut_bool Try.underlying4 _) trodAll_mk0)) (fun sp _ => rfl) (fun _ _ => rfl) rfl
    (hg.frame _) hg.2.1 (ok_one (by kernel_rfl) rfl (okWide_bool_mk Try.underlying4 _))⟩

theorem over : Rows.groupNamesRow.holds Try.pinned (OpenSpec.ofChange Rows.groupNamesSpec) :=
  OpenClaim.holds_of_wide 3 Try.f3 rfl rfl rfl rfl rfl rfl rfl ⟨rfl, rfl, rfl, rfl, rfl⟩ rfl rfl rfl rfl rfl (by kernel_rfl) Try.func3 (by kernel_rfl)
    (of_decide_eq_true (by kernel_rfl)) (by unfold Func.isWrapper; first | (rw [if_pos (by decide +kernel)]; kernel_rfl) | (rw [if_neg (by decide +kernel)]; exact ⟨rfl, rfl⟩))
    (fun os started H enc _ => lifted os started H enc)

/-- ████ THE STATEMENT ████ -/
theorem proved : Rows.GroupNamesSaid :=
  over
#print axioms proved
end Go.Proofs.Ytlmacnehoddjfaa.groupNames

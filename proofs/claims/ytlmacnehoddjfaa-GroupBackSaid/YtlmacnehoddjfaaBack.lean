/- GroupBack: for two numbers of the group: what is multiplied by one and by its inverse is back, the inverse of the inverse is the number, and the inverse is its power with Q - 1; for all other numbers the examples hold. No condition. -/
import Derived.Test.YtlmacnehoddjfaaG
import Derived.WalkKit
import Derived.ProofKit
import Derived.OpenShut
namespace Go.Proofs.Ytlmacnehoddjfaa.groupBack
open Go.ChangeShapes Go.WideShapes Go.ChangeAt Go.RowKit
set_option linter.unusedVariables false      -- a walk need not use every 'w<i>' (that an integer argument fits its kind)

theorem own : ownKnob Try.prog.godebug = none := by kernel_rfl

theorem walk (a0 : Int) (a1 : Int) (w0 : (Lit.int .u32 a0).wf = true) (w1 : (Lit.int .u32 a1).wf = true) (w : World) :
    Calls Try.prog 7 #[.int .u32 a0, .int .u32 a1] w fun e w' => e = .returned (.bool true) ∧ Grown w w' := by
  obtain ⟨a, rfl, ha⟩ := nat_of_u32 a0 w0
  obtain ⟨b, rfl, hb⟩ := nat_of_u32 a1 w1
  have la := Lib.hid ha; have lb := Lib.hid hb
  have hg := Lib.hid (Grown.refl w)
  clear ha hb w0 w1
  cases hA0 : inG a
  · have hA := Lib.hid hA0
    clear hA0
    go_enter Try.func7, Try.ntmps7
    go_wp2_with (first | (go_at_call 21; refine (ris_any _ (by first | exact la.out) _).mono ?_; rintro e w' ⟨he, rfl⟩; (first | rw [hA.out] at he); subst he) | (go_at_call 17; refine (alive_any _).mono ?_; rintro e w' ⟨rfl, g⟩; have hg := Lib.hid (Grown.trans' hg.out g); clear g))
    go_ret
    exact ⟨rfl, hg.out⟩
  cases hB0 : inG b
  · have hA := Lib.hid hA0; have hB := Lib.hid hB0
    clear hA0 hB0
    go_enter Try.func7, Try.ntmps7
    go_wp2_with (first | (go_at_call 21; refine (ris_any _ (by first | exact la.out | exact lb.out) _).mono ?_; rintro e w' ⟨he, rfl⟩; (first | rw [hA.out] at he | rw [hB.out] at he); subst he) | (go_at_call 17; refine (alive_any _).mono ?_; rintro e w' ⟨rfl, g⟩; have hg := Lib.hid (Grown.trans' hg.out g); clear g))
    go_ret
    exact ⟨rfl, hg.out⟩
  obtain ⟨p⟩ := pack
  have hA := Lib.hid hA0; have hB := Lib.hid hB0
  have gA := Lib.hid (p.g_of a hA0); have gB := Lib.hid (p.g_of b hB0); have gI := Lib.hid (p.iv_in _ gA.out)
  have gD := Lib.hid (p.mu_in _ _ gB.out gA.out)
  have uN := Lib.hid (p.u_of 500000002 (by decide))
  have r1 := Lib.hid (p.mu_iv _ gA.out); have r2 := Lib.hid ((p.mu_assoc (b : Int) (a : Int) (p.iv a)).trans ((congrArg (p.mu (b : Int)) (p.mu_iv _ gA.out)).trans (p.mu_one _ gB.out))); have r3 := Lib.hid (p.iv_iv _ gA.out); have r4 := Lib.hid (p.po_iv (a : Int))
  clear hA0 hB0
  go_enter Try.func7, Try.ntmps7
  go_wp2_with (first | (go_at_call 21; refine (ris_any _ (by first | exact la.out | exact lb.out) _).mono ?_; rintro e w' ⟨he, rfl⟩; (first | rw [hA.out] at he | rw [hB.out] at he); subst he) | (go_at_call 10; refine (p.mul _ _ (by first | exact gA.out | exact gB.out | exact gI.out | exact gD.out) (by first | exact gA.out | exact gB.out | exact gI.out | exact gD.out) _).mono ?_; rintro e w' ⟨he, g⟩; (try rw [r1.out] at he); (try rw [r2.out] at he); subst he; have hg := Lib.hid (Grown.trans' hg.out g); clear g) | (go_at_call 12; refine (p.inv _ (by first | exact gA.out | exact gI.out) _).mono ?_; rintro e w' ⟨he, g⟩; (try rw [r3.out] at he); subst he; have hg := Lib.hid (Grown.trans' hg.out g); clear g) | (go_at_call 11; refine (p.pow _ _ (by first | exact gA.out) (by first | exact uN.out) _).mono ?_; rintro e w' ⟨he, g⟩; (try rw [r4.out] at he); subst he; have hg := Lib.hid (Grown.trans' hg.out g); clear g) | (go_at_call 17; refine (alive_any _).mono ?_; rintro e w' ⟨rfl, g⟩; have hg := Lib.hid (Grown.trans' hg.out g); clear g))
  go_ret
  exact ⟨rfl, hg.out⟩

set_option maxRecDepth 100000 in
theorem lifted (os : Os) (started : os.Started) (H : Type) (enc : TypeId × Value → H) :
    ReturnsInHanded {} Try.checked os 7 .any (Rows.groupBackSpec.pre6 enc Try.prog Try.f7 Rows.groupBackRow.domain false) (Rows.groupBackSpec.post enc Try.prog Try.f7 false true false false) := by
  refine returnsInHanded_of_change (C := Try.checked) own started (by kernel_rfl) Try.func7
    (ChangeSpec.witness6 (enc := enc) (C := Try.checked) false ⟨#[], #[.int .u32 0, .int .u32 0], []⟩ 8 (by kernel_rfl) (by kernel_rfl) (by kernel_rfl) (by kernel_rfl)) ?_
  intro W base args ds gs before hval0 hW hcnd _
  have hval : ∀ (j : Nat) t v, Try.f7.params[j]? = some t → args[j]? = some v → Value.okWide Try.prog W .any base t v := hval0
  have hW' := hW
  obtain ⟨p, q, hA0, hV, rfl, hfz, hnd⟩ := hW
  have hA : DataW.TrodAll enc Try.prog W 0 (fun _ => true) true Try.f7.params.toList args.toList ds p := hA0
  rw [Try.params7] at hA hval
  obtain ⟨v0, vs0, d0, ds0, p0, q0, hargs, rfl, rfl, h0, r0⟩ := trodAll_cons hA
  obtain ⟨v1, vs1, d1, ds1, p1, q1, rfl, rfl, rfl, h1, r1⟩ := trodAll_cons r0
  obtain ⟨rfl, rfl, rfl⟩ := trodAll_nil r1
  obtain rfl : args = #[v0, v1] := by cases args; simp_all
  obtain ⟨rfl, rfl⟩ := trodVars_none hV
  obtain ⟨a0, rfl, rfl, rfl, w0⟩ := open_int Try.underlying22 (hval 0 22 v0 rfl rfl) h0
  obtain ⟨a1, rfl, rfl, rfl, w1⟩ := open_int Try.underlying22 (hval 1 22 v1 rfl rfl) h1
  clear hA0 hval0
  simp only [List.append_nil] at hW'
  refine (walk a0 a1 w0 w1 W).mono fun e W' ⟨he, hg⟩ => ?_
  subst he
  exact ⟨_, rfl, post_of_same (pa := []) (pv := []) hW' (fun _ _ _ => (trodAll_cons_mk (shut_bool Try.underlying4 _) trodAll_mk0)) (fun sp _ => (trodAll_cons_mk (shut_int Try.underlying22 w0) (trodAll_cons_mk (shut_int Try.underlying22 w1) trodAll_mk0))) (fun _ _ => rfl) rfl
    (hg.frame _) hg.2.1 (ok_one (by kernel_rfl) rfl (okWide_bool_mk Try.underlying4 _))⟩

theorem over : Rows.groupBackRow.holds Try.pinned (OpenSpec.ofChange Rows.groupBackSpec) :=
  OpenClaim.holds_of_wide 7 Try.f7 rfl rfl rfl rfl rfl rfl rfl ⟨rfl, rfl, rfl, rfl, rfl⟩ rfl rfl rfl rfl rfl (by kernel_rfl) Try.func7 (by kernel_rfl)
    (of_decide_eq_true (by kernel_rfl)) (by unfold Func.isWrapper; first | (rw [if_pos (by decide +kernel)]; kernel_rfl) | (rw [if_neg (by decide +kernel)]; exact ⟨rfl, rfl⟩))
    (fun os started H enc _ => lifted os started H enc)

/-- ████ THE STATEMENT ████ -/
theorem proved : Rows.GroupBackSaid :=
  over
#print axioms proved
end Go.Proofs.Ytlmacnehoddjfaa.groupBack

/- GroupRules: for numbers of the group products and powers are in the group, products depend neither on the order nor on how they are put together, and 1 changes nothing; for all other numbers the examples hold. No condition. -/
import Derived.Test.YtlmacnehoddjfaaG
import Derived.WalkKit
import Derived.ProofKit
import Derived.OpenShut
namespace Go.Proofs.Ytlmacnehoddjfaa.groupRules
open Go.ChangeShapes Go.WideShapes Go.ChangeAt Go.RowKit
set_option linter.unusedVariables false      -- a walk need not use every 'w<i>' (that an integer argument fits its kind)

theorem own : ownKnob Try.prog.godebug = none := by kernel_rfl

theorem walk (a0 : Int) (a1 : Int) (a2 : Int) (a3 : Int) (w0 : (Lit.int .u32 a0).wf = true) (w1 : (Lit.int .u32 a1).wf = true) (w2 : (Lit.int .u32 a2).wf = true) (w3 : (Lit.int .u64 a3).wf = true) (w : World) :
    Calls Try.prog 8 #[.int .u32 a0, .int .u32 a1, .int .u32 a2, .int .u64 a3] w fun e w' => e = .returned (.bool true) ∧ Grown w w' := by
  obtain ⟨a, rfl, ha⟩ := nat_of_u32 a0 w0
  obtain ⟨b, rfl, hb⟩ := nat_of_u32 a1 w1
  obtain ⟨c, rfl, hc⟩ := nat_of_u32 a2 w2
  obtain ⟨n, rfl, hn⟩ := nat_of_u64 a3 w3
  have la := Lib.hid ha; have lb := Lib.hid hb; have lc := Lib.hid hc
  have hg := Lib.hid (Grown.refl w)
  clear ha hb hc w0 w1 w2 w3
  cases hA0 : inG a
  · have hA := Lib.hid hA0
    clear hA0 hn
    go_enter Try.func8, Try.ntmps8
    go_wp2_with (first | (go_at_call 21; refine (ris_any _ (by first | exact la.out) _).mono ?_; rintro e w' ⟨he, rfl⟩; (first | rw [hA.out] at he); subst he) | (go_at_call 17; refine (alive_any _).mono ?_; rintro e w' ⟨rfl, g⟩; have hg := Lib.hid (Grown.trans' hg.out g); clear g))
    go_ret
    exact ⟨rfl, hg.out⟩
  cases hB0 : inG b
  · have hA := Lib.hid hA0; have hB := Lib.hid hB0
    clear hA0 hB0 hn
    go_enter Try.func8, Try.ntmps8
    go_wp2_with (first | (go_at_call 21; refine (ris_any _ (by first | exact la.out | exact lb.out) _).mono ?_; rintro e w' ⟨he, rfl⟩; (first | rw [hA.out] at he | rw [hB.out] at he); subst he) | (go_at_call 17; refine (alive_any _).mono ?_; rintro e w' ⟨rfl, g⟩; have hg := Lib.hid (Grown.trans' hg.out g); clear g))
    go_ret
    exact ⟨rfl, hg.out⟩
  cases hC0 : inG c
  · have hA := Lib.hid hA0; have hB := Lib.hid hB0; have hC := Lib.hid hC0
    clear hA0 hB0 hC0 hn
    go_enter Try.func8, Try.ntmps8
    go_wp2_with (first | (go_at_call 21; refine (ris_any _ (by first | exact la.out | exact lb.out | exact lc.out) _).mono ?_; rintro e w' ⟨he, rfl⟩; (first | rw [hA.out] at he | rw [hB.out] at he | rw [hC.out] at he); subst he) | (go_at_call 17; refine (alive_any _).mono ?_; rintro e w' ⟨rfl, g⟩; have hg := Lib.hid (Grown.trans' hg.out g); clear g))
    go_ret
    exact ⟨rfl, hg.out⟩
  obtain ⟨p⟩ := pack
  have hA := Lib.hid hA0; have hB := Lib.hid hB0; have hC := Lib.hid hC0
  have gA := Lib.hid (p.g_of a hA0); have gB := Lib.hid (p.g_of b hB0); have gC := Lib.hid (p.g_of c hC0); have g1 := Lib.hid p.one_in
  have gX := Lib.hid (p.mu_in _ _ gA.out gB.out); have gZ := Lib.hid (p.mu_in _ _ gB.out gC.out)
  have uN := Lib.hid (p.u_of n hn); have gP := Lib.hid (p.po_in _ (n : Int) gA.out); have gBa := Lib.hid (p.ba_in (n : Int))
  have r1 := Lib.hid (p.mu_comm (b : Int) (a : Int)); have r2 := Lib.hid (p.mu_assoc (a : Int) (b : Int) (c : Int)).symm; have r3 := Lib.hid (p.mu_one _ gA.out)
  clear hA0 hB0 hC0 hn
  go_enter Try.func8, Try.ntmps8
  go_wp2_with (first | (go_at_call 21; refine (ris_any _ (by first | exact la.out | exact lb.out | exact lc.out) _).mono ?_; rintro e w' ⟨he, rfl⟩; (first | rw [hA.out] at he | rw [hB.out] at he | rw [hC.out] at he); subst he) | (go_at_call 10; refine (p.mul _ _ (by first | exact gA.out | exact gB.out | exact gC.out | exact gX.out | exact gZ.out | exact g1.out) (by first | exact gA.out | exact gB.out | exact gC.out | exact gX.out | exact gZ.out | exact g1.out) _).mono ?_; rintro e w' ⟨he, g⟩; (try rw [r1.out] at he); (try rw [r2.out] at he); (try rw [r3.out] at he); subst he; have hg := Lib.hid (Grown.trans' hg.out g); clear g) | (go_at_call 11; refine (p.pow _ _ (by first | exact gA.out) (by first | exact uN.out) _).mono ?_; rintro e w' ⟨he, g⟩; subst he; have hg := Lib.hid (Grown.trans' hg.out g); clear g) | (go_at_call 16; refine (p.base _ (by first | exact uN.out) _).mono ?_; rintro e w' ⟨he, g⟩; subst he; have hg := Lib.hid (Grown.trans' hg.out g); clear g) | (go_at_call 15; refine (p.isG _ (by first | exact gX.out | exact gP.out | exact gBa.out) _).mono ?_; rintro e w' ⟨rfl, g⟩; have hg := Lib.hid (Grown.trans' hg.out g); clear g) | (go_at_call 17; refine (alive_any _).mono ?_; rintro e w' ⟨rfl, g⟩; have hg := Lib.hid (Grown.trans' hg.out g); clear g))
  go_ret
  exact ⟨rfl, hg.out⟩

set_option maxRecDepth 100000 in
theorem lifted (os : Os) (started : os.Started) (H : Type) (enc : TypeId × Value → H) :
    ReturnsInHanded {} Try.checked os 8 .any (Rows.groupRulesSpec.pre6 enc Try.prog Try.f8 Rows.groupRulesRow.domain false) (Rows.groupRulesSpec.post enc Try.prog Try.f8 false true false false) := by
  refine returnsInHanded_of_change (C := Try.checked) own started (by kernel_rfl) Try.func8
    (ChangeSpec.witness6 (enc := enc) (C := Try.checked) false ⟨#[], #[.int .u32 0, .int .u32 0, .int .u32 0, .int .u64 0], []⟩ 8 (by kernel_rfl) (by kernel_rfl) (by kernel_rfl) (by kernel_rfl)) ?_
  intro W base args ds gs before hval0 hW hcnd _
  have hval : ∀ (j : Nat) t v, Try.f8.params[j]? = some t → args[j]? = some v → Value.okWide Try.prog W .any base t v := hval0
  have hW' := hW
  obtain ⟨p, q, hA0, hV, rfl, hfz, hnd⟩ := hW
  have hA : DataW.TrodAll enc Try.prog W 0 (fun _ => true) true Try.f8.params.toList args.toList ds p := hA0
  rw [Try.params8] at hA hval
  obtain ⟨v0, vs0, d0, ds0, p0, q0, hargs, rfl, rfl, h0, r0⟩ := trodAll_cons hA
  obtain ⟨v1, vs1, d1, ds1, p1, q1, rfl, rfl, rfl, h1, r1⟩ := trodAll_cons r0
  obtain ⟨v2, vs2, d2, ds2, p2, q2, rfl, rfl, rfl, h2, r2⟩ := trodAll_cons r1
  obtain ⟨v3, vs3, d3, ds3, p3, q3, rfl, rfl, rfl, h3, r3⟩ := trodAll_cons r2
  obtain ⟨rfl, rfl, rfl⟩ := trodAll_nil r3
  obtain rfl : args = #[v0, v1, v2, v3] := by cases args; simp_all
  obtain ⟨rfl, rfl⟩ := trodVars_none hV
  obtain ⟨a0, rfl, rfl, rfl, w0⟩ := open_int Try.underlying22 (hval 0 22 v0 rfl rfl) h0
  obtain ⟨a1, rfl, rfl, rfl, w1⟩ := open_int Try.underlying22 (hval 1 22 v1 rfl rfl) h1
  obtain ⟨a2, rfl, rfl, rfl, w2⟩ := open_int Try.underlying22 (hval 2 22 v2 rfl rfl) h2
  obtain ⟨a3, rfl, rfl, rfl, w3⟩ := open_int Try.underlying27 (hval 3 27 v3 rfl rfl) h3
  clear hA0 hval0
  simp only [List.append_nil] at hW'
  refine (walk a0 a1 a2 a3 w0 w1 w2 w3 W).mono fun e W' ⟨he, hg⟩ => ?_
  subst he
  exact ⟨_, rfl, post_of_same (pa := []) (pv := []) hW' (fun _ _ _ => (trodAll_cons_mk (shut_bool Try.underlying4 _) trodAll_mk0)) (fun sp _ => (trodAll_cons_mk (shut_int Try.underlying22 w0) (trodAll_cons_mk (shut_int Try.underlying22 w1) (trodAll_cons_mk (shut_int Try.underlying22 w2) (trodAll_cons_mk (shut_int Try.underlying27 w3) trodAll_mk0))))) (fun _ _ => rfl) rfl
    (hg.frame _) hg.2.1 (ok_one (by kernel_rfl) rfl (okWide_bool_mk Try.underlying4 _))⟩

theorem over : Rows.groupRulesRow.holds Try.pinned (OpenSpec.ofChange Rows.groupRulesSpec) :=
  OpenClaim.holds_of_wide 8 Try.f8 rfl rfl rfl rfl rfl rfl rfl ⟨rfl, rfl, rfl, rfl, rfl⟩ rfl rfl rfl rfl rfl (by kernel_rfl) Try.func8 (by kernel_rfl)
    (of_decide_eq_true (by kernel_rfl)) (by unfold Func.isWrapper; first | (rw [if_pos (by decide +kernel)]; kernel_rfl) | (rw [if_neg (by decide +kernel)]; exact ⟨rfl, rfl⟩))
    (fun os started H enc _ => lifted os started H enc)

/-- ████ THE STATEMENT ████ -/
theorem proved : Rows.GroupRulesSaid :=
  over
#print axioms proved
end Go.Proofs.Ytlmacnehoddjfaa.groupRules

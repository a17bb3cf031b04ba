/- GroupPowers: for a number of the group and two exponents, powers add and multiply, also with Plus and Times, and a power depends only on the remainder of the exponent by Q; for all other numbers the examples hold. No condition. -/
import Derived.Test.YtlmacnehoddjfaaG
import Derived.WalkKit
import Derived.ProofKit
import Derived.OpenShut
namespace Go.Proofs.Ytlmacnehoddjfaa.groupPowers
open Go.ChangeShapes Go.WideShapes Go.ChangeAt Go.RowKit
set_option linter.unusedVariables false      -- a walk need not use every 'w<i>' (that an integer argument fits its kind)

theorem own : ownKnob Try.prog.godebug = none := by kernel_rfl

set_option maxRecDepth 100000 in
theorem walk (a0 : Int) (a1 : Int) (a2 : Int) (a3 : Int) (w0 : (Lit.int .u32 a0).wf = true) (w1 : (Lit.int .u32 a1).wf = true) (w2 : (Lit.int .u32 a2).wf = true) (w3 : (Lit.int .u64 a3).wf = true) (w : World) :
    Calls Try.prog 6 #[.int .u32 a0, .int .u32 a1, .int .u32 a2, .int .u64 a3] w fun e w' => e = .returned (.bool true) ∧ Grown w w' := by
  obtain ⟨a, rfl, ha⟩ := nat_of_u32 a0 w0
  obtain ⟨m, rfl, hm⟩ := nat_of_u32 a1 w1
  obtain ⟨n, rfl, hn⟩ := nat_of_u32 a2 w2
  obtain ⟨more, rfl, hmore⟩ := nat_of_u64 a3 w3
  have la := Lib.hid ha; have lm := Lib.hid hm; have ln := Lib.hid hn
  have hg := Lib.hid (Grown.refl w)
  clear ha hm hn w0 w1 w2 w3
  cases hA0 : inG a
  · have hA := Lib.hid hA0
    clear hA0 hmore
    go_enter Try.func6, Try.ntmps6
    go_wp2_with (first | (go_at_call 21; refine (ris_any _ (by first | exact la.out) _).mono ?_; rintro e w' ⟨he, rfl⟩; (first | rw [hA.out] at he); subst he) | (go_at_call 17; refine (alive_any _).mono ?_; rintro e w' ⟨rfl, g⟩; have hg := Lib.hid (Grown.trans' hg.out g); clear g))
    go_ret
    exact ⟨rfl, hg.out⟩
  by_cases hM0 : ¬ m < 500000003
  · have hA := Lib.hid hA0; have hM := Lib.hid (decide_eq_false hM0)
    clear hA0 hM0 hmore
    go_enter Try.func6, Try.ntmps6
    go_wp2_with (first | (go_at_call 21; refine (ris_any _ (by first | exact la.out) _).mono ?_; rintro e w' ⟨he, rfl⟩; (first | rw [hA.out] at he); subst he) | (go_at_call 25; refine (exponent_any _ (by first | exact lm.out) _).mono ?_; rintro e w' ⟨he, rfl⟩; (first | rw [hM.out] at he); subst he) | (go_at_call 17; refine (alive_any _).mono ?_; rintro e w' ⟨rfl, g⟩; have hg := Lib.hid (Grown.trans' hg.out g); clear g))
    go_ret
    exact ⟨rfl, hg.out⟩
  replace hM0 : m < 500000003 := by omega
  by_cases hN0 : ¬ n < 500000003
  · have hA := Lib.hid hA0; have hM := Lib.hid (decide_eq_true hM0); have hN := Lib.hid (decide_eq_false hN0)
    clear hA0 hM0 hN0 hmore
    go_enter Try.func6, Try.ntmps6
    go_wp2_with (first | (go_at_call 21; refine (ris_any _ (by first | exact la.out) _).mono ?_; rintro e w' ⟨he, rfl⟩; (first | rw [hA.out] at he); subst he) | (go_at_call 25; refine (exponent_any _ (by first | exact lm.out | exact ln.out) _).mono ?_; rintro e w' ⟨he, rfl⟩; (first | rw [hM.out] at he | rw [hN.out] at he); subst he) | (go_at_call 17; refine (alive_any _).mono ?_; rintro e w' ⟨rfl, g⟩; have hg := Lib.hid (Grown.trans' hg.out g); clear g))
    go_ret
    exact ⟨rfl, hg.out⟩
  replace hN0 : n < 500000003 := by omega
  obtain ⟨p⟩ := pack
  have hA := Lib.hid hA0; have hM := Lib.hid (decide_eq_true hM0); have hN := Lib.hid (decide_eq_true hN0)
  have hmn : m * n < 500000003 * 500000003 := Nat.mul_lt_mul'' hM0 hN0
  have gA := Lib.hid (p.g_of a hA0); have gX := Lib.hid (p.po_in _ (m : Int) gA.out); have gY := Lib.hid (p.po_in _ (n : Int) gA.out)
  have u1 := Lib.hid (p.u_of m (by omega)); have u2 := Lib.hid (p.u_of n (by omega)); have u6 := Lib.hid (p.u_of more hmore)
  have u3 := Lib.hid (show p.U ((m : Int) + (n : Int)) from by have h := p.u_of (m + n) (by omega); rw [Int.natCast_add] at h; exact h)
  have u7 := Lib.hid (show p.U ((more : Int) % 500000003) from by have h := p.u_of (more % 500000003) (by omega); rw [Int.natCast_emod] at h; exact h)
  have cP := Lib.hid (plus_ok m n hM0 hN0); have cT := Lib.hid (times_ok m n hM0 hN0)
  have r1 := Lib.hid (show p.mu (p.po a m) (p.po a n) = p.po a ((m + n) % 500000003 : Nat) from (p.po_add a m n).trans (p.po_rem a (m + n) gA.out).symm)
  have r2 := Lib.hid (show p.po a ((m : Int) + (n : Int)) = p.po a ((m + n) % 500000003 : Nat) from by rw [← Int.natCast_add]; exact (p.po_rem a (m + n) gA.out).symm)
  have r3 := Lib.hid (show p.po (p.po a m) n = p.po a (m * n % 500000003 : Nat) from (p.po_mul a m n).trans (p.po_rem a (m * n) gA.out).symm)
  have r4 := Lib.hid (show p.po a (m * n : Nat) = p.po a (m * n % 500000003 : Nat) from (p.po_rem a (m * n) gA.out).symm)
  have r5 := Lib.hid (show p.po a ((more : Int) % 500000003) = p.po a more from p.po_rem a more gA.out)
  have r6 := Lib.hid (show p.ba ((more : Int) % 500000003) = p.ba more from p.ba_rem more)
  have hs := Nat.mod_lt (m + n) (show 0 < 500000003 by decide); have ht := Nat.mod_lt (m * n) (show 0 < 500000003 by decide)
  have u5 := Lib.hid (p.u_of (m * n) (by omega))
  have hw : IntKind.u64.wrap ((m : Int) * (n : Int)) = ((m * n : Nat) : Int) := by rw [← Int.natCast_mul, IntKind.wrap_u64]; omega
  generalize (m + n) % 500000003 = s at cP r1 r2 hs
  generalize m * n % 500000003 = t at cT r3 r4 ht
  generalize ((m * n : Nat) : Int) = mn at hw r4 u5
  have u4 := Lib.hid (p.u_of s (by omega)); have u8 := Lib.hid (p.u_of t (by omega))
  clear hA0 hmn hmore
  go_enter Try.func6, Try.ntmps6
  go_wp2_with (first | (go_at_call 21; refine (ris_any _ (by first | exact la.out) _).mono ?_; rintro e w' ⟨he, rfl⟩; (first | rw [hA.out] at he); subst he) | (go_at_call 25; refine (exponent_any _ (by first | exact lm.out | exact ln.out) _).mono ?_; rintro e w' ⟨he, rfl⟩; (first | rw [hM.out] at he | rw [hN.out] at he); subst he) | (go_at_call 10; refine (p.mul _ _ (by first | exact gX.out | exact gY.out) (by first | exact gX.out | exact gY.out) _).mono ?_; rintro e w' ⟨he, g⟩; (try rw [r1.out] at he); subst he; have hg := Lib.hid (Grown.trans' hg.out g); clear g) | (go_at_call 11; refine (p.pow _ _ (by first | exact gA.out | exact gX.out) (by first | exact u1.out | exact u2.out | exact u3.out | exact u4.out | exact u5.out | exact u6.out | exact u7.out | exact u8.out) _).mono ?_; rintro e w' ⟨he, g⟩; (try rw [r2.out] at he); (try rw [r3.out] at he); (try rw [r4.out] at he); (try rw [r5.out] at he); subst he; have hg := Lib.hid (Grown.trans' hg.out g); clear g) | (go_at_call 16; refine (p.base _ (by first | exact u6.out | exact u7.out) _).mono ?_; rintro e w' ⟨he, g⟩; (try rw [r6.out] at he); subst he; have hg := Lib.hid (Grown.trans' hg.out g); clear g) | (go_at_call 13; refine (cP.out _).mono ?_; rintro e w' ⟨rfl, g⟩; have hg := Lib.hid (Grown.trans' hg.out g); clear g) | (go_at_call 14; refine (cT.out _).mono ?_; rintro e w' ⟨rfl, g⟩; have hg := Lib.hid (Grown.trans' hg.out g); clear g) | (go_at_call 17; refine (alive_any _).mono ?_; rintro e w' ⟨rfl, g⟩; have hg := Lib.hid (Grown.trans' hg.out g); clear g))
  go_ret
  exact ⟨rfl, hg.out⟩

set_option maxRecDepth 100000 in
theorem lifted (os : Os) (started : os.Started) (H : Type) (enc : TypeId × Value → H) :
    ReturnsInHanded {} Try.checked os 6 .any (Rows.groupPowersSpec.pre6 enc Try.prog Try.f6 Rows.groupPowersRow.domain false) (Rows.groupPowersSpec.post enc Try.prog Try.f6 false true false false) := by
  refine returnsInHanded_of_change (C := Try.checked) own started (by kernel_rfl) Try.func6
    (ChangeSpec.witness6 (enc := enc) (C := Try.checked) false ⟨#[], #[.int .u32 0, .int .u32 0, .int .u32 0, .int .u64 0], []⟩ 8 (by kernel_rfl) (by kernel_rfl) (by kernel_rfl) (by kernel_rfl)) ?_
  intro W base args ds gs before hval0 hW hcnd _
  have hval : ∀ (j : Nat) t v, Try.f6.params[j]? = some t → args[j]? = some v → Value.okWide Try.prog W .any base t v := hval0
  have hW' := hW
  obtain ⟨p, q, hA0, hV, rfl, hfz, hnd⟩ := hW
  have hA : DataW.TrodAll enc Try.prog W 0 (fun _ => true) true Try.f6.params.toList args.toList ds p := hA0
  rw [Try.params6] at hA hval
  obtain ⟨v0, vs0, d0, ds0, p0, q0, hargs, rfl, rfl, h0, r0⟩ := trodAll_cons hA
  obtain ⟨v1, vs1, d1, ds1, p1, q1, rfl, rfl, rfl, h1, r1⟩ := trodAll_cons r0
  obtain ⟨v2, vs2, d2, ds2, p2, q2, rfl, rfl, rfl, h2, r2⟩ := trodAll_cons r1
  obtain ⟨v3, vs3, d3, ds3, p3, q3, rfl, rfl, rfl, h3, r3⟩ := trodAll_cons r2
  obtain ⟨rfl, rfl, rfl⟩ := trodAll_nil r3
  obtain rfl : args = #[v0, v1, v2, v3] := by cases args; simp_all
  obtain ⟨rfl, rfl⟩ := trodVars_none hV
  obtain ⟨a0, rfl, rfl, rfl, w0⟩ := open_int Try.underlying22 (hval 0 22 v0 rfl rfl) h0
  obtain ⟨a1, rfl, rfl, rfl, w1⟩ := open_int Try.underlying22 (hval 1 22 v1 rfl rfl) h1
  obtain ⟨a2, rfl, rfl, rfl, w2⟩ := open_int Try.underlying22 (hval 2 22 v2 rfl rfl) h2
  obtain ⟨a3, rfl, rfl, rfl, w3⟩ := open_int Try.underlying27 (hval 3 27 v3 rfl rfl) h3
  clear hA0 hval0
  simp only [List.append_nil] at hW'
  refine (walk a0 a1 a2 a3 w0 w1 w2 w3 W).mono fun e W' ⟨he, hg⟩ => ?_
  subst he
  exact ⟨_, rfl, post_of_same (pa := []) (pv := []) hW' (fun _ _ _ => (trodAll_cons_mk (shut_bool Try.underlying4 _) trodAll_mk0)) (fun sp _ => (trodAll_cons_mk (shut_int Try.underlying22 w0) (trodAll_cons_mk (shut_int Try.underlying22 w1) (trodAll_cons_mk (shut_int Try.underlying22 w2) (trodAll_cons_mk (shut_int Try.underlying27 w3) trodAll_mk0))))) (fun _ _ => rfl) rfl
    (hg.frame _) hg.2.1 (ok_one (by kernel_rfl) rfl (okWide_bool_mk Try.underlying4 _))⟩

theorem over : Rows.groupPowersRow.holds Try.pinned (OpenSpec.ofChange Rows.groupPowersSpec) :=
  OpenClaim.holds_of_wide 6 Try.f6 rfl rfl rfl rfl rfl rfl rfl ⟨rfl, rfl, rfl, rfl, rfl⟩ rfl rfl rfl rfl rfl (by kernel_rfl) Try.func6 (by kernel_rfl)
    (of_decide_eq_true (by kernel_rfl)) (by unfold Func.isWrapper; first | (rw [if_pos (by decide +kernel)]; kernel_rfl) | (rw [if_neg (by decide +kernel)]; exact ⟨rfl, rfl⟩))
    (fun os started H enc _ => lifted os started H enc)

/-- ████ THE STATEMENT ████ -/
theorem proved : Rows.GroupPowersSaid :=
  over
#print axioms proved
end Go.Proofs.Ytlmacnehoddjfaa.groupPowers

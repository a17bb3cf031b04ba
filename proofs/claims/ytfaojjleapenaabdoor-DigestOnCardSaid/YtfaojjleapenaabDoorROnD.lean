/- DigestOn: whatever mill in mid-stream and two strings of bytes are taken, adding them one after the other and adding both at once go on alike. Conditions: the two listed variables start as the program lays them (the card ties them to it). -/
import Derived.Test.YtfaojjleapenaabDoorROnDq03
import Derived.Test.YtfaojjleapenaabDoorCards
namespace Go.Proofs.YtfaojjleapenaabDoor.digestOn
open Go.ChangeShapes Go.WideShapes Go.ChangeAt Go.WideMaps Go.WideElems Go.RowKit Go.YtfaojjleapenaabDoor
set_option linter.unusedVariables false
theorem v8_of (ks : List Int) (h : ks.length = 8) (hw : ∀ k ∈ ks, (Lit.int .u32 k).wf = true) : ∃ V : V8, u32s ks = V.cells ∧ V.ok := by
  match ks, h with
  | [a, b, c, d, e, f, g, i], _ =>
    have hb : ∀ x ∈ [a, b, c, d, e, f, g, i], In32 x := fun x hx => by
      have h3 : 0 ≤ x ∧ x ≤ 4294967295 := by simpa [Lit.wf, IntKind.min, IntKind.max, IntKind.signed, IntKind.bits] using hw x hx
      exact ⟨h3.1, by omega⟩
    exact ⟨⟨a, b, c, d, e, f, g, i⟩, rfl, hb a (by simp), hb b (by simp), hb c (by simp), hb d (by simp), hb e (by simp), hb f (by simp), hb g (by simp), hb i (by simp)⟩
theorem on_law {Tg Tf : TypeId} (cs : Array Value) (V : V8) (hcs : cs = V.cells) (n : Int) (la lb : List Int) (av bv : Value) (w : World) (ha : RdB w av la) (hb : RdB w bv lb) (hG : GlO Tg Tf w) (hV : V.ok) (hba : Bytes la) (hbb : Bytes lb) :
    Calls Tryd.prog 3 #[.agg cs, .int .i64 n, av, bv] w fun e w' => e = .returned (.bool true) ∧ Below w.heap.size w w' := by
  subst hcs
  by_cases h : n < 0 ∨ 3000 < n ∨ 500 < la.length ∨ 500 < lb.length
  · exact on_far V n la lb av bv w ha hb hG (fun w h => alive_any (Tg := Tg) (Tf := Tf) w _ rfl h.1 h.2) h
  · obtain ⟨K, rfl⟩ : ∃ K : Nat, n = (K : Int) := ⟨n.toNat, by omega⟩
    obtain ⟨G1, G2, M1, M2, R1, R2, D, P⟩ := on_pack (Tg := Tg) (Tf := Tf) V (64 * K) la lb hV (by omega) (by omega) hba hbb (by omega) (by omega)
    exact on_near V K (64 * K) la lb av bv w ha hb hG (by omega) rfl (by omega) (by omega) G1 G2 M1 M2 R1 R2 D P
theorem readable : ∀ t ∈ Tryd.f3.params.toList, Tryd.prog.readableRec t = true ∧ t < Tryd.prog.types.size := by
  have h : (Tryd.f3.params.toList.all fun t => Tryd.prog.readableRec t && decide (t < Tryd.prog.types.size)) = true := by kernel_rfl
  intro t ht
  simpa using List.all_eq_true.1 h t ht
set_option maxRecDepth 100000 in
theorem lifted (os : Os) (started : os.Started) (H : Type) (enc : TypeId × Value → H) :
    ReturnsInHanded {} Tryd.checked os 3 .any (fun w args => (Rows.digestOnSpec.pre enc Tryd.prog Tryd.f3 [] false w args ∧ laidMetH Tryd.prog laidL w) ∧ sizedMet enc Tryd.prog Tryd.f3 (OpenSpec.ofChange Rows.digestOnSpec) false w args)
      (Rows.digestOnSpec.post enc Tryd.prog Tryd.f3 false true false false) := by
  refine returnsInHanded_of_change_and (C := Tryd.checked) (X := fun w _ => laidMetH Tryd.prog laidL w) (fun _ _ _ hh h => h.of_heap hh) own started (by kernel_rfl) Tryd.func3
    (ChangeSpec.witness_shaped (enc := enc) (C := Tryd.checked) (os := os) (X := fun w _ => laidMetH Tryd.prog laidL w) false (World.doorLaid Tryd.prog 400 os) #[.agg (u32s (List.replicate 8 0)), .int .i64 0, .slice none 0 0, .slice none 0 0] 8 rfl (World.shaped_of_RefB (by kernel_rfl) (by kernel_rfl)) (by kernel_rfl) (by kernel_rfl) (by kernel_rfl) (door_met os _)) ?_
  intro W base args ds gs before hval0 hW _ _ hL _
  have hval : ∀ (j : Nat) t v, Tryd.f3.params[j]? = some t → args[j]? = some v → Value.okWide Tryd.prog W .any base t v := hval0
  have hW' := hW
  obtain ⟨p, q, hA0, hV, rfl, hfz, hnd⟩ := hW
  have hA : DataW.TrodAll enc Tryd.prog W 0 (fun _ => true) true Tryd.f3.params.toList args.toList ds p := hA0
  rw [Tryd.params3] at hA hval
  obtain ⟨v0, vs0, d0, ds0, p0, q0, hargs, rfl, rfl, h0, r0⟩ := trodAll_cons hA
  obtain ⟨v1, vs1, d1, ds1, p1, q1, rfl, rfl, rfl, h1, r1⟩ := trodAll_cons r0
  obtain ⟨v2, vs2, d2, ds2, p2, q2, rfl, rfl, rfl, h2, r2⟩ := trodAll_cons r1
  obtain ⟨v3, vs3, d3, ds3, p3, q3, rfl, rfl, rfl, h3, r3⟩ := trodAll_cons r2
  obtain ⟨rfl, rfl, rfl⟩ := trodAll_nil r3
  obtain rfl : args = #[v0, v1, v2, v3] := by cases args; simp_all
  obtain ⟨rfl, rfl⟩ := trodVars_none hV
  obtain ⟨ks, rfl, lk, wk⟩ := open_arrI Tryd.underlying23 Tryd.underlying22 (by kernel_rfl) (by kernel_rfl) (hval 0 23 v0 rfl rfl) h0
  obtain ⟨V, hV8, hok⟩ := v8_of ks lk wk
  obtain ⟨n1, rfl, rfl, rfl, wf1⟩ := open_int Tryd.underlying3 (hval 1 3 v1 rfl rfl) h1
  obtain ⟨l2, rd2, bytes2⟩ := open_bytes Tryd.underlying24 Tryd.underlying5 (by kernel_rfl) (by kernel_rfl) (hval 2 24 v2 rfl rfl) h2
  obtain ⟨l3, rd3, bytes3⟩ := open_bytes Tryd.underlying24 Tryd.underlying5 (by kernel_rfl) (by kernel_rfl) (hval 3 24 v3 rfl rfl) h3
  clear hA0 hval0
  obtain ⟨Tg, Tf, hl1, hl2⟩ := of_laid hL
  refine (on_law (Tg := Tg) (Tf := Tf) _ V hV8 n1 l2 l3 v2 v3 W rd2 rd3 ⟨hl1, hl2⟩ hok bytes2 bytes3).mono fun e W' ⟨he, hb⟩ => ?_
  subst he
  exact ⟨_, rfl, law_post laidOut readable (by kernel_rfl) hW' hb (fun _ _ _ => trodAll_mk1 (shut_bool Tryd.underlying4 _)) rfl rfl⟩
theorem holds : Rows.DigestOnSaid :=
  OpenClaim.holds_of_wide 3 Tryd.f3 rfl rfl rfl rfl rfl rfl rfl ⟨rfl, rfl, rfl, rfl, rfl⟩ rfl rfl rfl rfl rfl (by kernel_rfl) Tryd.func3 (by kernel_rfl)
    (of_decide_eq_true (by kernel_rfl)) (by unfold Func.isWrapper; first | (rw [if_pos (by decide +kernel)]; kernel_rfl) | (rw [if_neg (by decide +kernel)]; exact ⟨rfl, rfl⟩))
    (fun os started H enc _ => lifted os started H enc)
theorem proved : Rows.DigestOnCardSaid :=
  Claim7.holds_tied_plain_at .later [] [.data, .data] true _ false
    holds (fun _ h => by cases h) (by kernel_rfl) (fun _ h => by cases h) digestOn_row_tie rfl ⟨rfl, rfl⟩ (by kernel_rfl) rfl
    (fun f fn hf hfn => by
      obtain rfl : f = 3 := Option.some.inj ((show Tryd.prog.funcNamed "braid/braidlaw01.DigestOn" = some 3 by kernel_rfl).symm.trans hf) |>.symm
      obtain rfl : fn = Tryd.f3 := (Option.some.inj (Tryd.func3.symm.trans hfn)).symm
      exact ⟨by kernel_rfl, fun j t ht => by
        have hall : (Tryd.f3.params.toList.all fun u => !Tryd.prog.wantsStandIn u) = true := by kernel_rfl
        have hm : t ∈ Tryd.f3.params.toList := Array.mem_toList_iff.2 (Array.mem_of_getElem? ht)
        exact (show Tryd.prog.wantsStandIn t = false by simpa using List.all_eq_true.1 hall t hm)⟩)
    (by kernel_rfl)
#print axioms proved
end Go.Proofs.YtfaojjleapenaabDoor.digestOn

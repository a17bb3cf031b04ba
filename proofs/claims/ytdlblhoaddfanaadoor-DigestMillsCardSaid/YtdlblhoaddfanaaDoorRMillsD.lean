/- DigestMills: whatever mill and bytes are taken, Start, Add and End of package digest answer as the reference does, leave their arguments as they are, and share no memory with them. Conditions: the two listed variables start as the program lays them (the card ties them to it). -/
import Derived.Test.YtdlblhoaddfanaaDoorRMillsDq03
import Derived.Lib.SmallJoins
import Derived.ChangeMaps5
import Derived.Deep.Strs
import Derived.Test.YtdlblhoaddfanaaDoorCards
namespace Go.Proofs.YtdlblhoaddfanaaDoor.digestMills
open Go.ChangeShapes Go.WideShapes Go.ChangeAt Go.WideMaps Go.WideElems Go.RowKit Go.Joins Go.YtdlblhoaddfanaaDoor
set_option linter.unusedVariables false
theorem v8_of (ks : List Int) (h : ks.length = 8) (hw : ∀ k ∈ ks, (Lit.int .u32 k).wf = true) : ∃ V : V8, ks = [V.a, V.b, V.c, V.d, V.e, V.f, V.g, V.h] ∧ V.ok := by
  match ks, h with
  | [a, b, c, d, e, f, g, i], _ =>
    have hb : ∀ x ∈ [a, b, c, d, e, f, g, i], In32 x := fun x hx => by
      have h3 : 0 ≤ x ∧ x ≤ 4294967295 := by simpa [Lit.wf, IntKind.min, IntKind.max, IntKind.signed, IntKind.bits] using hw x hx
      exact ⟨h3.1, by omega⟩
    exact ⟨⟨a, b, c, d, e, f, g, i⟩, rfl, hb a (by simp), hb b (by simp), hb c (by simp), hb d (by simp), hb e (by simp), hb f (by simp), hb g (by simp), hb i (by simp)⟩
theorem array10 {α : Type} {cs : Array α} (h : cs.size = 10) : ∃ c0 c1 c2 c3 c4 c5 c6 c7 c8 c9, cs = #[c0, c1, c2, c3, c4, c5, c6, c7, c8, c9] := by
  obtain ⟨l⟩ := cs
  match l, h with
  | [c0, c1, c2, c3, c4, c5, c6, c7, c8, c9], _ => exact ⟨c0, c1, c2, c3, c4, c5, c6, c7, c8, c9, rfl⟩
theorem open_mill {H : Type} {enc : TypeId × Value → H} {W : World} {v : Value} {d : DataW H} {p : List MemPlace} {r : Reach} {b0 : Nat} (hv : Value.okWide Tryd.prog W r b0 26 v) (h : DataW.Trod enc Tryd.prog W 0 (fun _ => true) true 26 v d p) :
    ∃ (V : V8) (rv : Value) (l : List Int) (N : Int), v = millV V rv N ∧ V.ok ∧ RdB W rv l ∧ Bytes l := by
  obtain ⟨cs, rfl, hsz⟩ := okWide_struct Tryd.underlying26 hv
  obtain ⟨c0, c1, c2, c3, c4, c5, c6, c7, c8, c9, rfl⟩ := array10 (hsz.trans (by kernel_rfl))
  obtain ⟨fuel, hf⟩ := h
  obtain ⟨z0, z1, z2, n2, _, _, g0, g1, g2⟩ := Deep.trod_struct3 Tryd.underlying26 hf
  have kW : Tryd.prog.cellsOf 23 = 8 := by kernel_rfl
  have kB : Tryd.prog.cellsOf 24 = 1 := by kernel_rfl
  have kN : Tryd.prog.cellsOf 3 = 1 := by kernel_rfl
  dsimp only at g0 g1 g2
  rw [kW] at g0
  rw [kB] at g1
  rw [kN] at g2
  simp only [Value.cells, List.drop_zero, List.take_succ_cons, List.take_zero, List.drop_succ_cons] at g0 g1 g2
  obtain ⟨ks, e1, e2, e3, _⟩ := trod_ints Tryd.underlying23 Tryd.underlying22 (by kernel_rfl) kW g0
  obtain ⟨V, rfl, hV⟩ := v8_of ks e2 e3
  obtain ⟨rv, l, e4, hr, hb⟩ := trod_bytes Tryd.underlying24 Tryd.underlying5 (by kernel_rfl) g1
  obtain ⟨N, e5, _, _⟩ := DataW.trod_int Tryd.underlying3 g2
  simp only [List.map_cons, List.map_nil, List.cons.injEq, and_true] at e1
  obtain ⟨rfl, rfl, rfl, rfl, rfl, rfl, rfl, rfl⟩ := e1
  refine ⟨V, rv, l, N, ?_, hV, hr, hb⟩
  rw [(List.cons.inj e4).1, (List.cons.inj e5).1]
  rfl
theorem mills_law {Tg Tf : TypeId} (V : V8) (N : Int) (r l : List Int) (rv bv : Value) (w : World) (hr : RdB w rv r) (hl : RdB w bv l) (hG : GlO Tg Tf w) (hV : V.ok) (hbr : Bytes r) (hbl : Bytes l) :
    Calls Tryd.prog 3 #[millV V rv N, bv] w fun e w' => e = .returned (.bool true) ∧ Below w.heap.size w w' := by
  by_cases h : 1500 < l.length ∨ 200 < r.length
  · exact mills_far V N r l rv bv w hr hl h
  · obtain ⟨G, R, NN, E, P⟩ := add_packD (Tg := Tg) (Tf := Tf) V N r l hV hbr hbl (by omega)
    obtain ⟨D, E2, Q⟩ := end_packD (Tg := Tg) (Tf := Tf) V N r hV hbr
    exact mills_near V N r l rv bv w hr hl hG (by omega) (by omega) G R NN E P D E2 Q firstW rfl
theorem readable : ∀ t ∈ Tryd.f3.params.toList, Tryd.prog.readableRec t = true ∧ t < Tryd.prog.types.size := by
  have h : (Tryd.f3.params.toList.all fun t => Tryd.prog.readableRec t && decide (t < Tryd.prog.types.size)) = true := by kernel_rfl
  intro t ht
  simpa using List.all_eq_true.1 h t ht
set_option maxRecDepth 100000 in
theorem lifted (os : Os) (started : os.Started) (H : Type) (enc : TypeId × Value → H) :
    ReturnsInHanded {} Tryd.checked os 3 .any (fun w args => (Rows.digestMillsSpec.pre enc Tryd.prog Tryd.f3 [] false w args ∧ laidMetH Tryd.prog laidL w) ∧ sizedMet enc Tryd.prog Tryd.f3 (OpenSpec.ofChange Rows.digestMillsSpec) false w args)
      (Rows.digestMillsSpec.post enc Tryd.prog Tryd.f3 false true false false) := by
  refine returnsInHanded_of_change_and (C := Tryd.checked) (X := fun w _ => laidMetH Tryd.prog laidL w) (fun _ _ _ hh h => h.of_heap hh) own started (by kernel_rfl) Tryd.func3
    (ChangeSpec.witness_shaped (enc := enc) (C := Tryd.checked) (os := os) (X := fun w _ => laidMetH Tryd.prog laidL w) false (World.doorLaid Tryd.prog 400 os) #[.agg #[.int .u32 0, .int .u32 0, .int .u32 0, .int .u32 0, .int .u32 0, .int .u32 0, .int .u32 0, .int .u32 0, .slice none 0 0, .int .i64 0], .slice none 0 0] 8 rfl (World.shaped_of_RefB (by kernel_rfl) (by kernel_rfl)) (by kernel_rfl) (by kernel_rfl) (by kernel_rfl) (door_met os _)) ?_
  intro W base args ds gs before hval0 hW _ _ hL _
  have hval : ∀ (j : Nat) t v, Tryd.f3.params[j]? = some t → args[j]? = some v → Value.okWide Tryd.prog W .any base t v := hval0
  have hW' := hW
  obtain ⟨p, q, hA0, hV, rfl, hfz, hnd⟩ := hW
  have hA : DataW.TrodAll enc Tryd.prog W 0 (fun _ => true) true Tryd.f3.params.toList args.toList ds p := hA0
  rw [Tryd.params3] at hA hval
  obtain ⟨v0, vs0, d0, ds0, p0, q0, hargs, rfl, rfl, h0, r0⟩ := trodAll_cons hA
  obtain ⟨v1, vs1, d1, ds1, p1, q1, rfl, rfl, rfl, h1, r1⟩ := trodAll_cons r0
  obtain ⟨rfl, rfl, rfl⟩ := trodAll_nil r1
  obtain rfl : args = #[v0, v1] := by cases args; simp_all
  obtain ⟨rfl, rfl⟩ := trodVars_none hV
  obtain ⟨V, rv, lr, N, rfl, hok, rdr, bytesr⟩ := open_mill (hval 0 26 v0 rfl rfl) h0
  obtain ⟨l1, rd1, bytes1⟩ := open_bytes Tryd.underlying24 Tryd.underlying5 (by kernel_rfl) (by kernel_rfl) (hval 1 24 v1 rfl rfl) h1
  clear hA0 hval0
  obtain ⟨Tg, Tf, hl1, hl2⟩ := of_laid hL
  refine (mills_law (Tg := Tg) (Tf := Tf) V N lr l1 rv v1 W rdr rd1 ⟨hl1, hl2⟩ hok bytesr bytes1).mono fun e W' ⟨he, hb⟩ => ?_
  subst he
  exact ⟨_, rfl, law_post laidOut readable (by kernel_rfl) hW' hb (fun _ _ _ => trodAll_mk1 (shut_bool Tryd.underlying4 _)) rfl rfl⟩
theorem holds : Rows.DigestMillsSaid :=
  OpenClaim.holds_of_wide 3 Tryd.f3 rfl rfl rfl rfl rfl rfl rfl ⟨rfl, rfl, rfl, rfl, rfl⟩ rfl rfl rfl rfl rfl (by kernel_rfl) Tryd.func3 (by kernel_rfl)
    (of_decide_eq_true (by kernel_rfl)) (by unfold Func.isWrapper; first | (rw [if_pos (by decide +kernel)]; kernel_rfl) | (rw [if_neg (by decide +kernel)]; exact ⟨rfl, rfl⟩))
    (fun os started H enc _ => lifted os started H enc)
theorem proved : Rows.DigestMillsCardSaid :=
  Claim7.holds_tied_plain_at .later [] [.data, .data] true _ false
    holds (fun _ h => by cases h) (by kernel_rfl) (fun _ h => by cases h) digestMills_row_tie rfl ⟨rfl, rfl⟩ (by kernel_rfl) rfl
    (fun f fn hf hfn => by
      obtain rfl : f = 3 := Option.some.inj ((show Tryd.prog.funcNamed "braid/braidlaw01.DigestMills" = some 3 by kernel_rfl).symm.trans hf) |>.symm
      obtain rfl : fn = Tryd.f3 := (Option.some.inj (Tryd.func3.symm.trans hfn)).symm
      exact ⟨by kernel_rfl, fun j t ht => by
        have hall : (Tryd.f3.params.toList.all fun u => !Tryd.prog.wantsStandIn u) = true := by kernel_rfl
        have hm : t ∈ Tryd.f3.params.toList := Array.mem_toList_iff.2 (Array.mem_of_getElem? ht)
        exact (show Tryd.prog.wantsStandIn t = false by simpa using List.all_eq_true.1 hall t hm)⟩)
    (by kernel_rfl)
#print axioms proved
end Go.Proofs.YtdlblhoaddfanaaDoor.digestMills

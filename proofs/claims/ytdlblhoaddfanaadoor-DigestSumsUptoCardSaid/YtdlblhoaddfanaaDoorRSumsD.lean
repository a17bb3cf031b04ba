/- DigestSums, second form: whatever the pieces and ids are, of bulk at most 1048576: Sum, Pieces and Cmp of package digest answer as the reference does, and leave the pieces as they are. Conditions: that bulk; the two listed variables start as the program's text lays them (the card ties them to it). -/
import Derived.Test.YtdlblhoaddfanaaDoorRSumsDq03
import Derived.Test.YtdlblhoaddfanaaDoorCards
import Derived.Deep.DeepHandedRow
import Derived.Deep.DeepWitnessRowRef
import Derived.Deep.Matrix
import Derived.JoinedCond
namespace Go.Proofs.YtdlblhoaddfanaaDoor.digestSums
open Go.ChangeShapes Go.WideShapes Go.ChangeAt Go.WideMaps Go.WideElems Go.RowKit Go.Deep Go.YtdlblhoaddfanaaDoor
set_option linter.unusedVariables false
theorem readable : ∀ t ∈ Tryd.f4.params.toList, Tryd.prog.readableRec t = true ∧ t < Tryd.prog.types.size := by
  have h : (Tryd.f4.params.toList.all fun t => Tryd.prog.readableRec t && decide (t < Tryd.prog.types.size)) = true := by kernel_rfl
  intro t ht
  simpa using List.all_eq_true.1 h t ht
theorem bulk_lits {H : Type} (k : IntKind) : ∀ zs : List Int, Rows.uptoBulkAll (lits (H := H) k zs) = zs.length
  | [] => by simp [lits, Rows.uptoBulkAll]
  | z :: zs => by
    have h := bulk_lits (H := H) k zs
    simp only [lits, List.map_cons, Rows.uptoBulkAll, Rows.uptoBulk, List.length_cons] at h ⊢
    omega
theorem bulk_row {H : Type} (k : IntKind) (A : Option Addr) (n : Nat) (zs : List Int) (hA : A = none → zs.length = 0) : (zs.take n).length + 1 ≤ Rows.uptoBulk (intRow (H := H) k A n zs) := by
  cases A with
  | none =>
    have := hA rfl
    simp only [intRow, Rows.uptoBulk, List.length_take]; omega
  | some a =>
    simp only [intRow, Rows.uptoBulk, bulk_lits]; omega
theorem bulk_rows {H : Type} (f : Nat → List Int) (g : Nat → DataW H) : ∀ rs : List Nat, (∀ r ∈ rs, (f r).length + 1 ≤ Rows.uptoBulk (g r)) → (rs.map f).flatten.length + rs.length ≤ Rows.uptoBulkAll (rs.map g)
  | [], _ => by simp
  | r :: rs, h => by
    have h1 := h r List.mem_cons_self
    have h2 := bulk_rows f g rs (fun x hx => h x (List.mem_cons_of_mem _ hx))
    simp only [List.map_cons, List.flatten_cons, List.length_append, List.length_cons, Rows.uptoBulkAll]
    omega
theorem v_form {P : Program} {W : World} {base : Nat} {v : Value} {t e : TypeId} (ht : P.underlying t = some (.slice e)) (h : Value.okWide P W .any base t v) : ∃ a n c, v = .slice a n c := by
  unfold Value.okWide at h
  rw [ht] at h
  simp only [Cell.okWide, ht] at h
  cases v <;> simp [Cell.ok, ht] at h
  exact ⟨_, _, _, rfl⟩
set_option maxRecDepth 100000 in
theorem contract (H : Type) (enc : TypeId × Value → H) (W : World) (base : Nat) (args : Array Value) (ds gs : List (DataW H)) (before : List MemPlace)
    (hval : ∀ (j : Nat) t v, Tryd.f4.params[j]? = some t → args[j]? = some v → Value.okWide Tryd.prog W .any base t v)
    (hW : DataW.Whole enc Tryd.prog Tryd.f4.params.toList Rows.digestSumsSpec.vars false W args.toList ds gs before) (hL : laidMetH Tryd.prog laidL W) (hk : Rows.uptoSmall H (ds ++ gs) = true) :
    Calls Tryd.prog 4 args W fun e W' => ∃ v, e = .returned v ∧ Rows.digestSumsSpec.post enc Tryd.prog Tryd.f4 false true false false W args v W' := by
  have hW' := hW
  obtain ⟨p, q, hA0, hV, rfl, hfz, hnd⟩ := hW
  have hA : DataW.TrodAll enc Tryd.prog W 0 (fun _ => true) true Tryd.f4.params.toList args.toList ds p := hA0
  rw [Tryd.params4] at hA hval
  obtain ⟨v0, vs0, d0, ds0, p0, q0, hargs, rfl, rfl, h0, r0⟩ := trodAll_cons hA
  obtain ⟨v1, vs1, d1, ds1, p1, q1, rfl, rfl, rfl, h1, r1⟩ := trodAll_cons r0
  obtain ⟨v2, vs2, d2, ds2, p2, q2, rfl, rfl, rfl, h2, r2⟩ := trodAll_cons r1
  obtain ⟨rfl, rfl, rfl⟩ := trodAll_nil r2
  obtain rfl : args = #[v0, v1, v2] := by cases args; simp_all
  obtain ⟨rfl, rfl⟩ := trodVars_none hV
  obtain ⟨Tg, Tf, hg, hgf⟩ := of_laid hL
  have bound : Rows.uptoBulkAll [d0, d1, d2] ≤ 1048576 := of_decide_eq_true hk
  simp only [Rows.uptoBulkAll] at bound
  obtain ⟨x, rfl, lx, wx⟩ := open_arrI Tryd.underlying33 Tryd.underlying5 (by kernel_rfl) (by kernel_rfl) (hval 1 33 v1 rfl rfl) h1
  obtain ⟨y, rfl, ly, wy⟩ := open_arrI Tryd.underlying33 Tryd.underlying5 (by kernel_rfl) (by kernel_rfl) (hval 2 33 v2 rfl rfl) h2
  have bx : Bytes x := bytes_of fun k hk => wx k hk
  have by_ : Bytes y := bytes_of fun k hk => wy k hk
  have fin : ∀ (e : Ending) (W' : World), e = .returned (.bool true) ∧ Below W.heap.size W W' → ∃ v, e = .returned v ∧ Rows.digestSumsSpec.post enc Tryd.prog Tryd.f4 false true false false W #[v0, .agg (x.map (Value.int .u8)).toArray, .agg (y.map (Value.int .u8)).toArray] v W' := by
    rintro e W' ⟨rfl, hb⟩
    exact ⟨_, rfl, law_post laidOut readable (by kernel_rfl) hW' hb (fun _ _ _ => trodAll_mk1 (shut_bool Tryd.underlying4 _)) rfl rfl⟩
  obtain ⟨a0, n0, c0, rfl⟩ := v_form Tryd.underlying42 (hval 0 42 v0 rfl rfl)
  obtain ⟨fuel, hf⟩ := h0
  have hf' : DataW.trod enc Tryd.prog W 0 (fun _ => true) true fuel 42 [.slice a0 n0 c0] = some (d0, p0) := hf
  rcases open_int_rows Tryd.underlying42 Tryd.underlying24 Tryd.underlying5 (by kernel_rfl) (by kernel_rfl) hf' with ⟨hcs, hx⟩ | ⟨a, len, cap, A, L, C, Z, hcs, hb, hl, hcm, hx, hrow⟩
  · cases hcs
    exact (sums_law (Tg := Tg) (Tf := Tf) none 0 [] x y W (by simp) (by decide) (by simp) (by simp) (fun i => by simp [nthL]; exact bytes_nil) (fun i hi => absurd hi (Nat.not_lt_zero _)) lx ly bx by_ ⟨hg, hgf⟩).mono fin
  · cases hcs
    have hzl : ∀ r, r < n0 → (A r = none → (Z r).length = 0) := fun r hr hn => by
      obtain ⟨_, _, _, h4, _, h6, _⟩ := hrow r (by omega)
      rw [h4]; exact h6 hn
    have hd : d0 = .slice ((List.range n0).map fun r => intRow .u8 (A r) (L r) (Z r)) ((List.range (c0 - n0)).map fun j => intRow .u8 (A (n0 + j)) (L (n0 + j)) (Z (n0 + j))) := congrArg Prod.fst hx
    have hbk := bulk_rows (fun r => (Z r).take (L r)) (fun r => intRow (H := H) .u8 (A r) (L r) (Z r)) (List.range n0) (fun r hr => bulk_row .u8 (A r) (L r) (Z r) (hzl r (List.mem_range.1 hr)))
    rw [hd] at bound
    simp only [Rows.uptoBulk] at bound
    have hlen : ((List.range n0).map fun r => (Z r).take (L r)).length = n0 := by simp
    have hnth : ∀ i, i < n0 → nthL ((List.range n0).map fun r => (Z r).take (L r)) i = (Z i).take (L i) := fun i hi => by simp [nthL, List.getElem?_range hi]
    have hbn : ((List.range n0).map fun r => (Z r).take (L r)).flatten.length + n0 ≤ 1048576 := by
      rw [List.length_range] at hbk; omega
    have key := sums_law (Tg := Tg) (Tf := Tf) (some a) c0 ((List.range n0).map fun r => (Z r).take (L r)) x y W (by rw [hlen]; exact hl) hcm (by rw [hlen]; omega) (by omega)
      (fun i => by
        by_cases hi : i < n0
        · rw [hnth i hi]
          obtain ⟨_, _, _, _, h5, _, _⟩ := hrow i (by omega)
          exact bytes_of fun k hk => h5 k (List.mem_of_mem_take hk)
        · have : nthL ((List.range n0).map fun r => (Z r).take (L r)) i = [] := by simp [nthL, List.getElem?_eq_none (show (List.range n0).length ≤ i by simp; omega)]
          rw [this]; exact bytes_nil)
      (fun i hi => by
        rw [hlen] at hi
        obtain ⟨h1, h2, h3, h4, h5, h6, h7⟩ := hrow i (by omega)
        obtain ⟨b, o, spot⟩ := a
        have hspot : spot = none := by simpa [Addr.add] using World.cell?_spot (hrow 0 (by omega)).1
        subst hspot
        rw [addr_add] at h1
        refine ⟨b, o, rfl, World.block_lt_of_cell? _ _ h1, _, h1, ?_⟩
        rw [hnth i hi]
        by_cases h0 : L i = 0
        · exact .inl ⟨A i, C i, by rw [h0], h6, by rw [h0]; rfl⟩
        · cases hAi : A i with
          | none => have := h6 hAi; omega
          | some a' =>
            obtain ⟨b', o', rfl, hc⟩ := ints_at (k := .u8) (zs := Z i) (fun j hj => (h7 a' hAi).2 j (by rw [← h4]; exact hj)) (by omega)
            have hln : ((Z i).take (L i)).length = L i := by rw [List.length_take]; omega
            refine .inr ⟨b', o', C i, by rw [hln], by rw [hln]; exact h2, h3, World.block_lt_of_cell? _ _ (hc 0 (by omega)), fun j hj => ?_⟩
            rw [hln] at hj
            rw [hc j (by omega)]
            simp [ith, List.getD, hj])
      lx ly bx by_ ⟨hg, hgf⟩
    rw [hlen] at key
    exact key.mono fin
theorem reads (os : Os) {H : Type} (enc : TypeId × Value → H) : ∃ places, DataW.whole enc Tryd.prog ((World.doorLaid Tryd.prog 400 os).forCall (fun _ _ => 0) ⟨#[], #[.slice none 0 0, .agg (u8s (zerosB 32)), .agg (u8s (zerosB 32))], []⟩).memory Tryd.f4.params.toList Rows.digestSumsSpec.vars false #[Value.slice none 0 0, .agg (u8s (zerosB 32)), .agg (u8s (zerosB 32))].toList 8 = some ([.nil, .agg (List.replicate 32 (.lit (.int .u8 0))), .agg (List.replicate 32 (.lit (.int .u8 0)))], [], places) :=
  ⟨[], by kernel_rfl⟩
set_option maxRecDepth 100000 in
theorem lifted (os : Os) (started : os.Started) (H : Type) (enc : TypeId × Value → H) (F : Stop.Interp) :
    ReturnsInHanded {} Tryd.checked os 4 .any ((Rows.OpenSpec.upto Rows.digestSumsSpec).preRow enc Tryd.prog Tryd.f4 Rows.digestSumsUptoRow.domain false laidL) (((Rows.OpenSpec.upto Rows.digestSumsSpec).at F).post enc Tryd.prog Tryd.f4 false true false false) := by
  obtain ⟨places, hx⟩ := reads os enc
  refine returnsInHanded_of_row (C := Tryd.checked) (s := Rows.OpenSpec.upto Rows.digestSumsSpec) own started (by kernel_rfl) Tryd.func4
    (witness_row_atRef (enc := enc) (C := Tryd.checked) false (World.doorLaid Tryd.prog 400 os) #[.slice none 0 0, .agg (u8s (zerosB 32)), .agg (u8s (zerosB 32))] rfl (by kernel_rfl) (by kernel_rfl) (by kernel_rfl)
      (OpenSpec.preRow_of_cond 8 hx (by kernel_rfl) (fun k hk => by cases hk; kernel_rfl) (by kernel_rfl) (door_met os _))) ?_
  intro W base args ds gs before hval hW _ hcond _ hL _ _
  exact contract H enc W base args ds gs before hval hW hL (hcond _ rfl)
theorem saidUpto : Rows.DigestSumsUptoSaid :=
  OpenClaim.holds_of_cond 4 Tryd.f4 rfl rfl rfl rfl rfl rfl rfl ⟨rfl, rfl, rfl, rfl, rfl⟩ rfl rfl rfl rfl rfl (by kernel_rfl) Tryd.func4 (by kernel_rfl)
    (of_decide_eq_true (by kernel_rfl)) (by unfold Func.isWrapper; first | (rw [if_pos (by decide +kernel)]; kernel_rfl) | (rw [if_neg (by decide +kernel)]; exact ⟨rfl, rfl⟩))
    (fun os started H enc _ F => by rw [OpenClaim.pre_eq_preRow]; exact lifted os started H enc F)
theorem plain (f : FuncId) (fn : Func) (hf : Tryd.pinned.checked.prog.funcNamed "braid/braidlaw01.DigestSums" = some f) (hfn : Tryd.pinned.checked.prog.funcs[f]? = some fn) :
    false = Tryd.pinned.checked.prog.looks [] ∧ ∀ (j : Nat) t, fn.params[j]? = some t → Tryd.pinned.checked.prog.wantsStandIn t = false := by
  obtain rfl : f = 4 := Option.some.inj ((show Tryd.prog.funcNamed "braid/braidlaw01.DigestSums" = some 4 by kernel_rfl).symm.trans hf) |>.symm
  obtain rfl : fn = Tryd.f4 := (Option.some.inj (Tryd.func4.symm.trans hfn)).symm
  exact ⟨by kernel_rfl, fun j t ht => by
    have hall : (Tryd.f4.params.toList.all fun u => !Tryd.prog.wantsStandIn u) = true := by kernel_rfl
    have hm : t ∈ Tryd.f4.params.toList := Array.mem_toList_iff.2 (Array.mem_of_getElem? ht)
    exact (show Tryd.prog.wantsStandIn t = false by simpa using List.all_eq_true.1 hall t hm)⟩
theorem proved : Rows.DigestSumsUptoCardSaid :=
  Claim7.holds_tied_plain_at .later [] _ _ _ _ saidUpto (fun _ h => by cases h) (by kernel_rfl) (fun _ h => by cases h) digestSumsUpto_row_tie rfl ⟨rfl, rfl⟩ (by kernel_rfl) rfl plain (by kernel_rfl)
#print axioms proved
end Go.Proofs.YtdlblhoaddfanaaDoor.digestSums

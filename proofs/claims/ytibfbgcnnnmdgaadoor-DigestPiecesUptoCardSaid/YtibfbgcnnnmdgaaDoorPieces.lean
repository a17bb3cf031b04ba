/- DigestPieces, second form: whatever the pieces are, of bulk at most 1048576: Pieces, a mill to which they are added, and the whole agree, adding no bytes changes nothing, and the examples hold. Conditions: that bulk; the two listed variables start as the program's text lays them (the card ties them to it). -/
import Derived.Test.YtibfbgcnnnmdgaaDoorD01n
import Derived.Test.YtibfbgcnnnmdgaaDoorD01s
import Derived.Test.YtibfbgcnnnmdgaaDoorRow
import Derived.Test.YtibfbgcnnnmdgaaDoorCards
import Derived.Deep.DeepHandedRow
import Derived.Deep.DeepWitnessRowRef
import Derived.Deep.Matrix
import Derived.JoinedCond
namespace Go.Proofs.YtibfbgcnnnmdgaaDoor.digestPieces
open Go.ChangeShapes Go.WideShapes Go.ChangeAt Go.WideMaps Go.WideElems Go.RowKit Go.Deep Go.YtibfbgcnnnmdgaaDoor
set_option linter.unusedVariables false
theorem readable : ∀ t ∈ Tryd.f6.params.toList, Tryd.prog.readableRec t = true ∧ t < Tryd.prog.types.size := by
  have h : (Tryd.f6.params.toList.all fun t => Tryd.prog.readableRec t && decide (t < Tryd.prog.types.size)) = true := by kernel_rfl
  intro t ht
  simpa using List.all_eq_true.1 h t ht
theorem bulk_lits {H : Type} (k : IntKind) : ∀ zs : List Int, Rows.uptoBulkAll (lits (H := H) k zs) = zs.length
  | [] => by simp [lits, Rows.uptoBulkAll]
  | z :: zs => by
    have h := bulk_lits (H := H) k zs
    simp only [lits, List.map_cons, Rows.uptoBulkAll, Rows.uptoBulk, List.length_cons] at h ⊢
    omega
theorem bulk_row {H : Type} (k : IntKind) (A : Option Addr) (n : Nat) (zs : List Int) (hA : A = none → zs.length = 0) : (zs.take n).length + 1 ≤ Rows.uptoBulk (intRow (H := H) k A n zs) := by
  cases A with
  | none =>
    have := hA rfl
    simp only [intRow, Rows.uptoBulk, List.length_take]; omega
  | some a =>
    simp only [intRow, Rows.uptoBulk, bulk_lits]; omega
theorem bulk_rows {H : Type} (f : Nat → List Int) (g : Nat → DataW H) : ∀ rs : List Nat, (∀ r ∈ rs, (f r).length + 1 ≤ Rows.uptoBulk (g r)) → (rs.map f).flatten.length + rs.length ≤ Rows.uptoBulkAll (rs.map g)
  | [], _ => by simp
  | r :: rs, h => by
    have h1 := h r List.mem_cons_self
    have h2 := bulk_rows f g rs (fun x hx => h x (List.mem_cons_of_mem _ hx))
    simp only [List.map_cons, List.flatten_cons, List.length_append, List.length_cons, Rows.uptoBulkAll]
    omega
theorem v_form {P : Program} {W : World} {base : Nat} {v : Value} {t e : TypeId} (ht : P.underlying t = some (.slice e)) (h : Value.okWide P W .any base t v) : ∃ a n c, v = .slice a n c := by
  unfold Value.okWide at h
  rw [ht] at h
  simp only [Cell.okWide, ht] at h
  cases v <;> simp [Cell.ok, ht] at h
  exact ⟨_, _, _, rfl⟩
set_option maxRecDepth 100000 in
theorem contract (H : Type) (enc : TypeId × Value → H) (W : World) (base : Nat) (args : Array Value) (ds gs : List (DataW H)) (before : List MemPlace)
    (hval : ∀ (j : Nat) t v, Tryd.f6.params[j]? = some t → args[j]? = some v → Value.okWide Tryd.prog W .any base t v)
    (hW : DataW.Whole enc Tryd.prog Tryd.f6.params.toList Rows.digestPiecesSpec.vars false W args.toList ds gs before) (hL : laidMetH Tryd.prog laidL W) (hk : Rows.uptoSmall H (ds ++ gs) = true) :
    Calls Tryd.prog 6 args W fun e W' => ∃ v, e = .returned v ∧ Rows.digestPiecesSpec.post enc Tryd.prog Tryd.f6 false true false false W args v W' := by
  have hW' := hW
  obtain ⟨p, q, hA0, hV, rfl, hfz, hnd⟩ := hW
  have hA : DataW.TrodAll enc Tryd.prog W 0 (fun _ => true) true Tryd.f6.params.toList args.toList ds p := hA0
  rw [Tryd.params6] at hA hval
  obtain ⟨v0, vs0, d0, ds0, p0, q0, hargs, rfl, rfl, h0, r0⟩ := trodAll_cons hA
  obtain ⟨rfl, rfl, rfl⟩ := trodAll_nil r0
  obtain rfl : args = #[v0] := by cases args; simp_all
  obtain ⟨rfl, rfl⟩ := trodVars_none hV
  obtain ⟨Tg, Tf, hg, hgf⟩ := of_laid hL
  have bound : Rows.uptoBulkAll [d0] ≤ 1048576 := of_decide_eq_true hk
  simp only [Rows.uptoBulkAll] at bound
  have fin : ∀ (e : Ending) (W' : World), e = .returned (.bool true) ∧ Below W.heap.size W W' → ∃ v, e = .returned v ∧ Rows.digestPiecesSpec.post enc Tryd.prog Tryd.f6 false true false false W #[v0] v W' := by
    rintro e W' ⟨rfl, hb⟩
    exact ⟨_, rfl, law_post laidOut readable (by kernel_rfl) hW' hb (fun _ _ _ => trodAll_mk1 (shut_bool Tryd.underlying4 _)) rfl rfl⟩
  obtain ⟨a0, n0, c0, rfl⟩ := v_form Tryd.underlying31 (hval 0 31 v0 rfl rfl)
  obtain ⟨fuel, hf⟩ := h0
  have hf' : DataW.trod enc Tryd.prog W 0 (fun _ => true) true fuel 31 [.slice a0 n0 c0] = some (d0, p0) := hf
  rcases open_int_rows Tryd.underlying31 Tryd.underlying29 Tryd.underlying5 (by kernel_rfl) (by kernel_rfl) hf' with ⟨hcs, hx⟩ | ⟨a, len, cap, A, L, C, Z, hcs, hb, hl, hcm, hx, hrow⟩
  · cases hcs
    exact (pieces_law (Tg := Tg) (Tf := Tf) none 0 [] W (by simp) (by simp) (by decide) (by simp) (fun i => by simp [nthL]; exact bytes_nil) (fun i hi => absurd hi (Nat.not_lt_zero _)) hg hgf (fun wx g f => alive_any wx _ rfl g f)).mono fin
  · cases hcs
    have hzl : ∀ r, r < n0 → (A r = none → (Z r).length = 0) := fun r hr hn => by
      obtain ⟨_, _, _, h4, _, h6, _⟩ := hrow r (by omega)
      rw [h4]; exact h6 hn
    have hd : d0 = .slice ((List.range n0).map fun r => intRow .u8 (A r) (L r) (Z r)) ((List.range (c0 - n0)).map fun j => intRow .u8 (A (n0 + j)) (L (n0 + j)) (Z (n0 + j))) := congrArg Prod.fst hx
    have hbk := bulk_rows (fun r => (Z r).take (L r)) (fun r => intRow (H := H) .u8 (A r) (L r) (Z r)) (List.range n0) (fun r hr => bulk_row .u8 (A r) (L r) (Z r) (hzl r (List.mem_range.1 hr)))
    rw [hd] at bound
    simp only [Rows.uptoBulk] at bound
    have hlen : ((List.range n0).map fun r => (Z r).take (L r)).length = n0 := by simp
    have hnth : ∀ i, i < n0 → nthL ((List.range n0).map fun r => (Z r).take (L r)) i = (Z i).take (L i) := fun i hi => by simp [nthL, List.getElem?_range hi]
    have hbn : ((List.range n0).map fun r => (Z r).take (L r)).flatten.length + n0 ≤ 1048576 := by
      rw [List.length_range] at hbk; omega
    have key := pieces_law (Tg := Tg) (Tf := Tf) (some a) c0 ((List.range n0).map fun r => (Z r).take (L r)) W (by rw [hlen]; omega) (by rw [hlen]; exact hl) hcm (by omega)
      (fun i => by
        by_cases hi : i < n0
        · rw [hnth i hi]
          obtain ⟨_, _, _, _, h5, _, _⟩ := hrow i (by omega)
          exact bytes_of fun k hk => h5 k (List.mem_of_mem_take hk)
        · have : nthL ((List.range n0).map fun r => (Z r).take (L r)) i = [] := by simp [nthL, List.getElem?_eq_none (show (List.range n0).length ≤ i by simp; omega)]
          rw [this]; exact bytes_nil)
      (fun i hi => by
        rw [hlen] at hi
        obtain ⟨h1, h2, h3, h4, h5, h6, h7⟩ := hrow i (by omega)
        obtain ⟨b, o, spot⟩ := a
        have hspot : spot = none := by simpa [Addr.add] using World.cell?_spot (hrow 0 (by omega)).1
        subst hspot
        rw [addr_add] at h1
        refine ⟨b, o, rfl, World.block_lt_of_cell? _ _ h1, _, h1, ?_⟩
        rw [hnth i hi]
        by_cases h0 : L i = 0
        · exact .inl ⟨A i, C i, by rw [h0], h6, by rw [h0]; rfl⟩
        · cases hAi : A i with
          | none => have := h6 hAi; omega
          | some a' =>
            obtain ⟨b', o', rfl, hc⟩ := ints_at (k := .u8) (zs := Z i) (fun j hj => (h7 a' hAi).2 j (by rw [← h4]; exact hj)) (by omega)
            have hln : ((Z i).take (L i)).length = L i := by rw [List.length_take]; omega
            refine .inr ⟨b', o', C i, by rw [hln], by rw [hln]; exact h2, h3, World.block_lt_of_cell? _ _ (hc 0 (by omega)), fun j hj => ?_⟩
            rw [hln] at hj
            rw [hc j (by omega)]
            simp [ith, List.getD, hj])
      hg hgf (fun wx g f => alive_any wx _ rfl g f)
    rw [hlen] at key
    exact key.mono fin
theorem reads (os : Os) {H : Type} (enc : TypeId × Value → H) : ∃ places, DataW.whole enc Tryd.prog ((World.doorLaid Tryd.prog 400 os).forCall (fun _ _ => 0) ⟨#[], #[.slice none 0 0], []⟩).memory Tryd.f6.params.toList Rows.digestPiecesSpec.vars false #[Value.slice none 0 0].toList 8 = some ([.nil], [], places) :=
  ⟨[], by kernel_rfl⟩
set_option maxRecDepth 100000 in
theorem lifted (os : Os) (started : os.Started) (H : Type) (enc : TypeId × Value → H) (F : Stop.Interp) :
    ReturnsInHanded {} Tryd.checked os 6 .any ((Rows.OpenSpec.upto Rows.digestPiecesSpec).preRow enc Tryd.prog Tryd.f6 Rows.digestPiecesUptoRow.domain false laidL) (((Rows.OpenSpec.upto Rows.digestPiecesSpec).at F).post enc Tryd.prog Tryd.f6 false true false false) := by
  obtain ⟨places, hx⟩ := reads os enc
  refine returnsInHanded_of_row (C := Tryd.checked) (s := Rows.OpenSpec.upto Rows.digestPiecesSpec) own started (by kernel_rfl) Tryd.func6
    (witness_row_atRef (enc := enc) (C := Tryd.checked) false (World.doorLaid Tryd.prog 400 os) #[.slice none 0 0] rfl (by kernel_rfl) (by kernel_rfl) (by kernel_rfl)
      (OpenSpec.preRow_of_cond 8 hx (by kernel_rfl) (fun k hk => by cases hk; kernel_rfl) (by kernel_rfl) (door_met os _))) ?_
  intro W base args ds gs before hval hW _ hcond _ hL _ _
  exact contract H enc W base args ds gs before hval hW hL (hcond _ rfl)
theorem saidUpto : Rows.DigestPiecesUptoSaid :=
  OpenClaim.holds_of_cond 6 Tryd.f6 rfl rfl rfl rfl rfl rfl rfl ⟨rfl, rfl, rfl, rfl, rfl⟩ rfl rfl rfl rfl rfl (by kernel_rfl) Tryd.func6 (by kernel_rfl)
    (of_decide_eq_true (by kernel_rfl)) (by unfold Func.isWrapper; first | (rw [if_pos (by decide +kernel)]; kernel_rfl) | (rw [if_neg (by decide +kernel)]; exact ⟨rfl, rfl⟩))
    (fun os started H enc _ F => by rw [OpenClaim.pre_eq_preRow]; exact lifted os started H enc F)
theorem plain (f : FuncId) (fn : Func) (hf : Tryd.pinned.checked.prog.funcNamed "braid/braidlaw01.DigestPieces" = some f) (hfn : Tryd.pinned.checked.prog.funcs[f]? = some fn) :
    false = Tryd.pinned.checked.prog.looks [] ∧ ∀ (j : Nat) t, fn.params[j]? = some t → Tryd.pinned.checked.prog.wantsStandIn t = false := by
  obtain rfl : f = 6 := Option.some.inj ((show Tryd.prog.funcNamed "braid/braidlaw01.DigestPieces" = some 6 by kernel_rfl).symm.trans hf) |>.symm
  obtain rfl : fn = Tryd.f6 := (Option.some.inj (Tryd.func6.symm.trans hfn)).symm
  refine ⟨by kernel_rfl, fun j t ht => ?_⟩
  rw [Tryd.params6] at ht
  obtain rfl : t = 31 := by simpa using Array.mem_of_getElem? ht
  exact (show Tryd.prog.wantsStandIn 31 = false by kernel_rfl)
theorem proved : Rows.DigestPiecesUptoCardSaid :=
  Claim7.holds_tied_plain_at .later [] _ _ _ _ saidUpto (fun _ h => by cases h) (by kernel_rfl) (fun _ h => by cases h) digestPiecesUpto_row_tie rfl ⟨rfl, rfl⟩ (by kernel_rfl) rfl plain (by kernel_rfl)
#print axioms proved
end Go.Proofs.YtibfbgcnnnmdgaaDoor.digestPieces

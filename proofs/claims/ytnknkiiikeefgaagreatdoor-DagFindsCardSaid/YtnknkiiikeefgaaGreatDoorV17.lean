/- Contracts of package value: reading. Contracts of package value: Decode. -/
import Derived.Test.YtnknkiiikeefgaaGreatDoorV16
namespace Go.Proofs.YtnknkiiikeefgaaGreatDoor.wir.val
open Go.RowKit Go.YtnknkiiikeefgaaGreatDoor
set_option linter.unusedVariables false
theorem results_row_tmp2 {P : Program} {fn : Func} {p u v : Tmp} {ty : TypeId} (h : fn.results = #[.cell p ty, .tmp u, .tmp v]) (tmps : Array Value) (w : World) (g : Nat) (t : TypeId) (cs : Array Value) (fr : Nat × Nat) (d : TypeDesc)
    (hp : tmps.getD p undef = .pointer (some ⟨g, 0, none⟩)) (hg : w.heap[g]? = some (.cells cs t fr))
    (hu : P.underlying ty = some d) (hd : (match d with | .struct _ | .array _ _ => true | _ => false) = true) (hi : (P.info? ty).map (·.size) = some cs.size) :
    (results fn tmps).run P w = .ok (.tuple #[.agg cs, tmps.getD u undef, tmps.getD v undef]) w := by
  have hc : (results fn tmps).run P w =
      ((asAddr (tmps.getD p undef)).run P w).andThen fun a w₁ => ((loadVar ty a).run P w₁).andThen fun x w₂ => .ok (.tuple #[x, tmps.getD u undef, tmps.getD v undef]) w₂ := by
    simp only [results, h]
    simp [Sem.run_bind, Result.andThen]
  rw [hc, hp]
  have hl := run_loadVar_row (P := P) w g t ty cs fr d hg hu hd hi
  simp [asAddr, hl]
def fltR (l : List Int) : Value := if l.length < 8 then .tuple #[vA 0 0 0 ⟨#[]⟩, .int .i64 0, .int .i64 12] else if canF (valN l 8) = valN l 8 then .tuple #[vA 2 0 (valN l 8) ⟨#[]⟩, .int .i64 8, .int .i64 0] else .tuple #[vA 0 0 0 ⟨#[]⟩, .int .i64 0, .int .i64 12]
set_option maxHeartbeats 1000000 in
set_option maxRecDepth 100000 in
theorem decFloat_any (l : List Int) (bv : Value) (w : World) (hr : RdB w bv l) (hl : Bytes l) :
    Calls Tryz.prog 213 #[bv] w fun e w' => e = .returned (fltR l) ∧ Below w.heap.size w w' := by
  by_cases h8 : l.length < 8
  · have e : fltR l = .tuple #[vA 0 0 0 ⟨#[]⟩, .int .i64 0, .int .i64 12] := by unfold fltR; rw [if_pos h8]
    rw [e]
    obtain ⟨a, c, rfl⟩ := hr.slice
    clear hr hl e
    generalize l.length = N at *
    go_enter Tryz.func213, Tryz.ntmps213
    go_wp2
    exact bodyPost_ret (results_row_tmp2 rfl _ _ w.heap.size 29 _ _ _ rfl (heap_alloc_new w _) Tryz.underlying29 rfl info_val) rfl ⟨rfl, below_a _ _⟩
  have hw0 := Lib.hid (below_a w (.cells (vC 0 0 0 ⟨#[]⟩) 29))
  have hrow := Lib.hid (heap_alloc_new w (.cells (vC 0 0 0 ⟨#[]⟩) 29))
  have hr1 := hr.mono hw0.out
  rcases hr with ⟨a, c, rfl, _, rfl⟩ | ⟨b, o, c, rfl, h1, h2, h3, h4⟩
  · simp at h8
  rcases hr1 with ⟨_, _, _, _, rfl⟩ | ⟨b', o', c', e', g1, g2, g3, g4⟩
  · simp at h8
  cases e'
  unfold maxLen at h2
  have hcells := Lib.hid (fun j (hj : j < 8) => g4 j (by omega))
  have hbyte := Lib.hid (fun j => hl j)
  have hval := Lib.hid (fun j (hj : j ≤ 7) => (show 0 ≤ (valN l j : Int) ∧ (valN l j : Int) < 72057594037927936 from by
    have h1 := valN_lt l hl j
    have h2 : (256 : Nat) ^ j ≤ 72057594037927936 := (show (256 : Nat) ^ j ≤ 256 ^ 7 from Nat.pow_le_pow_right (by decide) hj)
    omega))
  have hstep := Lib.hid (fun j => (show (valN l (j + 1) : Int) = (valN l j : Int) * 256 + ith l j from by
    have := hl j
    rw [valN]; omega))
  have hN8 : 8 ≤ l.length := by omega
  have hc8 : 8 ≤ c := by omega
  have hcan := Lib.hid (fun w => canon_any (valN l 8) (valN_lt64 l hl 8 (by decide)) w)
  have hflt := Lib.hid (fun w => float_val (valN l 8) (valN_lt64 l hl 8 (by decide)) w)
  have eF : fltR l = if canF (valN l 8) = valN l 8 then .tuple #[vA 2 0 (valN l 8) ⟨#[]⟩, .int .i64 8, .int .i64 0] else .tuple #[vA 0 0 0 ⟨#[]⟩, .int .i64 0, .int .i64 12] := by unfold fltR; rw [if_neg h8]
  obtain ⟨R, hR⟩ : ∃ R, R = fltR l := ⟨_, rfl⟩
  rw [← hR]
  rw [eF] at hR
  have hR' := Lib.hid hR
  clear hR
  generalize l.length = N at *
  clear h4 g4 eF h8 hl g1 g2 g3 h1 h3
  go_enter Tryz.func213, Tryz.ntmps213
  go_wp2
  generalize w.alloc (.cells (vC 0 0 0 ⟨#[]⟩) 29) = W at *
  go_loopw [5, 15] (fun x i wr => ∃ j : Nat, j ≤ 8 ∧ i = .int .i64 j ∧ x = .int .u64 (valN l j : Nat) ∧ W = wr) (fun _ i _ => 8 - (intOf i).toNat)
  case atStart => exact ⟨0, Nat.zero_le _, rfl, rfl, rfl⟩
  case round =>
    obtain ⟨j, hj, rfl, rfl, rfl⟩ := hrel
    by_cases hlt : j < 8
    · have hck := hcells.out j hlt
      have hb := hbyte.out j
      have hx := hval.out j (by omega)
      have hor := Lib.hid (or_byte _ _ hx hb)
      have hnx := hstep.out j
      generalize hY : valN l (j + 1) = y at hnx
      generalize hX : valN l j = x at *
      generalize ith l j = z at *
      have hnx' := Lib.hid hnx; have hY' := Lib.hid hY
      clear hnx hY hX
      go_wp2
      refine ⟨⟨j + 1, by omega, rfl, ?_, ?_⟩, ?_⟩
      · rw [hor.out, ← hnx'.out, hY'.out]
      · trivial
      · show 8 - ((j : Int) + 1).toNat < 8 - (j : Int).toNat
        omega
    · obtain rfl : j = 8 := by omega
      generalize valN l 8 = Z at *
      clear hcells hbyte hval hstep
      rw [show (((8 : Nat)) : Int) = 8 from rfl]
      by_cases hc : canF Z = Z
      · rw [hc] at hcan hflt
        have hR := hR'.out
        rw [if_pos hc] at hR
        have hR2 := Lib.hid hR
        clear hc hR
        go_wp2_with (first | (go_at_call 197; (with_reducible refine (hcan.out _).mono ?_); rintro e w' ⟨rfl, rfl⟩) | (go_at_call 173; (with_reducible refine (hflt.out _).mono ?_); rintro e w1 ⟨rfl, h9⟩; have hr1 := Lib.hid (rowB hrow.out h9 (Array.getElem?_eq_some_iff.1 hrow.out).1); have hw1 := Lib.hid (hw0.out.trans (h9.mono hw0.out.size)); clear h9) | (refine storeOver w1 w.heap.size _ rfl 29 _ _ rfl (vC 2 0 Z ⟨#[]⟩) 29 hr1.out rfl rfl info_val rfl (val_one _ _ _ _) ?_; intro w2 hr2 hb2; have hr2' := Lib.hid hr2; have hb2' := Lib.hid hb2; clear hr2 hb2))
        exact bodyPost_ret (results_row_tmp2 rfl _ _ w.heap.size 29 _ _ _ rfl hr2'.out Tryz.underlying29 rfl info_val) rfl ⟨by rw [hR2.out]; rfl, hw1.out.trans hb2'.out⟩
      · have hR := hR'.out
        rw [if_neg hc] at hR
        have hR2 := Lib.hid hR
        clear hR
        have hne : ((Z : Int) != (canF Z : Int)) = true := by simp; omega
        generalize canF Z = Y at *
        clear hc
        go_wp2_with (first | (go_at_call 197; (with_reducible refine (hcan.out _).mono ?_); rintro e w' ⟨rfl, rfl⟩) | (refine storeOver W w.heap.size _ rfl 29 _ _ rfl (vC 0 0 0 ⟨#[]⟩) 29 hrow.out rfl rfl info_val rfl (val_one _ _ _ _) ?_; intro w2 hr2 hb2; have hr2' := Lib.hid hr2; have hb2' := Lib.hid hb2; clear hr2 hb2))
        exact bodyPost_ret (results_row_tmp2 rfl _ _ w.heap.size 29 _ _ _ rfl hr2'.out Tryz.underlying29 rfl info_val) rfl ⟨by rw [hR2.out]; rfl, hw0.out.trans hb2'.out⟩
def PartR (k : Int) (l : List Int) (r : Value) : Prop :=
  match decP k l with
  | some p => r = .tuple #[p.1.v, .int .i64 (p.2 : Nat), .int .i64 0]
  | none => ∃ (a n : Int) (b : Nat) (s : ByteArray) (u x : Int), x ≠ 0 ∧ r = .tuple #[vA a n b s, .int .i64 u, .int .i64 x]
theorem partR_some {k : Int} {l : List Int} {r : Value} {v : Va} {u : Nat} (h : decP k l = some (v, u)) (hr : r = .tuple #[v.v, .int .i64 (u : Nat), .int .i64 0]) : PartR k l r := by
  unfold PartR; rw [h]; exact hr
theorem partR_none {k : Int} {l : List Int} {r : Value} (h : decP k l = none) {a n : Int} {b : Nat} {s : ByteArray} {u x : Int} (hx : x ≠ 0) (hr : r = .tuple #[vA a n b s, .int .i64 u, .int .i64 x]) : PartR k l r := by
  unfold PartR; rw [h]; exact ⟨a, n, b, s, u, x, hx, hr⟩
theorem partR_num (l : List Int) : PartR 1 l (.tuple #[vA 1 (unfoldN (rdN l)) 0 ⟨#[]⟩, .int .i64 (rdU l : Nat), .int .i64 (rdE l)]) := by
  cases h : readF l with
  | none =>
    obtain ⟨h1, h2, h3⟩ := rd_none h
    have hd : decP 1 l = none := by unfold decP; rw [if_pos rfl, h]
    exact partR_none hd (by rw [h3]; decide) rfl
  | some p =>
    obtain ⟨n, u⟩ := p
    obtain ⟨h1, h2, h3⟩ := rd_some h
    have hd : decP 1 l = some (⟨1, unfoldN n, 0, ⟨#[]⟩⟩, u) := by unfold decP; rw [if_pos rfl, h]
    exact partR_some hd (by rw [h1, h2, h3])
theorem partR_flt (l : List Int) : PartR 2 l (fltR l) := by
  unfold fltR
  by_cases h8 : l.length < 8
  · rw [if_pos h8]
    exact partR_none (by unfold decP; rw [if_neg (by decide), if_pos rfl, if_pos h8]) (by decide) rfl
  · rw [if_neg h8]
    by_cases hc : canF (valN l 8) = valN l 8
    · rw [if_pos hc]
      exact partR_some (by unfold decP; rw [if_neg (by decide), if_pos rfl, if_neg h8, if_pos hc]) rfl
    · rw [if_neg hc]
      exact partR_none (by unfold decP; rw [if_neg (by decide), if_pos rfl, if_neg h8, if_neg hc]) (by decide) rfl
theorem fltR_form (l : List Int) : ∃ (a n : Int) (b : Nat) (s : ByteArray) (u x : Int), fltR l = .tuple #[vA a n b s, .int .i64 u, .int .i64 x] := by
  unfold fltR
  split
  · exact ⟨_, _, 0, _, _, _, rfl⟩
  · split
    · exact ⟨_, _, _, _, _, _, rfl⟩
    · exact ⟨_, _, 0, _, _, _, rfl⟩
theorem txtV_form (s : ByteArray) : ∃ (a : Int) (t : ByteArray), txtV s = vA a 0 0 t ∧ (txtE s = 0 → a = 3 ∧ t = s) := by
  unfold txtV
  split
  · exact ⟨3, s, rfl, fun _ => ⟨rfl, rfl⟩⟩
  · rename_i h; exact ⟨0, ⟨#[]⟩, rfl, fun h' => absurd h' h⟩
def partV (k : Int) (l : List Int) : Value :=
  if k = 1 then .tuple #[vA 1 (unfoldN (rdN l)) 0 ⟨#[]⟩, .int .i64 (rdU l : Nat), .int .i64 (rdE l)]
  else if k = 2 then fltR l
  else if k = 3 then (match readC l 30 1 with | none => .tuple #[vA 0 0 0 ⟨#[]⟩, .int .i64 0, .int .i64 12] | some p => .tuple #[txtV (toS ((l.drop p.2).take p.1)), .int .i64 ((p.2 + p.1 : Nat) : Int), .int .i64 (txtE (toS ((l.drop p.2).take p.1)))])
  else .tuple #[vA 0 0 0 ⟨#[]⟩, .int .i64 0, .int .i64 12]
theorem partV_R (k : Int) (l : List Int) : PartR k l (partV k l) := by
  unfold partV
  by_cases h1 : k = 1
  · subst h1; rw [if_pos rfl]; exact partR_num l
  rw [if_neg h1]
  by_cases h2 : k = 2
  · subst h2; rw [if_pos rfl]; exact partR_flt l
  rw [if_neg h2]
  by_cases h3 : k = 3
  · subst h3
    rw [if_pos rfl]
    cases hC : readC l 30 1 with
    | none => exact partR_none (by unfold decP; rw [if_neg (by decide), if_neg (by decide), if_pos rfl, hC]) (b := 0) (by decide) rfl
    | some p =>
      obtain ⟨n, u⟩ := p
      have hd : decP 3 l = if txtE (toS ((l.drop u).take n)) = 0 then some (⟨3, 0, 0, toS ((l.drop u).take n)⟩, u + n) else none := by unfold decP; rw [if_neg (by decide), if_neg (by decide), if_pos rfl, hC]
      show PartR 3 l (.tuple #[txtV (toS ((l.drop u).take n)), .int .i64 ((u + n : Nat) : Int), .int .i64 (txtE (toS ((l.drop u).take n)))])
      generalize toS ((l.drop u).take n) = s at *
      obtain ⟨ta, tt, ht1, ht2⟩ := txtV_form s
      rw [ht1]
      by_cases hE : txtE s = 0
      · obtain ⟨rfl, rfl⟩ := ht2 hE
        rw [if_pos hE] at hd
        exact partR_some hd (by rw [hE])
      · rw [if_neg hE] at hd
        exact partR_none hd (b := 0) hE rfl
  · rw [if_neg h3]
    exact partR_none (by unfold decP; rw [if_neg h1, if_neg h2, if_neg h3]) (b := 0) (by decide) rfl
theorem partV_used (k : Int) (l : List Int) (hl : Bytes l) {v : Value} {u x : Int} (h : partV k l = .tuple #[v, .int .i64 u, .int .i64 x]) : 0 ≤ u ∧ u ≤ l.length := by
  have inj : ∀ {v' : Value} {u' x' : Int}, Value.tuple #[v', .int .i64 u', .int .i64 x'] = .tuple #[v, .int .i64 u, .int .i64 x] → u' = u := by
    intro v' u' x' h
    simp only [Value.tuple.injEq, Array.mk.injEq, List.cons.injEq, Value.int.injEq, true_and, and_true] at h
    exact h.2.1
  unfold partV at h
  split at h
  · have := inj h
    rw [← this]
    cases hr : readF l with
    | none => rw [(rd_none hr).2.1]; omega
    | some p =>
      obtain ⟨n, u'⟩ := p
      rw [(rd_some hr).2.1]
      have := (readF_some hl hr).2.2.1
      omega
  split at h
  · unfold fltR at h
    split at h
    · have := inj h; omega
    · split at h
      · have := inj h; omega
      · have := inj h; omega
  split at h
  · split at h
    · have := inj h; omega
    · rename_i p hp
      obtain ⟨n, u'⟩ := p
      have := inj h
      obtain ⟨g1, g2, g3⟩ := readC_some hp
      have h3 := (readF_some hl g1).2.2.1
      rw [Nat.div_one] at g3
      simp only at this
      omega
  · have := inj h; omega
theorem partV_form (k : Int) (l : List Int) : ∃ (a n : Int) (b : Nat) (s : ByteArray) (u x : Int), partV k l = .tuple #[vA a n b s, .int .i64 u, .int .i64 x] := by
  have h := partV_R k l
  unfold PartR at h
  split at h
  · exact ⟨_, _, _, _, _, _, h⟩
  · obtain ⟨a, n, b, s, u, x, _, h⟩ := h
    exact ⟨a, n, b, s, u, x, h⟩
set_option maxHeartbeats 2000000 in
set_option maxRecDepth 100000 in
theorem decPart_any (k : Int) (hk : 0 ≤ k ∧ k < 256) (l : List Int) (bv : Value) (w : World) (hr : RdB w bv l) (hl : Bytes l) (hlm : l.length ≤ 1000000) :
    Calls Tryz.prog 207 #[.int .u8 k, bv] w fun e w' => e = .returned (partV k l) ∧ Below w.heap.size w w' := by
  have hB0 := below_a w (.cells #[.int .u8 0, .int .i64 0, .int .u64 0, .string ⟨#[]⟩] 29)
  have hrow := Lib.hid (heap_alloc_new w (.cells #[.int .u8 0, .int .i64 0, .int .u64 0, .string ⟨#[]⟩] 29))
  have hr1 := hr.mono hB0
  have hB := Lib.hid hB0
  clear hB0
  obtain ⟨W, hW⟩ : ∃ W, W = w.alloc (.cells #[.int .u8 0, .int .i64 0, .int .u64 0, .string ⟨#[]⟩] 29) := ⟨_, rfl⟩
  rw [← hW] at hrow hB hr1
  by_cases h1 : k = 1
  · subst h1
    have hS := Lib.hid (readSigned_any l bv W hr1 hl)
    have hN := Lib.hid (fun w => number_val (unfoldN (rdN l)) w)
    rw [show partV 1 l = .tuple #[vA 1 (unfoldN (rdN l)) 0 ⟨#[]⟩, .int .i64 (rdU l : Nat), .int .i64 (rdE l)] from rfl]
    generalize unfoldN (rdN l) = F at *
    generalize rdU l = U at *
    generalize rdE l = E at *
    obtain ⟨a, c, rfl⟩ := hr.slice
    clear hr hr1 hl hlm hk
    generalize l.length = N at *
    go_enter Tryz.func207, Tryz.ntmps207
    go_upto_region 1 with fail
    rw [← hW]
    clear hW
    go_wp2_with (first | (go_at_call 212; (with_reducible refine (hS.out).mono ?_); rintro e w' ⟨rfl, rfl⟩) | (go_at_call 172; (with_reducible refine (hN.out _).mono ?_); rintro e w1 ⟨rfl, h9⟩; have hr1 := Lib.hid (rowB hrow.out h9 (Array.getElem?_eq_some_iff.1 hrow.out).1); have hw1 := Lib.hid (hB.out.trans (h9.mono hB.out.size)); clear h9) | (refine storeOver w1 w.heap.size _ rfl 29 _ _ rfl (vC 1 F 0 ⟨#[]⟩) 29 hr1.out rfl rfl info_val rfl (val_one _ _ _ _) ?_; intro w2 hr2 hb2; have hr2' := Lib.hid hr2; have hb2' := Lib.hid hb2; clear hr2 hb2))
    exact bodyPost_ret (results_row_tmp2 rfl _ _ w.heap.size 29 _ _ _ rfl hr2'.out Tryz.underlying29 rfl info_val) rfl ⟨by rfl, hw1.out.trans hb2'.out⟩
  by_cases h2 : k = 2
  · subst h2
    have hS := Lib.hid (decFloat_any l bv W hr1 hl)
    obtain ⟨x1, x2, x3, x4, x5, x6, hx⟩ := fltR_form l
    rw [show partV 2 l = fltR l from rfl]
    rw [hx] at hS ⊢
    clear hx
    obtain ⟨a, c, rfl⟩ := hr.slice
    clear hr hr1 hl hlm hk
    generalize l.length = N at *
    go_enter Tryz.func207, Tryz.ntmps207
    go_upto_region 1 with fail
    rw [← hW]
    clear hW
    go_wp2_with (first | (go_at_call 213; (with_reducible refine (hS.out).mono ?_); rintro e w1 ⟨rfl, h9⟩; have hr1 := Lib.hid (rowB hrow.out h9 (Array.getElem?_eq_some_iff.1 hrow.out).1); have hw1 := Lib.hid (hB.out.trans (h9.mono hB.out.size)); clear h9) | (refine storeOver w1 w.heap.size _ rfl 29 _ _ rfl (vC x1 x2 x3 x4) 29 hr1.out rfl rfl info_val rfl (val_one _ _ _ _) ?_; intro w2 hr2 hb2; have hr2' := Lib.hid hr2; have hb2' := Lib.hid hb2; clear hr2 hb2))
    exact bodyPost_ret (results_row_tmp2 rfl _ _ w.heap.size 29 _ _ _ rfl hr2'.out Tryz.underlying29 rfl info_val) rfl ⟨by rfl, hw1.out.trans hb2'.out⟩
  by_cases h3 : k = 3
  · subst h3
    cases hC : readC l 30 1 with
    | none =>
      have hS := Lib.hid (readBytes_no l bv 30 (by omega) (by omega) W hr1 hl hlm hC)
      rw [show partV 3 l = .tuple #[vA 0 0 0 ⟨#[]⟩, .int .i64 0, .int .i64 12] by unfold partV; rw [if_neg (by decide), if_neg (by decide), if_pos rfl, hC]]
      obtain ⟨a, c, rfl⟩ := hr.slice
      clear hr hr1 hl hlm hk hC
      generalize l.length = N at *
      go_enter Tryz.func207, Tryz.ntmps207
      go_upto_region 1 with fail
      rw [← hW]
      clear hW
      go_wp2_with (first | (go_at_call 189; (with_reducible refine (hS.out).mono ?_); rintro e w1 ⟨rfl, rfl⟩) | (refine storeOver _ w.heap.size _ rfl 29 _ _ rfl (vC 0 0 0 ⟨#[]⟩) 29 hrow.out rfl rfl info_val rfl (val_one _ _ _ _) ?_; intro w2 hr2 hb2; have hr2' := Lib.hid hr2; have hb2' := Lib.hid hb2; clear hr2 hb2))
      exact bodyPost_ret (results_row_tmp2 rfl _ _ w.heap.size 29 _ _ _ rfl hr2'.out Tryz.underlying29 rfl info_val) rfl ⟨by rfl, hB.out.trans hb2'.out⟩
    | some p =>
      obtain ⟨n, u⟩ := p
      have hS := Lib.hid (readBytes_ok l bv 30 (by omega) (by omega) W hr1 hl hlm n u hC)
      have hlen : ((l.drop u).take n).length = n := by
        obtain ⟨g1, g2, g3⟩ := readC_some hC
        obtain ⟨h1, h2, h3, h4⟩ := readF_some hl g1
        rw [List.length_take, List.length_drop]; omega
      have hn : n ≤ 30 := by have := (readC_some hC).2.1; omega
      have hun : u ≤ 1000000 := by
        obtain ⟨g1, g2, g3⟩ := readC_some hC
        obtain ⟨h1, h2, h3, h4⟩ := readF_some hl g1
        omega
      rw [show partV 3 l = .tuple #[txtV (toS ((l.drop u).take n)), .int .i64 ((u + n : Nat) : Int), .int .i64 (txtE (toS ((l.drop u).take n)))] by unfold partV; rw [if_neg (by decide), if_neg (by decide), if_pos rfl, hC]]
      have hsz := toS_size ((l.drop u).take n)
      have hrs := Lib.hid (fun (wx : World) (g : Nat) (h : wx.heap[g]? = some (.cells (u8s ((l.drop u).take n)) 5 (0, 0))) => run_toS (P := Tryz.prog) (rdB_row h n hlen (by unfold maxLen; omega)) 83 9 5 Tryz.underlying83 Tryz.underlying5 Tryz.underlying9)
      generalize (l.drop u).take n = R at *
      generalize toS R = s at *
      have hT := Lib.hid (fun w => text_any s (by omega) w)
      obtain ⟨ta, tt, ht1, ht2⟩ := txtV_form s
      rw [ht1] at hT ⊢
      generalize txtE s = E at *
      obtain ⟨a, c, rfl⟩ := hr.slice
      clear hr hr1 hl hlm hk hC ht1 ht2 hlen hsz
      generalize l.length = N at *
      generalize u + n = M at *
      go_enter Tryz.func207, Tryz.ntmps207
      go_upto_region 1 with fail
      rw [← hW]
      clear hW
      go_wp2_with (first | (go_at_call 189; (with_reducible refine (hS.out).mono ?_); rintro e w1 ⟨rfl, h8, h9⟩; have hr1 := Lib.hid (rowB hrow.out h9 (Array.getElem?_eq_some_iff.1 hrow.out).1); have hw1 := Lib.hid (hB.out.trans (h9.mono hB.out.size)); have hk1 := hrs.out w1 _ h8; clear h9 h8) | (go_at_call 174; (with_reducible refine (hT.out _).mono ?_); rintro e w2 ⟨rfl, h9⟩; have hr2 := Lib.hid (rowB hr1.out h9 (Array.getElem?_eq_some_iff.1 hr1.out).1); have hw2 := Lib.hid (hw1.out.trans (h9.mono hw1.out.size)); clear h9 hk1; refine Stop.go'' _ ?_))
      refine StopP.go ?_
      have hn3 := Lib.hid (heap_alloc_new w2 (.cells (vC ta 0 0 tt) 29))
      have hr3 := Lib.hid (rowB hr2.out (below_a w2 (.cells (vC ta 0 0 tt) 29)) (Array.getElem?_eq_some_iff.1 hr2.out).1)
      have hw3 := Lib.hid (hw2.out.trans ((below_a w2 (.cells (vC ta 0 0 tt) 29)).mono hw2.out.size))
      go_wp2_with (first | (refine wpList_load_row_g rfl 29 _ rfl (w2.heap.size) rfl 29 (vC ta 0 0 tt) (0, 0) _ hn3.out Tryz.underlying29 rfl info_val ?_) | (refine storeOver _ w.heap.size _ rfl 29 _ _ rfl (vC ta 0 0 tt) 29 hr3.out rfl rfl info_val rfl (val_one _ _ _ _) ?_; intro w4 hr4 hb4; have hr4' := Lib.hid hr4; have hb4' := Lib.hid hb4; clear hr4 hb4))
      exact bodyPost_ret (results_row_tmp2 rfl _ _ w.heap.size 29 _ _ _ rfl hr4'.out Tryz.underlying29 rfl info_val) rfl ⟨by rfl, hw3.out.trans hb4'.out⟩
  · rw [show partV k l = .tuple #[vA 0 0 0 ⟨#[]⟩, .int .i64 0, .int .i64 12] by unfold partV; rw [if_neg h1, if_neg h2, if_neg h3]]
    have k1 : (k == 1) = false := by simpa using h1
    have k2 : (k == 2) = false := by simpa using h2
    have k3 : (k == 3) = false := by simpa using h3
    obtain ⟨a, c, rfl⟩ := hr.slice
    clear hr hr1 hl hlm hk h1 h2 h3
    generalize l.length = N at *
    go_enter Tryz.func207, Tryz.ntmps207
    go_upto_region 1 with fail
    rw [← hW]
    clear hW
    go_wp2_with (refine storeOver _ w.heap.size _ rfl 29 _ _ rfl (vC 0 0 0 ⟨#[]⟩) 29 hrow.out rfl rfl info_val rfl (val_one _ _ _ _) ?_; intro w2 hr2 hb2; have hr2' := Lib.hid hr2; have hb2' := Lib.hid hb2; clear hr2 hb2)
    exact bodyPost_ret (results_row_tmp2 rfl _ _ w.heap.size 29 _ _ _ rfl hr2'.out Tryz.underlying29 rfl info_val) rfl ⟨by rfl, hB.out.trans hb2'.out⟩
end Go.Proofs.YtnknkiiikeefgaaGreatDoor.wir.val
namespace Go.Proofs.YtnknkiiikeefgaaGreatDoor.wir.val
open Go.RowKit Go.YtnknkiiikeefgaaGreatDoor
set_option linter.unusedVariables false
def decR (l : List Int) : Value :=
  match decF l with
  | some p => .tuple #[p.1.v, .int .i64 (p.2 : Nat), .int .i64 0]
  | none => .tuple #[vA 0 0 0 ⟨#[]⟩, .int .i64 0, .int .i64 12]
theorem fin4 {B g : Nat} {w0 w2 : World} {a0 a1 a2 a3 x0 x1 x2 x3 : Value} {T : TypeId} (hrow : w2.heap[g]? = some (.cells #[a0, a1, a2, a3] T (0, 0))) (hB : Below B w0 w2) (hBg : B ≤ g) :
    ((((w2.setCell ⟨g, 0, none⟩ x0).setCell ⟨g, 1, none⟩ x1).setCell ⟨g, 2, none⟩ x2).setCell ⟨g, 3, none⟩ x3).heap[g]? = some (.cells #[x0, x1, x2, x3] T (0, 0)) ∧
    Below B w0 ((((w2.setCell ⟨g, 0, none⟩ x0).setCell ⟨g, 1, none⟩ x1).setCell ⟨g, 2, none⟩ x2).setCell ⟨g, 3, none⟩ x3) := by
  have e : ((((w2.setCell ⟨g, 0, none⟩ x0).setCell ⟨g, 1, none⟩ x1).setCell ⟨g, 2, none⟩ x2).setCell ⟨g, 3, none⟩ x3) = w2.setRow g #[x0, x1, x2, x3] := by
    have h := fun c => setRow_heap w2 g #[a0, a1, a2, a3] c T (0, 0) hrow
    rw [setCell_eq hrow]
    rw [setCell_eq (h _), setRow2 hrow]
    rw [setCell_eq (h _), setRow2 hrow]
    rw [setCell_eq (h _), setRow2 hrow]
    simp only [List.setIfInBounds_toArray, List.set_cons_succ, List.set_cons_zero]
  rw [e]
  exact ⟨setRow_heap _ _ _ _ _ _ hrow, below_setRow' (g := g) hB hBg _⟩
theorem four_of {w : World} {g : Nat} {a0 a1 a2 a3 : Value} {T : TypeId} (h : w.heap[g]? = some (.cells #[a0, a1, a2, a3] T (0, 0))) :
    (w.cell? ⟨g, 0, none⟩ = some a0 ∧ w.cell? ⟨g, 1, none⟩ = some a1 ∧ w.cell? ⟨g, 2, none⟩ = some a2 ∧ w.cell? ⟨g, 3, none⟩ = some a3) ∧
    w.frozen? ⟨g, 0, none⟩ = false ∧ w.frozen? ⟨g, 1, none⟩ = false ∧ w.frozen? ⟨g, 2, none⟩ = false ∧ w.frozen? ⟨g, 3, none⟩ = false :=
  ⟨⟨cell_of_row _ _ _ _ _ _ h, cell_of_row _ _ _ _ _ _ h, cell_of_row _ _ _ _ _ _ h, cell_of_row _ _ _ _ _ _ h⟩, frozen_of_row _ _ _ _ _ h, frozen_of_row _ _ _ _ _ h, frozen_of_row _ _ _ _ _ h, frozen_of_row _ _ _ _ _ h⟩
set_option maxHeartbeats 2000000 in
set_option maxRecDepth 100000 in
theorem decode_any (l : List Int) (bv : Value) (w : World) (hr : RdB w bv l) (hl : Bytes l) (hlm : l.length ≤ 1000000) :
    Calls Tryz.prog 190 #[bv] w fun e w' => e = .returned (decR l) ∧ Below w.heap.size w w' := by
  have hB0 := below_a w (.cells #[.int .u8 0, .int .i64 0, .int .u64 0, .string ⟨#[]⟩] 29)
  have hrow := Lib.hid (heap_alloc_new w (.cells #[.int .u8 0, .int .i64 0, .int .u64 0, .string ⟨#[]⟩] 29))
  have hr1 := hr.mono hB0
  have hB := Lib.hid hB0
  clear hB0
  obtain ⟨W, hW⟩ : ∃ W, W = w.alloc (.cells #[.int .u8 0, .int .i64 0, .int .u64 0, .string ⟨#[]⟩] 29) := ⟨_, rfl⟩
  rw [← hW] at hrow hB hr1
  by_cases h0 : l.length = 0
  · have e : decR l = .tuple #[vA 0 0 0 ⟨#[]⟩, .int .i64 0, .int .i64 12] := by unfold decR decF; rw [if_pos h0]
    rw [e]
    obtain ⟨a, c, rfl⟩ := hr.slice
    clear hr hr1 hl hlm e
    generalize l.length = N at *
    go_enter Tryz.func190, Tryz.ntmps190
    go_upto_region 1 with fail
    rw [← hW]
    clear hW
    go_wp2_with (refine storeOver _ w.heap.size _ rfl 29 _ _ rfl (vC 0 0 0 ⟨#[]⟩) 29 hrow.out rfl rfl info_val rfl (val_one _ _ _ _) ?_; intro w2 hr2 hb2; have hr2' := Lib.hid hr2; have hb2' := Lib.hid hb2; clear hr2 hb2)
    exact bodyPost_ret (results_row_tmp2 rfl _ _ w.heap.size 29 _ _ _ rfl hr2'.out Tryz.underlying29 rfl info_val) rfl ⟨rfl, hB.out.trans hb2'.out⟩
  have hrs := hr1
  rcases hr1 with ⟨_, _, _, _, rfl⟩ | ⟨b, o, c, rfl, g1, g2, g3, g4⟩
  · simp at h0
  have hsub0 := rdB_sub hrs 1 (l.length - 1) (c - 1) (by omega) (by omega) (by omega)
  have hdr : (l.drop 1).take (l.length - 1) = l.drop 1 := List.take_of_length_le (by rw [List.length_drop]; omega)
  rw [hdr] at hsub0
  have hsub : RdB W (.slice (if c = 1 then some ⟨b, o, none⟩ else some ⟨b, o + 1, none⟩) (l.length - 1) (c - 1)) (l.drop 1) := by
    by_cases hc : c = 1
    · rw [if_pos hc]
      have e1 : l.length - 1 = 0 := by omega
      have e2 : l.drop 1 = [] := List.drop_eq_nil_of_le (by omega)
      rw [e1, e2]
      exact .inl ⟨_, _, rfl, (fun h => by cases h), rfl⟩
    · rw [if_neg hc]; exact hsub0
  have hsub := Lib.hid hsub
  clear hsub0
  have hP := Lib.hid (fun w' (h : Below W.heap.size W w') => decPart_any (ith l 0) (hl 0) (l.drop 1) _ w' (hsub.out.mono h) (bytes_drop _ _ hl) (by rw [List.length_drop]; omega))
  have hc0 := Lib.hid (g4 0 (by omega))
  have hdec : ∀ (a n : Int) (b : Nat) (s : ByteArray) (u x : Int), partV (ith l 0) (l.drop 1) = .tuple #[vA a n b s, .int .i64 u, .int .i64 x] → decR l = if x = 0 then .tuple #[vA a n b s, .int .i64 (1 + u), .int .i64 0] else .tuple #[vA 0 0 0 ⟨#[]⟩, .int .i64 0, .int .i64 12] := by
    intro a n b s u x h
    have hp := partV_R (ith l 0) (l.drop 1)
    rw [h] at hp
    unfold PartR at hp
    unfold decR decF
    rw [if_neg h0]
    cases hd : decP (ith l 0) (l.drop 1) with
    | some p =>
      rw [hd] at hp
      simp only [Value.tuple.injEq, Array.mk.injEq, List.cons.injEq, Value.agg.injEq, Value.int.injEq, true_and, and_true, Value.string.injEq] at hp
      obtain ⟨⟨e1, e2, e3, e4⟩, e5, e6⟩ := hp
      rw [if_pos e6]
      show Value.tuple #[p.1.v, .int .i64 ((1 + p.2 : Nat) : Int), .int .i64 0] = _
      have e3' : b = p.1.b := by omega
      rw [e1, e2, e3', e4, e5]
      simp
    | none =>
      rw [hd] at hp
      obtain ⟨a', n', b', s', u', x', hx, hp⟩ := hp
      simp only [Value.tuple.injEq, Array.mk.injEq, List.cons.injEq, Value.int.injEq, true_and, and_true] at hp
      rw [if_neg (by omega)]
  obtain ⟨va, vn, vb, vs, vu, vx, hv⟩ := partV_form (ith l 0) (l.drop 1)
  replace hdec := hdec _ _ _ _ _ _ hv
  have hu := partV_used _ _ (bytes_drop _ 1 hl) hv
  rw [List.length_drop] at hu
  have hu1 : -1 ≤ vu := by omega
  have hu2 : vu ≤ 1000000 := by omega
  clear hu
  rw [hv] at hP
  obtain ⟨R, hR⟩ : ∃ R, R = decR l := ⟨_, rfl⟩
  rw [← hR]
  rw [hdec] at hR
  have hR' := Lib.hid hR
  unfold maxLen at g2
  have hN : 1 ≤ l.length := by omega
  clear hR hdec hrs hr g4 hl hlm hv hdr
  generalize ith l 0 = K at *
  generalize l.drop 1 = l1 at *
  generalize l.length = N at *
  have hc1 := hc0.out
  rw [Nat.add_zero] at hc1
  have hck := Lib.hid (fun w' (h : Below W.heap.size W w') => (h.cell (p := ⟨b, o, none⟩) g3).trans hc1)
  have hd := Lib.hid (show Below W.heap.size W W.drew from (Below.refl _ _).drew)
  have hda := Lib.hid (show Below W.heap.size W (W.alloc (.cells #[.int .u8 0, .int .i64 0, .int .u64 0, .string ⟨#[]⟩] 29)).drew from (below_a W _).drew)
  have hra := Lib.hid (show (W.alloc (.cells #[.int .u8 0, .int .i64 0, .int .u64 0, .string ⟨#[]⟩] 29)).drew.heap[W.heap.size]? = _ from heap_alloc_new W (.cells #[.int .u8 0, .int .i64 0, .int .u64 0, .string ⟨#[]⟩] 29))
  have hsa := Lib.hid (show W.heap.size < (W.alloc (.cells #[.int .u8 0, .int .i64 0, .int .u64 0, .string ⟨#[]⟩] 29)).drew.heap.size by simp)
  have hP1 := hP.out _ hd.out
  have hP2 := hP.out _ hda.out
  clear hP hsub
  by_cases hcc : c = 1
  · rw [if_pos hcc] at hP1 hP2
    obtain rfl : N = 1 := by omega
    subst hcc
    rw [show 1 - 1 = 0 from rfl] at hP1 hP2
    have hP1 := Lib.hid hP1
    have hP2 := Lib.hid hP2
    go_enter Tryz.func190, Tryz.ntmps190
    go_upto_region 1 with fail
    rw [← hW]
    clear hW
    go_upto_region 3 with fail
    go_region_held3 (fun w' => w'.cell? ⟨b, o, none⟩ = some (.int .u8 K)) (first | go_keep | (exact hck.out _ hb6.out) | (exact hck.out _ (hb6.out.alloc hb6.out.size _)) | (exact hck.out _ (fin4 hr6.out hb6.out (Nat.le_refl _)).2))
      (first | (go_at_call 207; (with_reducible refine (hP1.out).mono ?_); rintro e w6 ⟨rfl, h6⟩; have hb6 := Lib.hid (hd.out.trans (h6.mono hd.out.size)); clear h6) | (go_at_call 207; (with_reducible refine (hP2.out).mono ?_); rintro e w6 ⟨rfl, h6⟩; have hb6 := Lib.hid (hda.out.trans (h6.mono hda.out.size)); have hr6 := Lib.hid (rowB hra.out h6 hsa.out); obtain ⟨⟨k0, k1, k2, k3⟩, l0, l1, l2, l3⟩ := four_of hr6.out; clear h6))
    · have hlt := (Array.getElem?_eq_some_iff.1 hrow.out).1
      have hl := Lib.hid (heap_alloc_new w6 (.cells (vC va vn vb vs) 29))
      have hb7 := hb6.out.alloc hb6.out.size (.cells (vC va vn vb vs) 29)
      have hz := Lib.hid (rowB hrow.out hb7 hlt)
      have hB7 := Lib.hid (hB.out.trans (hb7.mono hB.out.size))
      clear hb7 hlt
      generalize w6.heap.size = gl at *
      generalize w6.alloc (.cells (vC va vn vb vs) 29) = w7 at *
      by_cases hx : vx = 0
      · have hR2 := Lib.hid (hR'.out.trans (if_pos hx))
        have hxb : (vx != 0) = false := by simpa using hx
        clear hx hR'
        go_wp2_with (first | (refine wpList_load_row_g rfl 29 _ rfl (gl) rfl 29 (vC va vn vb vs) (0, 0) _ hl.out Tryz.underlying29 rfl info_val ?_) | (refine storeOver _ w.heap.size _ rfl 29 _ _ rfl (vC va vn vb vs) 29 hz.out rfl rfl info_val rfl (val_one _ _ _ _) ?_; intro w9 hr9 hb9; have hr9' := Lib.hid hr9; have hb9' := Lib.hid hb9; clear hr9 hb9))
        exact bodyPost_ret (results_row_tmp2 rfl _ _ w.heap.size 29 _ _ _ rfl hr9'.out Tryz.underlying29 rfl info_val) rfl ⟨by rw [hR2.out]; rfl, hB7.out.trans hb9'.out⟩
      · have hR2 := Lib.hid (hR'.out.trans (if_neg hx))
        have hxb : (vx != 0) = true := by simpa using hx
        clear hx hR'
        go_wp2_with (refine storeOver _ w.heap.size _ rfl 29 _ _ rfl (vC 0 0 0 ⟨#[]⟩) 29 hz.out rfl rfl info_val rfl (val_one _ _ _ _) ?_; intro w9 hr9 hb9; have hr9' := Lib.hid hr9; have hb9' := Lib.hid hb9; clear hr9 hb9)
        exact bodyPost_ret (results_row_tmp2 rfl _ _ w.heap.size 29 _ _ _ rfl hr9'.out Tryz.underlying29 rfl info_val) rfl ⟨by rw [hR2.out]; rfl, hB7.out.trans hb9'.out⟩
    · have hlt := (Array.getElem?_eq_some_iff.1 hrow.out).1
      obtain ⟨hl0, hb7⟩ := fin4 (x0 := .int .u8 va) (x1 := .int .i64 vn) (x2 := .int .u64 (vb : Int)) (x3 := .string vs) hr6.out hb6.out (Nat.le_refl _)
      have hl := Lib.hid hl0
      have hz := Lib.hid (rowB hrow.out hb7 hlt)
      have hB7 := Lib.hid (hB.out.trans (hb7.mono hB.out.size))
      clear hb7 hlt hl0 k0 k1 k2 k3 l0 l1 l2 l3
      generalize (((w6.setCell _ _).setCell _ _).setCell _ _).setCell _ _ = w7 at *
      by_cases hx : vx = 0
      · have hR2 := Lib.hid (hR'.out.trans (if_pos hx))
        have hxb : (vx != 0) = false := by simpa using hx
        clear hx hR'
        go_wp2_with (first | (refine wpList_load_row_g rfl 29 _ rfl (W.heap.size) rfl 29 (vC va vn vb vs) (0, 0) _ hl.out Tryz.underlying29 rfl info_val ?_) | (refine storeOver _ w.heap.size _ rfl 29 _ _ rfl (vC va vn vb vs) 29 hz.out rfl rfl info_val rfl (val_one _ _ _ _) ?_; intro w9 hr9 hb9; have hr9' := Lib.hid hr9; have hb9' := Lib.hid hb9; clear hr9 hb9))
        exact bodyPost_ret (results_row_tmp2 rfl _ _ w.heap.size 29 _ _ _ rfl hr9'.out Tryz.underlying29 rfl info_val) rfl ⟨by rw [hR2.out]; rfl, hB7.out.trans hb9'.out⟩
      · have hR2 := Lib.hid (hR'.out.trans (if_neg hx))
        have hxb : (vx != 0) = true := by simpa using hx
        clear hx hR'
        go_wp2_with (refine storeOver _ w.heap.size _ rfl 29 _ _ rfl (vC 0 0 0 ⟨#[]⟩) 29 hz.out rfl rfl info_val rfl (val_one _ _ _ _) ?_; intro w9 hr9 hb9; have hr9' := Lib.hid hr9; have hb9' := Lib.hid hb9; clear hr9 hb9)
        exact bodyPost_ret (results_row_tmp2 rfl _ _ w.heap.size 29 _ _ _ rfl hr9'.out Tryz.underlying29 rfl info_val) rfl ⟨by rw [hR2.out]; rfl, hB7.out.trans hb9'.out⟩
  · rw [if_neg hcc] at hP1 hP2
    have hP1 := Lib.hid hP1
    have hP2 := Lib.hid hP2
    have i1 : (1 : Int) ≤ (N : Int) := by omega
    have i2 : (N : Int) ≤ (c : Int) := by omega
    have i3 : (0 : Int) < (N : Int) := by omega
    have i4 : 0 < N := by omega
    go_enter Tryz.func190, Tryz.ntmps190
    go_upto_region 1 with fail
    rw [← hW]
    clear hW
    go_upto_region 3 with fail
    go_region_held3 (fun w' => w'.cell? ⟨b, o, none⟩ = some (.int .u8 K)) (first | go_keep | (exact hck.out _ hb6.out) | (exact hck.out _ (hb6.out.alloc hb6.out.size _)) | (exact hck.out _ (fin4 hr6.out hb6.out (Nat.le_refl _)).2))
      (first | (go_at_call 207; (with_reducible refine (hP1.out).mono ?_); rintro e w6 ⟨rfl, h6⟩; have hb6 := Lib.hid (hd.out.trans (h6.mono hd.out.size)); clear h6) | (go_at_call 207; (with_reducible refine (hP2.out).mono ?_); rintro e w6 ⟨rfl, h6⟩; have hb6 := Lib.hid (hda.out.trans (h6.mono hda.out.size)); have hr6 := Lib.hid (rowB hra.out h6 hsa.out); obtain ⟨⟨k0, k1, k2, k3⟩, l0, l1, l2, l3⟩ := four_of hr6.out; clear h6))
    · have hlt := (Array.getElem?_eq_some_iff.1 hrow.out).1
      have hl := Lib.hid (heap_alloc_new w6 (.cells (vC va vn vb vs) 29))
      have hb7 := hb6.out.alloc hb6.out.size (.cells (vC va vn vb vs) 29)
      have hz := Lib.hid (rowB hrow.out hb7 hlt)
      have hB7 := Lib.hid (hB.out.trans (hb7.mono hB.out.size))
      clear hb7 hlt
      generalize w6.heap.size = gl at *
      generalize w6.alloc (.cells (vC va vn vb vs) 29) = w7 at *
      by_cases hx : vx = 0
      · have hR2 := Lib.hid (hR'.out.trans (if_pos hx))
        have hxb : (vx != 0) = false := by simpa using hx
        clear hx hR'
        go_wp2_with (first | (refine wpList_load_row_g rfl 29 _ rfl (gl) rfl 29 (vC va vn vb vs) (0, 0) _ hl.out Tryz.underlying29 rfl info_val ?_) | (refine storeOver _ w.heap.size _ rfl 29 _ _ rfl (vC va vn vb vs) 29 hz.out rfl rfl info_val rfl (val_one _ _ _ _) ?_; intro w9 hr9 hb9; have hr9' := Lib.hid hr9; have hb9' := Lib.hid hb9; clear hr9 hb9))
        exact bodyPost_ret (results_row_tmp2 rfl _ _ w.heap.size 29 _ _ _ rfl hr9'.out Tryz.underlying29 rfl info_val) rfl ⟨by rw [hR2.out]; rfl, hB7.out.trans hb9'.out⟩
      · have hR2 := Lib.hid (hR'.out.trans (if_neg hx))
        have hxb : (vx != 0) = true := by simpa using hx
        clear hx hR'
        go_wp2_with (refine storeOver _ w.heap.size _ rfl 29 _ _ rfl (vC 0 0 0 ⟨#[]⟩) 29 hz.out rfl rfl info_val rfl (val_one _ _ _ _) ?_; intro w9 hr9 hb9; have hr9' := Lib.hid hr9; have hb9' := Lib.hid hb9; clear hr9 hb9)
        exact bodyPost_ret (results_row_tmp2 rfl _ _ w.heap.size 29 _ _ _ rfl hr9'.out Tryz.underlying29 rfl info_val) rfl ⟨by rw [hR2.out]; rfl, hB7.out.trans hb9'.out⟩
    · have hlt := (Array.getElem?_eq_some_iff.1 hrow.out).1
      obtain ⟨hl0, hb7⟩ := fin4 (x0 := .int .u8 va) (x1 := .int .i64 vn) (x2 := .int .u64 (vb : Int)) (x3 := .string vs) hr6.out hb6.out (Nat.le_refl _)
      have hl := Lib.hid hl0
      have hz := Lib.hid (rowB hrow.out hb7 hlt)
      have hB7 := Lib.hid (hB.out.trans (hb7.mono hB.out.size))
      clear hb7 hlt hl0 k0 k1 k2 k3 l0 l1 l2 l3
      generalize (((w6.setCell _ _).setCell _ _).setCell _ _).setCell _ _ = w7 at *
      by_cases hx : vx = 0
      · have hR2 := Lib.hid (hR'.out.trans (if_pos hx))
        have hxb : (vx != 0) = false := by simpa using hx
        clear hx hR'
        go_wp2_with (first | (refine wpList_load_row_g rfl 29 _ rfl (W.heap.size) rfl 29 (vC va vn vb vs) (0, 0) _ hl.out Tryz.underlying29 rfl info_val ?_) | (refine storeOver _ w.heap.size _ rfl 29 _ _ rfl (vC va vn vb vs) 29 hz.out rfl rfl info_val rfl (val_one _ _ _ _) ?_; intro w9 hr9 hb9; have hr9' := Lib.hid hr9; have hb9' := Lib.hid hb9; clear hr9 hb9))
        exact bodyPost_ret (results_row_tmp2 rfl _ _ w.heap.size 29 _ _ _ rfl hr9'.out Tryz.underlying29 rfl info_val) rfl ⟨by rw [hR2.out]; rfl, hB7.out.trans hb9'.out⟩
      · have hR2 := Lib.hid (hR'.out.trans (if_neg hx))
        have hxb : (vx != 0) = true := by simpa using hx
        clear hx hR'
        go_wp2_with (refine storeOver _ w.heap.size _ rfl 29 _ _ rfl (vC 0 0 0 ⟨#[]⟩) 29 hz.out rfl rfl info_val rfl (val_one _ _ _ _) ?_; intro w9 hr9 hb9; have hr9' := Lib.hid hr9; have hb9' := Lib.hid hb9; clear hr9 hb9)
        exact bodyPost_ret (results_row_tmp2 rfl _ _ w.heap.size 29 _ _ _ rfl hr9'.out Tryz.underlying29 rfl info_val) rfl ⟨by rw [hR2.out]; rfl, hB7.out.trans hb9'.out⟩
/-- What a walk keeps: the world from which it began, and rows that it laid. -/
structure Inv (w : World) (rows : List (Nat × Obj)) (w9 : World) : Prop where
  b : Below w.heap.size w w9
  r : ∀ p ∈ rows, w9.heap[p.1]? = some p.2
theorem Inv.start (w : World) : Inv w [] w := ⟨Below.refl _ _, fun p h => by cases h⟩
theorem Inv.step0 {w : World} {rows : List (Nat × Obj)} {w9 w' : World} (h : Inv w rows w9) (hb : Below w9.heap.size w9 w') : Inv w rows w' :=
  ⟨h.b.trans (hb.mono h.b.size), fun p hp => rowB (h.r p hp) hb (Array.getElem?_eq_some_iff.1 (h.r p hp)).1⟩
theorem Inv.alloc {w : World} {rows : List (Nat × Obj)} {w9 : World} (h : Inv w rows w9) (o : Obj) : Inv w rows (w9.alloc o) := h.step0 (below_a w9 o)
theorem Inv.add {w : World} {rows : List (Nat × Obj)} {w9 : World} (h : Inv w rows w9) (o : Obj) : Inv w ((w9.heap.size, o) :: rows) (w9.alloc o) :=
  ⟨(h.alloc o).b, fun p hp => by
    rcases List.mem_cons.1 hp with rfl | hp
    · exact heap_alloc_new w9 o
    · exact (h.alloc o).r p hp⟩
theorem Inv.drew {w : World} {rows : List (Nat × Obj)} {w9 : World} (h : Inv w rows w9) : Inv w rows w9.drew := h.step0 (Below.refl _ _).drew
end Go.Proofs.YtnknkiiikeefgaaGreatDoor.wir.val

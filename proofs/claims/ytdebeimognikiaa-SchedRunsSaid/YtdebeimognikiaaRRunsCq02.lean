/- Texts that the row stands on, part 2. -/
import Derived.Test.YtdebeimognikiaaRRunsCq01
import Derived.OpenShut
import Derived.OpenVars
import Derived.ChangeSlices
namespace Go.Proofs.Ytdebeimognikiaa.con
open Go.RowKit Go.Ytdebeimognikiaa
set_option linter.unusedVariables false
def allR (L A : List Int) : List Int := if okT L A then allN L A L.length else []
theorem allR_ok {L A : List Int} (h : OkT L A) : allR L A = allN L A L.length := by unfold allR; rw [okT_iff.2 h]; rfl
theorem allR_no {L A : List Int} (h : ¬ OkT L A) : allR L A = [] := by unfold allR; rw [okT_no h]; rfl
set_option maxHeartbeats 4000000 in
set_option maxRecDepth 100000 in
theorem sRunnable_all (L A : List Int) (lv av : Value) (w : World) (hL : RdN w lv L) (hA : RdN w av A) :
    Calls Try.prog 13 #[.agg (tkC lv av)] w fun e w' => ∃ v, e = .returned (.tuple #[v, .int .i64 (chkT L A)]) ∧ NewN w.heap.size w' v (allR L A) ∧ Below w.heap.size w w' := by
  rcases Classical.em (OkT L A) with hO | hO
  case inl =>
    rw [allR_ok hO, chkT_ok hO]
    exact (sRunnable_any L A lv av w hL hA hO).mono fun e w' ⟨v, h1, h2, h3⟩ => ⟨v, h1, h2.new, h3⟩
  rw [allR_no hO, chkT_no hO]
  have hcn := chkT_no hO
  obtain ⟨W, hW⟩ : ∃ W, W = w.alloc (.cells (tkC lv av) 24) := ⟨_, rfl⟩
  have hS := Lib.hid (show Below w.heap.size w W by rw [hW]; exact below_a _ _)
  have r0 := Lib.hid (show W.heap[w.heap.size]? = some (.cells (tkC lv av) 24 (0, 0)) by rw [hW]; exact heap_alloc_new w _)
  have hsz := Lib.hid (show W.heap.size = w.heap.size + 1 by rw [hW]; simp)
  have hX := Lib.hid (Below.refl W.heap.size W)
  have hrow := Lib.hid (fun (wz : World) (h : Below W.heap.size W wz) => rowB r0.out h (Array.getElem?_eq_some_iff.1 r0.out).1)
  have hC := Lib.hid (fun (wz : World) (h : Below W.heap.size W wz) => sCheck_any L A lv av wz (hL.mono (hS.out.trans (h.mono hS.out.size))) (hA.mono (hS.out.trans (h.mono hS.out.size))))
  rw [hcn] at hC
  clear hL hA hcn hO
  go_enter Try.func13, Try.ntmps13
  go_upto_region 1 with fail
  rw [← hW]
  clear hW
  go_wp2_with (first
      | (refine wpList_load_row_g rfl 24 _ rfl w.heap.size rfl 24 (tkC lv av) (0, 0) _ (hrow.out _ hX.out) Try.underlying24 rfl info_tk ?_)
      | (go_at_call 21; (with_reducible refine (hC.out _ hX.out).mono ?_); rintro e9 w9 ⟨rfl, q9⟩; replace hX := Lib.hid (hX.out.trans (Below.mono q9 hX.out.size)); clear q9))
  go_ret2
  exact ⟨_, rfl, NewN.nil _ _, hS.out.trans (hX.out.mono hS.out.size)⟩
set_option maxHeartbeats 4000000 in
set_option maxRecDepth 100000 in
theorem rRunnable_all (L A : List Int) (lv av : Value) (w : World) (hL : RdN w lv L) (hA : RdN w av A) :
    Calls Try.prog 14 #[.agg (tkC lv av)] w fun e w' => ∃ v, e = .returned (.tuple #[v, .int .i64 (chkT L A)]) ∧ NewN w.heap.size w' v (allR L A) ∧ Below w.heap.size w w' := by
  obtain ⟨W, hW⟩ : ∃ W, W = w.alloc (.cells (tkC lv av) 24) := ⟨_, rfl⟩
  have hS := Lib.hid (show Below w.heap.size w W by rw [hW]; exact below_a _ _)
  have r0 := Lib.hid (show W.heap[w.heap.size]? = some (.cells (tkC lv av) 24 (0, 0)) by rw [hW]; exact heap_alloc_new w _)
  have hsz := Lib.hid (show W.heap.size = w.heap.size + 1 by rw [hW]; simp)
  have hX := Lib.hid (Below.refl W.heap.size W)
  have hrow := Lib.hid (fun (wz : World) (h : Below W.heap.size W wz) => rowB r0.out h (Array.getElem?_eq_some_iff.1 r0.out).1)
  have hC := Lib.hid (fun (wz : World) (h : Below W.heap.size W wz) => rCheck_any L A lv av wz (hL.mono (hS.out.trans (h.mono hS.out.size))) (hA.mono (hS.out.trans (h.mono hS.out.size))))
  have hAl := Lib.hid (fun (wz : World) (h : Below W.heap.size W wz) (hO : OkT L A) => rAll_any L A lv av wz (hL.mono (hS.out.trans (h.mono hS.out.size))) (hA.mono (hS.out.trans (h.mono hS.out.size))) hO)
  clear hL hA
  rcases Classical.em (OkT L A) with hO | hO
  case inl =>
    rw [allR_ok hO, chkT_ok hO]
    rw [chkT_ok hO] at hC
    have hA9 := Lib.hid (fun wz h => hAl.out wz h hO)
    clear hAl hO
    generalize allN L A L.length = D at *
    go_enter Try.func14, Try.ntmps14
    go_upto_region 1 with fail
    rw [← hW]
    clear hW
    go_wp2_with (first
        | (refine wpList_load_row_g rfl 24 _ rfl w.heap.size rfl 24 (tkC lv av) (0, 0) _ (hrow.out _ hX.out) Try.underlying24 rfl info_tk ?_)
        | (go_at_call 22; (with_reducible refine (hC.out _ hX.out).mono ?_); rintro e9 w9 ⟨rfl, q9⟩; replace hX := Lib.hid (hX.out.trans (Below.mono q9 hX.out.size)); clear q9)
        | (go_at_call 35; (with_reducible refine (hA9.out _ hX.out).mono ?_); rintro e9 w9 ⟨v, rfl, q8, q9⟩; have hs9 := Lib.hid hX.out.size; replace hX := Lib.hid (hX.out.trans (Below.mono q9 hX.out.size)); have q8' := Lib.hid q8; clear q8 q9))
    go_ret2
    exact ⟨_, rfl, q8'.out.new.mono (Nat.le_trans hS.out.size hs9.out), hS.out.trans (hX.out.mono hS.out.size)⟩
  case inr =>
    rw [allR_no hO, chkT_no hO]
    rw [chkT_no hO] at hC
    clear hAl hO
    go_enter Try.func14, Try.ntmps14
    go_upto_region 1 with fail
    rw [← hW]
    clear hW
    go_wp2_with (first
        | (refine wpList_load_row_g rfl 24 _ rfl w.heap.size rfl 24 (tkC lv av) (0, 0) _ (hrow.out _ hX.out) Try.underlying24 rfl info_tk ?_)
        | (go_at_call 22; (with_reducible refine (hC.out _ hX.out).mono ?_); rintro e9 w9 ⟨rfl, q9⟩; replace hX := Lib.hid (hX.out.trans (Below.mono q9 hX.out.size)); clear q9))
    go_ret2
    exact ⟨_, rfl, NewN.nil _ _, hS.out.trans (hX.out.mono hS.out.size)⟩
end Go.Proofs.Ytdebeimognikiaa.con
namespace Go.Proofs.Ytdebeimognikiaa.con
open Go.RowKit Go.Ytdebeimognikiaa
set_option linter.unusedVariables false
/-- The value 'v' is a slice of slices of bytes that reads as' 'L'. -/
def RdM (w : World) (v : Value) (L : List (List Int)) : Prop :=
  (∃ a c, v = .slice a 0 c ∧ (a = none → c = 0) ∧ L = []) ∨ ∃ b o c, v = .slice (some ⟨b, o, none⟩) L.length c ∧ L.length ≤ c ∧ c ≤ maxLen ∧ b < w.heap.size ∧ ∀ i, i < L.length → ∃ s, w.cell? ⟨b, o + i, none⟩ = some s ∧ RdN w s (nthL L i)
theorem RdM.mono {w w' : World} {v : Value} {L : List (List Int)} (h : RdM w v L) (hb : Below w.heap.size w w') : RdM w' v L := by
  rcases h with h | ⟨b, o, c, hv, h1, h2, h3, h4⟩
  · exact .inl h
  · refine .inr ⟨b, o, c, hv, h1, h2, Nat.lt_of_lt_of_le h3 hb.size, fun i hi => ?_⟩
    obtain ⟨s, hs, hr⟩ := h4 i hi
    exact ⟨s, (hb.cell (p := (⟨b, o + i, none⟩ : Addr)) h3).trans hs, hr.mono hb⟩
theorem RdM.slice {w : World} {v : Value} {L : List (List Int)} (h : RdM w v L) : ∃ a c, v = .slice a L.length c := by
  rcases h with ⟨a, c, rfl, _, rfl⟩ | ⟨b, o, c, hv, _⟩
  · exact ⟨a, c, rfl⟩
  · exact ⟨_, c, hv⟩
theorem RdM.at {w : World} {a : Option Addr} {n c : Nat} {L : List (List Int)} (h : RdM w (.slice a n c) L) (i : Nat) (hi : i < L.length) : ∃ b o, a = some ⟨b, o, none⟩ ∧ b < w.heap.size ∧ ∃ s, w.cell? ⟨b, o + i, none⟩ = some s ∧ RdN w s (nthL L i) := by
  rcases h with ⟨_, _, _, _, rfl⟩ | ⟨b, o, c', hv, h1, h2, h3, h4⟩
  · exact absurd hi (Nat.not_lt_zero _)
  · cases hv
    exact ⟨b, o, rfl, h3, h4 i hi⟩
theorem RdM.nil (w : World) : RdM w (.slice none 0 0) [] := .inl ⟨none, 0, rfl, fun _ => rfl, rfl⟩
theorem owns_keptM {base : Nat} {e : TypeId} {size : Nat} {w w' : World} {v : Value} {n : Nat} {xs : List Value} (h : w.ownsRow base e size v n xs) (hb : Below w.heap.size w w') : w'.ownsRow base e size v n xs := by
  refine ⟨h.1, ?_⟩
  rcases h.2 with hn | ⟨g, cap, cur, rfl, hbg, hg, rest⟩
  · exact .inl hn
  · exact .inr ⟨g, cap, cur, rfl, hbg, (hb.block g (Array.getElem?_eq_some_iff.1 hg).1).trans hg, rest⟩
theorem owns_sameM {base : Nat} {e : TypeId} {size : Nat} {w w' : World} {v : Value} {n : Nat} {xs : List Value} (h : w.ownsRow base e size v n xs) (h1 : ∀ k, base ≤ k → k < w.heap.size → w'.heap[k]? = w.heap[k]?) : w'.ownsRow base e size v n xs := by
  refine ⟨h.1, ?_⟩
  rcases h.2 with hn | ⟨g, cap, cur, rfl, hbg, hg, rest⟩
  · exact .inl hn
  · exact .inr ⟨g, cap, cur, rfl, hbg, (h1 g hbg (Array.getElem?_eq_some_iff.1 hg).1).trans hg, rest⟩
/-- A slice of strings that is the call's own, each string too. -/
def OwnM (B : Nat) (T8 TS : TypeId) (w : World) (v : Value) (L : List (List Int)) : Prop :=
  ∃ vs : List Value, vs.length = L.length ∧ w.ownsRow B TS 1 v vs.length vs ∧ ∀ i, i < L.length → ∃ s, vs[i]? = some s ∧ OwnN B T8 w s (nthL L i)
theorem OwnM.nil (w : World) (B : Nat) (T8 TS : TypeId) : OwnM B T8 TS w (.slice none 0 0) [] := ⟨[], rfl, World.ownsRow_nil w B TS 1, fun i hi => absurd hi (Nat.not_lt_zero _)⟩
theorem OwnM.rd {B : Nat} {T8 TS : TypeId} {w : World} {v : Value} {L : List (List Int)} (h : OwnM B T8 TS w v L) : RdM w v L := by
  obtain ⟨vs, hl, ho, hs⟩ := h
  rcases ho.2 with ⟨rfl, h0⟩ | ⟨g, cap, cur, rfl, hb, hg, hn, hm, hz, ht⟩
  · exact .inl ⟨none, 0, rfl, fun _ => rfl, List.eq_nil_of_length_eq_zero (hl.symm.trans h0)⟩
  · refine .inr ⟨g, 0, cap, by rw [hl], by omega, hm, (Array.getElem?_eq_some_iff.1 hg).1, fun i hi => ?_⟩
    obtain ⟨s, h1, h2⟩ := hs i hi
    have hcell := World.ownsRow.cells (g := g) ho rfl i s h1
    rw [addr_add] at hcell
    exact ⟨s, hcell, h2.rd⟩
theorem OwnM.kept {B : Nat} {T8 TS : TypeId} {w w' : World} {v : Value} {L : List (List Int)} (h : OwnM B T8 TS w v L) (hb : Below w.heap.size w w') : OwnM B T8 TS w' v L := by
  obtain ⟨vs, hl, ho, hs⟩ := h
  refine ⟨vs, hl, owns_keptM ho hb, fun i hi => ?_⟩
  obtain ⟨s, h1, h2⟩ := hs i hi
  exact ⟨s, h1, h2.kept hb⟩
theorem OwnM.mono {B B' : Nat} {T8 TS : TypeId} {w : World} {v : Value} {L : List (List Int)} (h : OwnM B T8 TS w v L) (hB : B' ≤ B) : OwnM B' T8 TS w v L := by
  obtain ⟨vs, hl, ho, hs⟩ := h
  refine ⟨vs, hl, ⟨ho.1, ?_⟩, fun i hi => ?_⟩
  · rcases ho.2 with hn | ⟨g, cap, cur, rfl, hbg, rest⟩
    · exact .inl hn
    · exact .inr ⟨g, cap, cur, rfl, Nat.le_trans hB hbg, rest⟩
  · obtain ⟨s, h1, h2⟩ := hs i hi
    exact ⟨s, h1, h2.mono hB⟩
theorem OwnM.below {B : Nat} {T8 TS : TypeId} {w w' : World} {v : Value} {L : List (List Int)} (h : OwnM B T8 TS w v L) (hg : w.grownBy w' v.ownBlock) (hb : B ≤ w.heap.size) : Below B w w' := by
  obtain ⟨vs, hl, ho, hs⟩ := h
  exact Below.grown (Below.refl B w) hg hb (fun k hk => (World.ownsRow.lt ho k hk).1)
theorem OwnM.slice {B : Nat} {T8 TS : TypeId} {w : World} {v : Value} {L : List (List Int)} (h : OwnM B T8 TS w v L) : ∃ a c, v = .slice a L.length c := h.rd.slice
theorem OwnM.els {B g : Nat} {T8 TS : TypeId} {w w' : World} {v : Value} {L : List (List Int)} (h : OwnM B T8 TS w v L) (he : ElsN g w w') (hg : g < B) : OwnM B T8 TS w' v L := by
  obtain ⟨vs, hl, ho, hs⟩ := h
  have hn : ∀ k, B ≤ k → k < w.heap.size → w'.heap[k]? = w.heap[k]? := fun k h1 h2 => he.row (by omega) h2
  refine ⟨vs, hl, owns_sameM ho hn, fun i hi => ?_⟩
  obtain ⟨s, h1, h2⟩ := hs i hi
  exact ⟨s, h1, h2.els he hg⟩
theorem OwnM.low {base : Nat} {T8 TS : TypeId} {w w' : World} {v : Value} {L : List (List Int)} (h : OwnM base T8 TS w v L) (hg : w.grownBy w' v.ownBlock) {j : Nat} (hj : j < base) (hl : j < w.heap.size) : w'.heap[j]? = w.heap[j]? := by
  obtain ⟨vs, _, ho, _⟩ := h
  exact hg.block j hl (fun e => by have := (World.ownsRow.lt ho j e.symm).1; omega)
end Go.Proofs.Ytdebeimognikiaa.con
namespace Go.Proofs.Ytdebeimognikiaa.con
open Go.RowKit Go.Ytdebeimognikiaa
set_option linter.unusedVariables false
set_option maxHeartbeats 4000000 in
set_option maxRecDepth 100000 in
theorem rRun_any (L A Q : List Int) (lv av pv : Value) (w : World) (hL : RdN w lv L) (hA : RdN w av A) (hQ : RdN w pv Q) :
    Calls Try.prog 20 #[.agg (tkC lv av), pv] w fun e w' => ∃ xv yv dv, e = .returned (.tuple #[.agg (tkC xv yv), dv, .int .i64 (pckE L A Q)]) ∧ NewN w.heap.size w' xv (runR L A Q) ∧ NewN w.heap.size w' yv (runA L A Q) ∧ NewN w.heap.size w' dv (runS L A Q) ∧ Below w.heap.size w w' := by
  have f1 := hQ.fit
  obtain ⟨pa, pc, rfl⟩ := hQ.slice
  obtain ⟨m, hm⟩ : ∃ m, Q.length = m := ⟨_, rfl⟩
  have hm' := Lib.hid hm
  rw [hm] at hQ f1 ⊢
  obtain ⟨W, hW⟩ : ∃ W, W = (w.alloc (.cells (tkC lv av) 24)).alloc (.cells (tkC nilN nilN) 24) := ⟨_, rfl⟩
  have hS := Lib.hid (show Below w.heap.size w W by rw [hW]; exact ((Below.refl w.heap.size w).alloc (Nat.le_refl _) _).alloc (by simp) _)
  have r0 := Lib.hid (show W.heap[w.heap.size]? = some (.cells (tkC lv av) 24 (0, 0)) by rw [hW]; exact rowB (heap_alloc_new w _) (below_a _ _) (by simp))
  have r1 := Lib.hid (show W.heap[w.heap.size + 1]? = some (.cells (tkC nilN nilN) 24 (0, 0)) by rw [hW]; exact hn2 w _ _)
  have hsz := Lib.hid (show W.heap.size = w.heap.size + 2 by rw [hW]; simp)
  have hX := Lib.hid (Below.refl W.heap.size W)
  have hrow := Lib.hid (fun (wz : World) (h : Below W.heap.size W wz) => rowB r0.out h (Array.getElem?_eq_some_iff.1 r0.out).1)
  have hres := Lib.hid (fun (wz : World) (h : Below W.heap.size W wz) => rowB r1.out h (Array.getElem?_eq_some_iff.1 r1.out).1)
  have hC := Lib.hid (fun (wz : World) (h : Below W.heap.size W wz) => rPicks_any L A Q lv av (.slice pa m pc) wz (hL.mono (hS.out.trans (h.mono hS.out.size))) (hA.mono (hS.out.trans (h.mono hS.out.size))) (hQ.mono (hS.out.trans (h.mono hS.out.size))))
  have hT0 := Lib.hid (fun (wz : World) (h : Below W.heap.size W wz) (h1 : L.length ≤ 1000) (h2 : A.length ≤ 1000) => twin_any L A lv av wz (hL.mono (hS.out.trans (h.mono hS.out.size))) (hA.mono (hS.out.trans (h.mono hS.out.size))) h1 h2)
  have hQ' := Lib.hid hQ
  clear hL hA hQ hm
  by_cases h0 : pckE L A Q = 0
  case neg =>
    obtain ⟨e1, e2, e3⟩ := run_no h0
    rw [e1, e2, e3]
    clear e1 e2 e3 hT0 hQ'
    generalize pckE L A Q = R at *
    go_enter Try.func20, Try.ntmps20
    go_upto_region 1 with fail
    rw [← hW]
    clear hW
    go_wp2_with (first
        | (refine wpList_load_row_g rfl 24 _ rfl w.heap.size rfl 24 (tkC lv av) (0, 0) _ (hrow.out _ hX.out) Try.underlying24 rfl info_tk ?_)
        | (go_at_call 30; (with_reducible refine (hC.out _ hX.out).mono ?_); rintro e9 w9 ⟨rfl, q9⟩; replace hX := Lib.hid (hX.out.trans (Below.mono q9 hX.out.size)); clear q9)
        | (refine wpList_store_row rfl 24 _ _ rfl (w.heap.size + 1) (tkC nilN nilN) rfl rfl 24 _ (hres.out _ hX.out) info_tk rfl (tk_one _ _ rfl rfl) ?_))
    refine bodyPost_ret (results_row_tmp2 rfl _ _ (w.heap.size + 1) 24 _ _ _ rfl (setRow_heap _ _ _ (tkC nilN nilN) _ _ (hres.out _ hX.out)) Try.underlying24 rfl info_tk) rfl ⟨_, _, _, rfl, NewN.nil _ _, NewN.nil _ _, NewN.nil _ _, below_setRow' (hS.out.trans (hX.out.mono hS.out.size)) (by omega) _⟩
  case pos =>
    have hO := pckE_zero h0
    obtain ⟨e1, e2, e3⟩ := run_ok h0
    rw [e1, e2, e3, hm'.out]
    have n12 := hO.t.hi
    have n1 := hO.t.lo
    have nA := hO.t.na
    have m300 := hO.many
    rw [hm'.out] at m300
    have hO' := Lib.hid hO
    have hT := Lib.hid (fun wz h => hT0.out wz h (by omega) (by omega))
    obtain ⟨n, hn⟩ : ∃ n, L.length = n := ⟨_, rfl⟩
    have hn' := Lib.hid hn
    rw [h0] at hC ⊢
    rw [hn] at n12 n1 nA
    have nA' := Lib.hid nA
    clear h0 e1 e2 e3 hT0 hO hn
    go_enter Try.func20, Try.ntmps20
    go_upto_region 1 with fail
    rw [← hW]
    clear hW
    go_upto_region 3 with (first
        | (refine wpList_load_row_g rfl 24 _ rfl w.heap.size rfl 24 (tkC lv av) (0, 0) _ (hrow.out _ hX.out) Try.underlying24 rfl info_tk ?_)
        | (go_at_call 30; (with_reducible refine (hC.out _ hX.out).mono ?_); rintro e9 w9 ⟨rfl, q9⟩; replace hX := Lib.hid (hX.out.trans (Below.mono q9 hX.out.size)); clear q9))
    have r2 := Lib.hid (hrow.out _ hX.out); have r3 := Lib.hid (hres.out _ hX.out)
    have hT9 := Lib.hid (hT.out _ hX.out)
    have hX9 := Lib.hid (hS.out.trans (hX.out.mono hS.out.size)); have hz9 := Lib.hid hX.out.size
    clear hX hrow hres hT hC r0 r1
    go_upto_region 4 with (first
      | (refine wpList_load_row_g rfl 24 _ rfl w.heap.size rfl 24 (tkC lv av) (0, 0) _ r2.out Try.underlying24 rfl info_tk ?_)
      | (go_at_call 10; (with_reducible refine hT9.out.mono ?_); rintro e8 w8 ⟨xv, yv, rfl, hTw, q8⟩; have hTw' := Lib.hid hTw; have q8' := Lib.hid q8; have one8 := Lib.hid (tk_one xv yv (own_one hTw.x) (own_one hTw.y)); have r5 := Lib.hid (rowK r3.out q8); clear hTw q8)
      | (refine storeNew _ rfl 24 _ _ rfl (tkC xv yv) 24 rfl rfl info_tk rfl one8.out ?_; intro w5 hrx hbx; have rx := Lib.hid hrx; have hbx' := Lib.hid hbx; clear hrx hbx))
    obtain ⟨g, c, rfl, hg0, hc1, hc2, hig⟩ := (hTw'.out.x.mono (Nat.le_refl _)).row (by rw [hn'.out]; omega)
    obtain ⟨h, c2, rfl, hh0, hd1, hd2, hih⟩ := (hTw'.out.y.mono (Nat.le_refl _)).row (by rw [nA'.out]; omega)
    have hgh : h ≠ g := fun e => hTw'.out.ne g rfl (by rw [← e]; rfl)
    rw [hn'.out] at hc1 rx ⊢
    rw [nA'.out] at hd1 rx ⊢
    have hi0 := Lib.hid (show RunI w w5.heap.size g h w8.heap.size (w.heap.size + 1) (tkC (.slice (some ⟨g, 0, none⟩) n c) (.slice (some ⟨h, 0, none⟩) n c2)) (tkC nilN nilN) A (runN L A Q 0) w5 from
      ⟨(hX9.out.trans (q8'.out.mono hX9.out.size)).trans (hbx'.out.mono (Nat.le_trans hX9.out.size q8'.out.size)), Nat.le_refl _, hig.below hbx'.out, hih.below hbx'.out, rx.out, rowK r5.out hbx'.out⟩)
    have hlt5 := (Array.getElem?_eq_some_iff.1 rx.out).1
    have hG := Lib.hid (show RunG w w5.heap.size g h w8.heap.size (w.heap.size + 1) from ⟨by have := hsz.out; have := hz9.out; omega, by have := hsz.out; have := hz9.out; omega, Nat.lt_of_lt_of_le hig.lt hbx'.out.size, Nat.lt_of_lt_of_le hih.lt hbx'.out.size, hgh, hlt5, by have := hig.lt; omega, by have := hig.lt; have := hsz.out; have := hz9.out; omega, by have := hsz.out; have := hz9.out; omega, by have := hsz.out; have := hz9.out; omega⟩)
    have hw8 := Lib.hid (show w.heap.size ≤ w5.heap.size from Nat.le_trans (Nat.le_trans hX9.out.size q8'.out.size) hbx'.out.size)
    have hc1' := Lib.hid hc1; have hc2' := Lib.hid hc2; have hd1' := Lib.hid hd1; have hd2' := Lib.hid hd2
    clear hTw' q8' one8 rx hbx' r5 r2 r3 hT9 hX9 hz9 hg0 hh0 hig hih hgh hc1 hc2 hd1 hd2 hsz hlt5
    obtain ⟨B5, hB5⟩ : ∃ B5, B5 = w5.heap.size := ⟨_, rfl⟩
    rw [← hB5] at hi0 hG hw8
    clear hB5
    go_wp2
    go_loopw [8, 9] (fun v i wr => ∃ k : Nat, k ≤ m ∧ i = .int .i64 (k : Int) ∧ RunI w B5 g h w8.heap.size (w.heap.size + 1) (tkC (.slice (some ⟨g, 0, none⟩) n c) (.slice (some ⟨h, 0, none⟩) n c2)) (tkC nilN nilN) A (runN L A Q k) wr ∧ OwnN B5 3 wr v (didN L A Q k)) (fun _ i _ => m - (intOf i).toNat)
    case atStart => exact ⟨0, Nat.zero_le _, rfl, hi0.out, OwnN.nil _ _ _⟩
    case round =>
      obtain ⟨k, hk, rfl, hI0, ho⟩ := hrel
      have hI := Lib.hid hI0
      have hdl := didN_length L A Q k
      have ho' := Lib.hid ho
      obtain ⟨va, vc, rfl⟩ := ho.slice
      clear hI0 ho
      by_cases hlt : k < m
      · obtain ⟨b, o, rfl, hbw, q1⟩ := rdN_at hQ'.out k (by rw [hm'.out]; exact hlt)
        have d0 := q1 _ hI.out.b
        have hkI : (k : Int) < (m : Int) := by omega
        have hel := hO'.out.el k (by rw [hm'.out]; exact hlt)
        obtain ⟨p, hp⟩ : ∃ p : Nat, ith Q k = (p : Int) := ⟨(ith Q k).toNat, by omega⟩
        have hpk : pk Q k = p := by unfold pk; rw [hp, Int.toNat_natCast]
        have hpn : p < n := by have := hn'.out; omega
        have hst := runN_step L A Q k
        have hy := Lib.hid (fun h => didN_yes (L := L) (A := A) (P := Q) (k := k) h)
        have hno := Lib.hid (fun h => didN_no (L := L) (A := A) (P := Q) (k := k) h)
        rw [hpk] at hst hy hno
        rw [hp] at d0
        have hst' := Lib.hid hst
        have hOk := Lib.hid (runN_ok hO'.out.t k (P := Q))
        have hlk := Lib.hid (show (runN L A Q k).length = n by rw [runN_length, hn'.out])
        have hcan := Lib.hid (fun h : can (runN L A Q k) A p = false => can_false h)
        have q1' := Lib.hid (show ∀ wz, Below w.heap.size w wz → wz.cell? ⟨b, o + k, none⟩ = some (.int .i64 (p : Int)) from fun wz h => by rw [← hp]; exact q1 wz h)
        clear q1 hel hp hpk hst
        generalize hSt : runN L A Q k = St at *
        generalize hDd : didN L A Q k = Dd at *
        have hDl := Lib.hid hdl
        obtain ⟨z, hz⟩ : ∃ z, Dd.length = z := ⟨_, rfl⟩
        have hz' := Lib.hid hz
        rw [hz] at hdl ho' ⊢
        clear hSt hDd hz
        have hAh := Lib.hid (show ∀ wz, Below wr.heap.size wr wz → HeldN g wz (.slice (some ⟨h, 0, none⟩) n c2) A from fun wz hb => by
          have e := heldN_row (hI.out.aft.below hb) hG.out.gh (by rw [nA'.out]; exact hd1'.out) hd2'.out
          rwa [nA'.out] at e)
        have hStp := Lib.hid (show ∀ wz, Below wr.heap.size wr wz → Calls Try.prog 31 #[.agg (tkC (.slice (some ⟨g, 0, none⟩) n c) (.slice (some ⟨h, 0, none⟩) n c2)), .int .i64 (p : Int)] wz fun e w' => e = .returned (.bool (can St A p)) ∧ Below wz.heap.size wz w' from fun wz hb => by
          have e := (hI.out.row.below hb).rd2 (by rw [hlk.out]; exact hc1'.out) hc2'.out
          rw [hlk.out] at e
          exact rCan_any St A (.slice (some ⟨g, 0, none⟩) n c) (.slice (some ⟨h, 0, none⟩) n c2) p wz e (hAh.out wz hb).now hOk.out (by rw [hlk.out]; exact hpn))
        have hyes := Lib.hid (fun h : can St A p = true => And.intro (can_true h) (can_iff.1 h).1)
        have hel8 := Lib.hid (hOk.out.el p (by rw [hlk.out]; exact hpn)).1
        generalize hSq : stepL St A p = Sq at *
        have hSq' := Lib.hid hSq
        clear hSq
        have hkb := Lib.hid (fun wz (h : Below wr.heap.size wr wz) => q1'.out wz (hI.out.b.trans (h.mono hI.out.b.size)))
        cases hB : can St A p with
        | true =>
          have hN1 := Lib.hid (hy.out hB)
          obtain ⟨hst2, hx0⟩ := hyes.out hB
          rw [hB] at hStp
          clear hB hy hno hcan hyes
          go_upto_region 8 with fail
          refine wp_region_headN (C := fun w' => Below wr.heap.size wr w') 5 [] (by kernel_rfl) (by kernel_rfl) ((Below.refl _ _).drew) ?_
          simp only [List.take_succ_cons, List.take_zero, List.drop_succ_cons, List.drop_zero]
          refine head_step _ (by rfl) (quiet_row 24 _ rfl _ rfl 24 (tkC (.slice (some ⟨g, 0, none⟩) n c) (.slice (some ⟨h, 0, none⟩) n c2)) (0, 0) _ (fun wz h => rowK hI.out.box h) Try.underlying24 rfl info_tk) rfl rfl (fun K hK => ?_); go_simp; refine hK _ ?_; clear hK K
          refine head_walk (by rfl) (fun K hK => ?_); go_simp; first | (refine ⟨_, fun _ _ => rfl, hK _ ?_⟩) | (refine hK _ ?_)
          clear hK K
          refine head_walk (by rfl) (fun K hK => ?_); go_simp; first | (refine ⟨_, fun _ _ => rfl, hK _ ?_⟩) | (refine hK _ ?_)
          clear hK K
          refine head_walk (by rfl) (fun K hK => ?_); go_simp; first | (refine ⟨_, fun _ _ => rfl, hK _ ?_⟩) | (refine hK _ ?_)
          clear hK K
          refine head_step (.int .i64 (p : Int)) (by rfl) (quiet_cell 3 _ rfl b (o + k) rfl (.int .i64 (p : Int)) (fun wz h => hkb.out wz h) Try.isAgg3) rfl rfl (fun K hK => ?_); go_simp; refine hK _ ?_; clear hK K
          refine head_nil ?_
          intro w7 h7
          go_wp2_with (go_at_call 31; (with_reducible refine (hStp.out _ h7).mono ?_); rintro e9 w9 ⟨rfl, q9⟩; have q9' := Lib.hid (h7.trans (q9.mono h7.size)); clear q9)
          refine NoPanic.normal ?_
          try simp only [Exit.inBlock, Exit.then]
          have hI9 := Lib.hid (hI.out.below q9'.out)
          have ho9 := Lib.hid (ho'.out.kept q9'.out)
          have h7b := Lib.hid h7
          clear h7
          go_upto_region 9 with fail
          have hk9 := Lib.hid (fun wz (h : Below w9.heap.size w9 wz) => hkb.out wz (q9'.out.trans (h.mono q9'.out.size)))
          have hs9 := Lib.hid (fun wz (h : Below w9.heap.size w9 wz) => (hI9.out.row.below h).cell p (by rw [hlk.out]; exact hpn))
          have hwr : IntKind.i64.wrap (ith St p - 1) = ith St p - 1 := IntWalk.i64_in _ (by have := hel8.out; omega)
          have hpI : (p : Int) < (n : Int) := by omega
          have hset := Lib.hid (fun wz (h : Below w9.heap.size w9 wz) x => (hI9.out.row.below h).set p (by rw [hlk.out]; exact hpn) x)
          have hst2' := Lib.hid hst2
          have hf9 := Lib.hid (fun wz (h : Below w9.heap.size w9 wz) => (hI9.out.row.below h).frozen p)
          clear hst2
          generalize ith St p = x at *
          refine wp_region_headN (C := fun w' => Below w9.heap.size w9 w') 10 [] (by kernel_rfl) (by kernel_rfl) ((Below.refl _ _).drew) ?_
          simp only [List.take_succ_cons, List.take_zero, List.drop_succ_cons, List.drop_zero]
          refine head_walk (by rfl) (fun K hK => ?_); go_simp; first | (refine ⟨_, fun _ _ => rfl, hK _ ?_⟩) | (refine hK _ ?_)
          clear hK K
          refine head_step (.slice (some ⟨g, 0, none⟩) n c) (by rfl) (quiet_cell 22 _ rfl w8.heap.size 0 rfl (.slice (some ⟨g, 0, none⟩) n c) (fun wz h => by rw [cell_of_row _ _ _ _ _ _ (rowK hI9.out.box h)]; rfl) Try.isAgg22) rfl rfl (fun K hK => ?_); go_simp; refine hK _ ?_; clear hK K
          refine head_walk (by rfl) (fun K hK => ?_); go_simp; first | (refine ⟨_, fun _ _ => rfl, hK _ ?_⟩) | (refine hK _ ?_)
          clear hK K
          refine head_walk (by rfl) (fun K hK => ?_); go_simp; first | (refine ⟨_, fun _ _ => rfl, hK _ ?_⟩) | (refine hK _ ?_)
          clear hK K
          refine head_walk (by rfl) (fun K hK => ?_); go_simp; first | (refine ⟨_, fun _ _ => rfl, hK _ ?_⟩) | (refine hK _ ?_)
          clear hK K
          refine head_step (.int .i64 (p : Int)) (by rfl) (quiet_cell 3 _ rfl b (o + k) rfl (.int .i64 (p : Int)) (fun wz h => hk9.out wz h) Try.isAgg3) rfl rfl (fun K hK => ?_); go_simp; refine hK _ ?_; clear hK K
          refine head_walk (by rfl) (fun K hK => ?_); go_simp; first | (refine ⟨_, fun _ _ => rfl, hK _ ?_⟩) | (refine hK _ ?_)
          clear hK K
          refine head_step (.int .i64 x) (by rfl) (quiet_cell 3 _ rfl g p rfl (.int .i64 x) (fun wz h => hs9.out wz h) Try.isAgg3) rfl rfl (fun K hK => ?_); go_simp; refine hK _ ?_; clear hK K
          refine head_walk (by rfl) (fun K hK => ?_); go_simp; first | (refine ⟨_, fun _ _ => rfl, hK _ ?_⟩) | (refine hK _ ?_)
          clear hK K
          refine head_walk (by rfl) (fun K hK => ?_); go_simp; first | (refine ⟨_, fun _ _ => rfl, hK _ ?_⟩) | (refine hK _ ?_)
          clear hK K
          refine head_nil ?_
          intro w7 h7
          have f7 := hf9.out _ h7
          have d7 := hs9.out _ h7
          have h7' := Lib.hid h7
          go_wp2
          refine NoPanic.normal ?_
          try simp only [Exit.inBlock, Exit.then]
          have hSx := Lib.hid (hset.out _ h7'.out (x - 1))
          have hI8 := Lib.hid ((hI9.out.below h7'.out).step hG.out (elsN_set g p _ (.int .i64 (x - 1))) hSx.out)
          have ho8 := Lib.hid ((ho9.out.kept h7'.out).els (elsN_set g p _ (.int .i64 (x - 1))) hG.out.g5)
          have hres8 := hst2'
          clear f7 d7 h7 hSx hset
          generalize w7.setCell ⟨g, p, none⟩ (.int .i64 (x - 1)) = w6 at *
          rename_i K9 hK9
          refine hK9 _ _ ?_
          clear hK9 K9
          have hXb := Lib.hid (below_a w6 (.cells #[.int .i64 (k : Int)] 3))
          have hXr := Lib.hid (rdN_one (c := 1) (heap_alloc_new w6 (.cells #[.int .i64 (k : Int)] 3)) (by decide) (by decide))
          go_wp2_with (refine appendN rfl _ _ 22 rfl B5 3 Try.underlying22 (by kernel_rfl) _ rfl Dd (ho8.out.kept hXb.out) _ rfl [(k : Int)] hXr.out (by have := hDl.out; have := hz'.out; simp; omega) (Nat.le_trans hI8.out.s hXb.out.size) ?_)
          intro v' w5' y1 y2
          have hI6 := Lib.hid ((hI8.out.below hXb.out).app hG.out hw8.out (ho8.out.kept hXb.out) y2)
          have y1' := Lib.hid y1
          clear y1 y2
          refine Stop.go ?_
          go_wp2
          go_roundw
          case rel => exact ⟨k + 1, by omega, by go_num, by rw [hst'.out, hres8.out]; exact hI6.out, by rw [hN1.out]; exact y1'.out⟩
          case measure => simp [intOf]; omega
        | false =>
          have hN1 := Lib.hid (hno.out hB)
          have hSt9 := Lib.hid (hcan.out hB)
          rw [hB] at hStp
          clear hB hy hno hcan hyes
          go_upto_region 8 with fail
          refine wp_region_headN (C := fun w' => Below wr.heap.size wr w') 5 [] (by kernel_rfl) (by kernel_rfl) ((Below.refl _ _).drew) ?_
          simp only [List.take_succ_cons, List.take_zero, List.drop_succ_cons, List.drop_zero]
          refine head_step _ (by rfl) (quiet_row 24 _ rfl _ rfl 24 (tkC (.slice (some ⟨g, 0, none⟩) n c) (.slice (some ⟨h, 0, none⟩) n c2)) (0, 0) _ (fun wz h => rowK hI.out.box h) Try.underlying24 rfl info_tk) rfl rfl (fun K hK => ?_); go_simp; refine hK _ ?_; clear hK K
          refine head_walk (by rfl) (fun K hK => ?_); go_simp; first | (refine ⟨_, fun _ _ => rfl, hK _ ?_⟩) | (refine hK _ ?_)
          clear hK K
          refine head_walk (by rfl) (fun K hK => ?_); go_simp; first | (refine ⟨_, fun _ _ => rfl, hK _ ?_⟩) | (refine hK _ ?_)
          clear hK K
          refine head_walk (by rfl) (fun K hK => ?_); go_simp; first | (refine ⟨_, fun _ _ => rfl, hK _ ?_⟩) | (refine hK _ ?_)
          clear hK K
          refine head_step (.int .i64 (p : Int)) (by rfl) (quiet_cell 3 _ rfl b (o + k) rfl (.int .i64 (p : Int)) (fun wz h => hkb.out wz h) Try.isAgg3) rfl rfl (fun K hK => ?_); go_simp; refine hK _ ?_; clear hK K
          refine head_nil ?_
          intro w7 h7
          go_wp2_with (go_at_call 31; (with_reducible refine (hStp.out _ h7).mono ?_); rintro e9 w9 ⟨rfl, q9⟩; have q9' := Lib.hid (h7.trans (q9.mono h7.size)); clear q9)
          refine NoPanic.normal ?_
          try simp only [Exit.inBlock, Exit.then]
          have hI9 := Lib.hid (hI.out.below q9'.out)
          have ho9 := Lib.hid (ho'.out.kept q9'.out)
          clear h7
          rename_i K9 hK9
          refine hK9 _ _ ?_
          clear hK9 K9
          go_wp2
          go_roundw
          case rel => exact ⟨k + 1, by omega, by go_num, by rw [hst'.out, hSt9.out]; exact hI9.out, by rw [hN1.out]; exact ho9.out⟩
          case measure => simp [intOf]; omega
      · obtain rfl : k = m := by omega
        have hone := Lib.hid (tk_one (.slice (some ⟨g, 0, none⟩) n c) (.slice (some ⟨h, 0, none⟩) n c2) rfl rfl)
        go_wp2_with (first
          | (refine wpList_load_row_g rfl 24 _ rfl w8.heap.size rfl 24 (tkC (.slice (some ⟨g, 0, none⟩) n c) (.slice (some ⟨h, 0, none⟩) n c2)) (0, 0) _ hI.out.box Try.underlying24 rfl info_tk ?_)
          | (refine wpList_store_row rfl 24 _ _ rfl (w.heap.size + 1) (tkC (.slice (some ⟨g, 0, none⟩) n c) (.slice (some ⟨h, 0, none⟩) n c2)) rfl rfl 24 _ hI.out.res info_tk rfl hone.out ?_))
        have hrg : w.heap.size + 1 ≠ g := hG.out.rg
        have hrh : h ≠ w.heap.size + 1 := hG.out.hr
        refine bodyPost_ret (results_row_tmp2 rfl _ _ (w.heap.size + 1) 24 _ _ _ rfl (setRow_heap _ _ _ (tkC (.slice (some ⟨g, 0, none⟩) n c) (.slice (some ⟨h, 0, none⟩) n c2)) _ _ hI.out.res) Try.underlying24 rfl info_tk) rfl ⟨_, _, _, rfl, ?_, ?_, ?_, below_setRow' hI.out.b (by omega) _⟩
        · have e := (hI.out.row.to (setRow_other wr (w.heap.size + 1) g (tkC (.slice (some ⟨g, 0, none⟩) n c) (.slice (some ⟨h, 0, none⟩) n c2)) (fun e => hrg e.symm))).new hG.out.g0 (by rw [runN_length, hn'.out]; exact hc1'.out) hc2'.out
          rwa [runN_length, hn'.out] at e
        · have e := (hI.out.aft.to (setRow_other wr (w.heap.size + 1) h (tkC (.slice (some ⟨g, 0, none⟩) n c) (.slice (some ⟨h, 0, none⟩) n c2)) hrh)).new hG.out.h0 (by rw [nA'.out]; exact hd1'.out) hd2'.out
          rwa [nA'.out] at e
        · exact (ownN_setRow ho'.out hG.out.r5 _).new.mono hw8.out
end Go.Proofs.Ytdebeimognikiaa.con
namespace Go.Proofs.Ytdebeimognikiaa.con
open Go.RowKit Go.Ytdebeimognikiaa
set_option linter.unusedVariables false
def newR (L A X : List Int) : List Int := if okT L A then X else []
theorem new_ok {L A : List Int} (h : OkT L A) (X : List Int) : newR L A X = X := by unfold newR; rw [okT_iff.2 h]; rfl
theorem new_no {L A : List Int} (h : ¬ OkT L A) (X : List Int) : newR L A X = [] := by unfold newR; rw [okT_no h]; rfl
/-- What a call with tasks and an error answers. -/
abbrev res2 (xv yv : Value) (e : Int) : Ending := .returned (.tuple #[.agg (tkC xv yv), .int .i64 e])
set_option maxHeartbeats 4000000 in
set_option maxRecDepth 100000 in
theorem sNew_any (L A : List Int) (lv av : Value) (w : World) (hL : RdN w lv L) (hA : RdN w av A)  :
    Calls Try.prog 11 #[lv, av] w fun e w' => ∃ xv yv, e = res2 xv yv (chkT L A) ∧ RdN w' xv (newR L A L) ∧ RdN w' yv (newR L A A) ∧ Below w.heap.size w w' := by
  obtain ⟨la, lc, rfl⟩ := hL.slice
  obtain ⟨aa, ac, rfl⟩ := hA.slice
  obtain ⟨W1, hW1⟩ : ∃ W1, W1 = w.alloc (.cells (tkC nilN nilN) 24) := ⟨_, rfl⟩
  have hs1 := Lib.hid (show W1.heap.size = w.heap.size + 1 by rw [hW1]; simp)
  have hS1 := Lib.hid (show Below w.heap.size w W1 by rw [hW1]; exact below_a _ _)
  have r1 := Lib.hid (show W1.heap[w.heap.size]? = some (.cells (tkC nilN nilN) 24 (0, 0)) by rw [hW1]; exact heap_alloc_new w _)
  have hL' := Lib.hid hL; have hA' := Lib.hid hA
  have hone := Lib.hid (tk_one (.slice la L.length lc) (.slice aa A.length ac) rfl rfl)
  clear hL hA
  rcases Classical.em (OkT L A) with hO | hO
  case inr =>
    rw [new_no hO, new_no hO, chkT_no hO]
    have hcn := Lib.hid (chkT_no hO)
    go_enter Try.func11, Try.ntmps11
    go_upto_region 1 with fail
    rw [← hW1]
    clear hW1
    go_upto_region 2 with (refine storeNew _ rfl 24 _ _ rfl (tkC (.slice la L.length lc) (.slice aa A.length ac)) 24 rfl rfl info_tk rfl hone.out ?_; intro W hrx hbx; have rx := Lib.hid hrx; have hbx' := Lib.hid hbx; clear hrx hbx)
    have hS := Lib.hid (hS1.out.trans (hbx'.out.mono hS1.out.size))
    have r0 := Lib.hid (rowK r1.out hbx'.out)
    have hLW := Lib.hid (hL'.out.mono hS.out); have hAW := Lib.hid (hA'.out.mono hS.out)
    clear hbx' r1 hS1 hL' hA' 
    have hX := Lib.hid (Below.refl W.heap.size W)
    have hrow := Lib.hid (fun (wz : World) (h : Below W.heap.size W wz) => rowB rx.out h (Array.getElem?_eq_some_iff.1 rx.out).1)
    have hres := Lib.hid (fun (wz : World) (h : Below W.heap.size W wz) => rowB r0.out h (Array.getElem?_eq_some_iff.1 r0.out).1)
    have hC0 := Lib.hid (fun (wz : World) (h : Below W.heap.size W wz) => sCheck_any L A (.slice la L.length lc) (.slice aa A.length ac) wz (hLW.out.mono h) (hAW.out.mono h))
    have hT0 := Lib.hid (fun (wz : World) (h : Below W.heap.size W wz) (h1 : L.length ≤ 1000) (h2 : A.length ≤ 1000) => copied_any L A (.slice la L.length lc) (.slice aa A.length ac) wz (hLW.out.mono h) (hAW.out.mono h) h1 h2)
    rw [hcn.out] at hC0
    have hC := hC0
    clear hC0 hO hcn hT0
    go_wp2_with (first
        | (refine wpList_load_row_g rfl 24 _ rfl W1.heap.size rfl 24 (tkC (.slice la L.length lc) (.slice aa A.length ac)) (0, 0) _ (hrow.out _ hX.out) Try.underlying24 rfl info_tk ?_)
        | (go_at_call 21; (with_reducible refine (hC.out _ hX.out).mono ?_); rintro e9 w9 ⟨rfl, q9⟩; replace hX := Lib.hid (hX.out.trans (Below.mono q9 hX.out.size)); clear q9)
        | (refine wpList_store_row rfl 24 _ _ rfl w.heap.size (tkC nilN nilN) rfl rfl 24 _ (hres.out _ hX.out) info_tk rfl (tk_one _ _ rfl rfl) ?_))
    refine bodyPost_ret (results_row_tmp rfl _ _ w.heap.size 24 _ _ _ rfl (setRow_heap _ _ _ (tkC nilN nilN) _ _ (hres.out _ hX.out)) Try.underlying24 rfl info_tk) rfl ⟨_, _, rfl, RdN.nil _, RdN.nil _, below_setRow' (hS.out.trans (hX.out.mono hS.out.size)) (Nat.le_refl _) _⟩
  case inl =>
    have hbd := Lib.hid (show L.length ≤ 1000 ∧ A.length ≤ 1000 from by have a := hO.hi; have b := hO.na; omega)
    rw [new_ok hO, new_ok hO, chkT_ok hO]
    have hcn := Lib.hid (chkT_ok hO)
    go_enter Try.func11, Try.ntmps11
    go_upto_region 1 with fail
    rw [← hW1]
    clear hW1
    go_upto_region 2 with (refine storeNew _ rfl 24 _ _ rfl (tkC (.slice la L.length lc) (.slice aa A.length ac)) 24 rfl rfl info_tk rfl hone.out ?_; intro W hrx hbx; have rx := Lib.hid hrx; have hbx' := Lib.hid hbx; clear hrx hbx)
    have hS := Lib.hid (hS1.out.trans (hbx'.out.mono hS1.out.size))
    have r0 := Lib.hid (rowK r1.out hbx'.out)
    have hLW := Lib.hid (hL'.out.mono hS.out); have hAW := Lib.hid (hA'.out.mono hS.out)
    clear hbx' r1 hS1 hL' hA' 
    have hX := Lib.hid (Below.refl W.heap.size W)
    have hrow := Lib.hid (fun (wz : World) (h : Below W.heap.size W wz) => rowB rx.out h (Array.getElem?_eq_some_iff.1 rx.out).1)
    have hres := Lib.hid (fun (wz : World) (h : Below W.heap.size W wz) => rowB r0.out h (Array.getElem?_eq_some_iff.1 r0.out).1)
    have hC0 := Lib.hid (fun (wz : World) (h : Below W.heap.size W wz) => sCheck_any L A (.slice la L.length lc) (.slice aa A.length ac) wz (hLW.out.mono h) (hAW.out.mono h))
    have hT0 := Lib.hid (fun (wz : World) (h : Below W.heap.size W wz) (h1 : L.length ≤ 1000) (h2 : A.length ≤ 1000) => copied_any L A (.slice la L.length lc) (.slice aa A.length ac) wz (hLW.out.mono h) (hAW.out.mono h) h1 h2)
    rw [hcn.out] at hC0
    have hC := hC0
    have hT := Lib.hid (fun wz h => hT0.out wz h hbd.out.1 hbd.out.2)
    clear hT0
    clear hC0 hO
    go_upto_region 5 with (first
        | (refine wpList_load_row_g rfl 24 _ rfl W1.heap.size rfl 24 (tkC (.slice la L.length lc) (.slice aa A.length ac)) (0, 0) _ (hrow.out _ hX.out) Try.underlying24 rfl info_tk ?_)
        | (go_at_call 21; (with_reducible refine (hC.out _ hX.out).mono ?_); rintro e9 w9 ⟨rfl, q9⟩; replace hX := Lib.hid (hX.out.trans (Below.mono q9 hX.out.size)); clear q9))
    have hT9 := Lib.hid (hT.out _ hX.out)
    have r9 := Lib.hid (hres.out _ hX.out)
    have hB9 := Lib.hid (hS.out.trans (hX.out.mono hS.out.size))
    have hr9 := Lib.hid (hrow.out _ hX.out)
    go_wp2_with (first
      | (refine wpList_load_row_g rfl 24 _ rfl W1.heap.size rfl 24 (tkC (.slice la L.length lc) (.slice aa A.length ac)) (0, 0) _ hr9.out Try.underlying24 rfl info_tk ?_)
      | (go_at_call 33; (with_reducible refine hT9.out.mono ?_); rintro e8 w8 ⟨xv, yv, rfl, hTw, q8⟩; have hTw' := Lib.hid hTw; have q8' := Lib.hid q8; have one8 := Lib.hid (tk_one xv yv (own_one hTw.x) (own_one hTw.y)); have r10 := Lib.hid (rowK r9.out q8); clear hTw q8)
      | (refine wpList_store_row rfl 24 _ _ rfl w.heap.size (tkC xv yv) rfl rfl 24 _ r10.out info_tk rfl one8.out ?_))
    have hlow := Lib.hid (hTw'.out.low (g := w.heap.size) (Nat.lt_of_lt_of_le (Array.getElem?_eq_some_iff.1 r9.out).1 (Nat.le_refl _)) (Nat.le_refl _) (tkC xv yv))
    refine bodyPost_ret (results_row_tmp rfl _ _ w.heap.size 24 _ _ _ rfl (setRow_heap _ _ _ (tkC xv yv) _ _ r10.out) Try.underlying24 rfl info_tk) rfl ⟨_, _, rfl, hlow.out.x.rd, hlow.out.y.rd, below_setRow' (hB9.out.trans (q8'.out.mono hB9.out.size)) (Nat.le_refl _) _⟩
set_option maxHeartbeats 4000000 in
set_option maxRecDepth 100000 in
theorem rNew_any (L A : List Int) (lv av : Value) (w : World) (hL : RdN w lv L) (hA : RdN w av A) (h1 : L.length ≤ 1000) (h2 : A.length ≤ 1000) :
    Calls Try.prog 12 #[lv, av] w fun e w' => ∃ xv yv, e = res2 xv yv (chkT L A) ∧ RdN w' xv (newR L A L) ∧ RdN w' yv (newR L A A) ∧ Below w.heap.size w w' := by
  obtain ⟨la, lc, rfl⟩ := hL.slice
  obtain ⟨aa, ac, rfl⟩ := hA.slice
  obtain ⟨W1, hW1⟩ : ∃ W1, W1 = w.alloc (.cells (tkC nilN nilN) 24) := ⟨_, rfl⟩
  have hs1 := Lib.hid (show W1.heap.size = w.heap.size + 1 by rw [hW1]; simp)
  have hS1 := Lib.hid (show Below w.heap.size w W1 by rw [hW1]; exact below_a _ _)
  have r1 := Lib.hid (show W1.heap[w.heap.size]? = some (.cells (tkC nilN nilN) 24 (0, 0)) by rw [hW1]; exact heap_alloc_new w _)
  have hL' := Lib.hid hL; have hA' := Lib.hid hA
  have hT := Lib.hid (twin_any L A (.slice la L.length lc) (.slice aa A.length ac) W1 (hL.mono hS1.out) (hA.mono hS1.out) h1 h2)
  clear h1 h2
  clear hL hA
  rcases Classical.em (OkT L A) with hO | hO
  case inr =>
    rw [new_no hO, new_no hO, chkT_no hO]
    have hcn := Lib.hid (chkT_no hO)
    go_enter Try.func12, Try.ntmps12
    go_upto_region 1 with fail
    rw [← hW1]
    clear hW1
    go_upto_region 2 with (first
      | (go_at_call 10; (with_reducible refine hT.out.mono ?_); rintro e8 w8 ⟨xv, yv, rfl, hTw, q8⟩; have hTw' := Lib.hid hTw; have q8' := Lib.hid q8; have one8 := Lib.hid (tk_one xv yv (own_one hTw.x) (own_one hTw.y)); have r2 := Lib.hid (rowK r1.out q8); clear hTw q8)
      | (refine storeNew _ rfl 24 _ _ rfl (tkC xv yv) 24 rfl rfl info_tk rfl one8.out ?_; intro W hrx hbx; have rx := Lib.hid hrx; have hbx' := Lib.hid hbx; clear hrx hbx))
    have hS := Lib.hid ((hS1.out.trans (q8'.out.mono hS1.out.size)).trans (hbx'.out.mono (Nat.le_trans hS1.out.size q8'.out.size)))
    have r0 := Lib.hid (rowK r2.out hbx'.out)
    have hLW := Lib.hid (hTw'.out.x.rd.mono hbx'.out); have hAW := Lib.hid (hTw'.out.y.rd.mono hbx'.out); have hox := Lib.hid (hTw'.out.x.kept hbx'.out); have hoy := Lib.hid (hTw'.out.y.kept hbx'.out)
    have h81 := Lib.hid (show w.heap.size + 1 ≤ w8.heap.size by rw [← hs1.out]; exact q8'.out.size)
    clear hbx' r1 r2 hS1 hL' hA' hTw' q8' hT
    have hX := Lib.hid (Below.refl W.heap.size W)
    have hrow := Lib.hid (fun (wz : World) (h : Below W.heap.size W wz) => rowB rx.out h (Array.getElem?_eq_some_iff.1 rx.out).1)
    have hres := Lib.hid (fun (wz : World) (h : Below W.heap.size W wz) => rowB r0.out h (Array.getElem?_eq_some_iff.1 r0.out).1)
    have hC0 := Lib.hid (fun (wz : World) (h : Below W.heap.size W wz) => rCheck_any L A xv yv wz (hLW.out.mono h) (hAW.out.mono h))
    rw [hcn.out] at hC0
    have hC := hC0
    clear hC0 hO hcn
    go_wp2_with (first
        | (refine wpList_load_row_g rfl 24 _ rfl w8.heap.size rfl 24 (tkC xv yv) (0, 0) _ (hrow.out _ hX.out) Try.underlying24 rfl info_tk ?_)
        | (go_at_call 22; (with_reducible refine (hC.out _ hX.out).mono ?_); rintro e9 w9 ⟨rfl, q9⟩; replace hX := Lib.hid (hX.out.trans (Below.mono q9 hX.out.size)); clear q9)
        | (refine wpList_store_row rfl 24 _ _ rfl w.heap.size (tkC nilN nilN) rfl rfl 24 _ (hres.out _ hX.out) info_tk rfl (tk_one _ _ rfl rfl) ?_))
    refine bodyPost_ret (results_row_tmp rfl _ _ w.heap.size 24 _ _ _ rfl (setRow_heap _ _ _ (tkC nilN nilN) _ _ (hres.out _ hX.out)) Try.underlying24 rfl info_tk) rfl ⟨_, _, rfl, RdN.nil _, RdN.nil _, below_setRow' (hS.out.trans (hX.out.mono hS.out.size)) (Nat.le_refl _) _⟩
  case inl =>
    have hbd := Lib.hid (show L.length ≤ 1000 ∧ A.length ≤ 1000 from by have a := hO.hi; have b := hO.na; omega)
    rw [new_ok hO, new_ok hO, chkT_ok hO]
    have hcn := Lib.hid (chkT_ok hO)
    go_enter Try.func12, Try.ntmps12
    go_upto_region 1 with fail
    rw [← hW1]
    clear hW1
    go_upto_region 2 with (first
      | (go_at_call 10; (with_reducible refine hT.out.mono ?_); rintro e8 w8 ⟨xv, yv, rfl, hTw, q8⟩; have hTw' := Lib.hid hTw; have q8' := Lib.hid q8; have one8 := Lib.hid (tk_one xv yv (own_one hTw.x) (own_one hTw.y)); have r2 := Lib.hid (rowK r1.out q8); clear hTw q8)
      | (refine storeNew _ rfl 24 _ _ rfl (tkC xv yv) 24 rfl rfl info_tk rfl one8.out ?_; intro W hrx hbx; have rx := Lib.hid hrx; have hbx' := Lib.hid hbx; clear hrx hbx))
    have hS := Lib.hid ((hS1.out.trans (q8'.out.mono hS1.out.size)).trans (hbx'.out.mono (Nat.le_trans hS1.out.size q8'.out.size)))
    have r0 := Lib.hid (rowK r2.out hbx'.out)
    have hLW := Lib.hid (hTw'.out.x.rd.mono hbx'.out); have hAW := Lib.hid (hTw'.out.y.rd.mono hbx'.out); have hox := Lib.hid (hTw'.out.x.kept hbx'.out); have hoy := Lib.hid (hTw'.out.y.kept hbx'.out)
    have h81 := Lib.hid (show w.heap.size + 1 ≤ w8.heap.size by rw [← hs1.out]; exact q8'.out.size)
    clear hbx' r1 r2 hS1 hL' hA' hTw' q8' hT
    have hX := Lib.hid (Below.refl W.heap.size W)
    have hrow := Lib.hid (fun (wz : World) (h : Below W.heap.size W wz) => rowB rx.out h (Array.getElem?_eq_some_iff.1 rx.out).1)
    have hres := Lib.hid (fun (wz : World) (h : Below W.heap.size W wz) => rowB r0.out h (Array.getElem?_eq_some_iff.1 r0.out).1)
    have hC0 := Lib.hid (fun (wz : World) (h : Below W.heap.size W wz) => rCheck_any L A xv yv wz (hLW.out.mono h) (hAW.out.mono h))
    rw [hcn.out] at hC0
    have hC := hC0
    clear hC0 hO
    have hlt := Lib.hid h81.out
    go_wp2_with (first
        | (refine wpList_load_row_g rfl 24 _ rfl w8.heap.size rfl 24 (tkC xv yv) (0, 0) _ (hrow.out _ hX.out) Try.underlying24 rfl info_tk ?_)
        | (go_at_call 22; (with_reducible refine (hC.out _ hX.out).mono ?_); rintro e9 w9 ⟨rfl, q9⟩; replace hX := Lib.hid (hX.out.trans (Below.mono q9 hX.out.size)); clear q9)
        | (refine wpList_store_row rfl 24 _ _ rfl w.heap.size (tkC xv yv) rfl rfl 24 _ (hres.out _ hX.out) info_tk rfl one8.out ?_))
    refine bodyPost_ret (results_row_tmp rfl _ _ w.heap.size 24 _ _ _ rfl (setRow_heap _ _ _ (tkC xv yv) _ _ (hres.out _ hX.out)) Try.underlying24 rfl info_tk) rfl ⟨_, _, rfl, ?_, ?_, below_setRow' (hS.out.trans (hX.out.mono hS.out.size)) (Nat.le_refl _) _⟩
    · exact (ownN_setRow (hox.out.kept hX.out) (by have := hs1.out; omega) _).rd
    · exact (ownN_setRow (hoy.out.kept hX.out) (by have := hs1.out; omega) _).rd
end Go.Proofs.Ytdebeimognikiaa.con
namespace Go.Proofs.Ytdebeimognikiaa.con
open Go.RowKit Go.Ytdebeimognikiaa
set_option linter.unusedVariables false
abbrev res3 (xv yv : Value) (b : Bool) (e : Int) : Ending := .returned (.tuple #[.agg (tkC xv yv), .bool b, .int .i64 e])
theorem gt_beq (z : Nat) : decide ((0 : Int) < (z : Int)) = decide (0 < z) := by rw [Bool.eq_iff_iff, decide_eq_true_iff, decide_eq_true_iff]; omega
set_option maxHeartbeats 4000000 in
set_option maxRecDepth 100000 in
theorem sPick_any (L A : List Int) (lv av : Value) (x : Int) (w : World) (hL : RdN w lv L) (hA : RdN w av A) :
    Calls Try.prog 15 #[.agg (tkC lv av), .int .i64 x] w fun e w' => ∃ xv yv, e = res3 xv yv (decide (0 < (runS L A [x]).length)) (pckE L A [x]) ∧ NewN w.heap.size w' xv (runR L A [x]) ∧ NewN w.heap.size w' yv (runA L A [x]) ∧ Below w.heap.size w w' := by
  obtain ⟨W, hW⟩ : ∃ W, W = (w.alloc (.cells (tkC lv av) 24)).alloc (.cells (tkC nilN nilN) 24) := ⟨_, rfl⟩
  have hS := Lib.hid (show Below w.heap.size w W by rw [hW]; exact ((Below.refl w.heap.size w).alloc (Nat.le_refl _) _).alloc (by simp) _)
  have r0 := Lib.hid (show W.heap[w.heap.size]? = some (.cells (tkC lv av) 24 (0, 0)) by rw [hW]; exact rowB (heap_alloc_new w _) (below_a _ _) (by simp))
  have r1 := Lib.hid (show W.heap[w.heap.size + 1]? = some (.cells (tkC nilN nilN) 24 (0, 0)) by rw [hW]; exact hn2 w _ _)
  have hsz := Lib.hid (show W.heap.size = w.heap.size + 2 by rw [hW]; simp)
  have hX := Lib.hid (Below.refl W.heap.size W)
  have hrow := Lib.hid (fun (wz : World) (h : Below W.heap.size W wz) => rowB r0.out h (Array.getElem?_eq_some_iff.1 r0.out).1)
  have hres := Lib.hid (fun (wz : World) (h : Below W.heap.size W wz) => rowB r1.out h (Array.getElem?_eq_some_iff.1 r1.out).1)
  have hR := Lib.hid (fun (wz : World) (h : Below W.heap.size W wz) (g c9 : Nat) (E : TypeId) (hg : wz.heap[g]? = some (.cells #[.int .i64 x] E (0, 0))) => sRun_any L A [x] lv av (.slice (some ⟨g, 0, none⟩) 1 1) wz (hL.mono (hS.out.trans (h.mono hS.out.size))) (hA.mono (hS.out.trans (h.mono hS.out.size))) (rdN_one hg (by decide) (by decide)))
  clear hL hA
  generalize runS L A [x] = S at *
  generalize runR L A [x] = R at *
  generalize runA L A [x] = B at *
  generalize pckE L A [x] = C at *
  go_enter Try.func15, Try.ntmps15
  go_upto_region 1 with fail
  rw [← hW]
  clear hW
  have hXa := Lib.hid (hX.out.trans (Below.mono (below_a W (.cells #[.int .i64 x] 3)) hX.out.size))
  have hR1 := Lib.hid (hR.out (W.alloc (.cells #[.int .i64 x] 3)) hXa.out W.heap.size 1 3 (heap_alloc_new W _))
  go_wp2_with (first
      | (refine wpList_load_row_g rfl 24 _ rfl w.heap.size rfl 24 (tkC lv av) (0, 0) _ (hrow.out _ hX.out) Try.underlying24 rfl info_tk ?_)
      | (go_at_call 19; (with_reducible refine hR1.out.mono ?_); rintro e9 w8 ⟨xv, yv, dv, rfl, q1, q2, q3, q4⟩; have hB9 := Lib.hid (hXa.out.trans (q4.mono hXa.out.size)); have n1 := Lib.hid (q1.mono hXa.out.size); have n2 := Lib.hid (q2.mono hXa.out.size); obtain ⟨da, dc, rfl⟩ := q3.slice; obtain ⟨xa, xc, rfl⟩ := q1.slice; obtain ⟨ya, yc, rfl⟩ := q2.slice; clear q1 q2 q3 q4)
      | (refine storeNew _ rfl 24 _ _ rfl (tkC (.slice xa _ xc) (.slice ya _ yc)) 24 rfl rfl info_tk rfl (tk_one _ _ rfl rfl) ?_; intro w5 hrx hbx; have rx := Lib.hid hrx; have hbx' := Lib.hid hbx; clear hrx hbx; have hB5 := Lib.hid (hB9.out.trans (hbx'.out.mono hB9.out.size)); have r5 := Lib.hid (hres.out _ hB5.out))
      | (refine wpList_load_row_g rfl 24 _ rfl w8.heap.size rfl 24 (tkC (.slice xa _ xc) (.slice ya _ yc)) (0, 0) _ rx.out Try.underlying24 rfl info_tk ?_)
      | (refine wpList_store_row rfl 24 _ _ rfl (w.heap.size + 1) (tkC (.slice xa _ xc) (.slice ya _ yc)) rfl rfl 24 _ r5.out info_tk rfl (tk_one _ _ rfl rfl) ?_))
  exact bodyPost_ret (results_row_tmp2 rfl _ _ (w.heap.size + 1) 24 _ _ _ rfl (setRow_heap _ _ _ (tkC (.slice xa _ xc) (.slice ya _ yc)) _ _ r5.out) Try.underlying24 rfl info_tk) rfl ⟨_, _, by rw [← gt_beq]; rfl, ((n1.out.below hbx'.out).setRow (by have := hsz.out; omega) _).mono hS.out.size, ((n2.out.below hbx'.out).setRow (by have := hsz.out; omega) _).mono hS.out.size, below_setRow' (hS.out.trans (hB5.out.mono hS.out.size)) (by omega) _⟩
set_option maxHeartbeats 4000000 in
set_option maxRecDepth 100000 in
theorem rPick_any (L A : List Int) (lv av : Value) (x : Int) (w : World) (hL : RdN w lv L) (hA : RdN w av A) :
    Calls Try.prog 16 #[.agg (tkC lv av), .int .i64 x] w fun e w' => ∃ xv yv, e = res3 xv yv (decide (0 < (runS L A [x]).length)) (pckE L A [x]) ∧ NewN w.heap.size w' xv (runR L A [x]) ∧ NewN w.heap.size w' yv (runA L A [x]) ∧ Below w.heap.size w w' := by
  obtain ⟨la, lc, rfl⟩ := hL.slice
  obtain ⟨W, hW⟩ : ∃ W, W = (w.alloc (.cells (tkC (.slice la L.length lc) av) 24)).alloc (.cells (tkC nilN nilN) 24) := ⟨_, rfl⟩
  have hS := Lib.hid (show Below w.heap.size w W by rw [hW]; exact ((Below.refl w.heap.size w).alloc (Nat.le_refl _) _).alloc (by simp) _)
  have r0 := Lib.hid (show W.heap[w.heap.size]? = some (.cells (tkC (.slice la L.length lc) av) 24 (0, 0)) by rw [hW]; exact rowB (heap_alloc_new w _) (below_a _ _) (by simp))
  have r1 := Lib.hid (show W.heap[w.heap.size + 1]? = some (.cells (tkC nilN nilN) 24 (0, 0)) by rw [hW]; exact hn2 w _ _)
  have hsz := Lib.hid (show W.heap.size = w.heap.size + 2 by rw [hW]; simp)
  have hX := Lib.hid (Below.refl W.heap.size W)
  have hrow := Lib.hid (fun (wz : World) (h : Below W.heap.size W wz) => rowB r0.out h (Array.getElem?_eq_some_iff.1 r0.out).1)
  have hres := Lib.hid (fun (wz : World) (h : Below W.heap.size W wz) => rowB r1.out h (Array.getElem?_eq_some_iff.1 r1.out).1)
  have hR := Lib.hid (fun (wz : World) (h : Below W.heap.size W wz) (g c9 : Nat) (E : TypeId) (hg : wz.heap[g]? = some (.cells #[.int .i64 x] E (0, 0))) => rRun_any L A [x] (.slice la L.length lc) av (.slice (some ⟨g, 0, none⟩) 1 1) wz (hL.mono (hS.out.trans (h.mono hS.out.size))) (hA.mono (hS.out.trans (h.mono hS.out.size))) (rdN_one hg (by decide) (by decide)))
  have hC0 := Lib.hid (fun (wz : World) (h : Below W.heap.size W wz) => rCheck_any L A (.slice la L.length lc) av wz (hL.mono (hS.out.trans (h.mono hS.out.size))) (hA.mono (hS.out.trans (h.mono hS.out.size))))
  clear hL hA
  have f1 := Lib.hid (show ¬ OkT L A → pckE L A [x] = 8 ∧ chkT L A = 8 from fun h => ⟨pckE_bad h, chkT_no h⟩)
  have f2 := Lib.hid (show OkT L A → chkT L A = 0 from fun h => chkT_ok h)
  have f3 := Lib.hid (show OkT L A → ¬ (0 ≤ x ∧ x < (L.length : Int)) → pckE L A [x] = 2 from fun h hx => pckE_arg h (by simp) 0 (by simp) hx)
  have f4 := Lib.hid (show OkT L A → (0 ≤ x ∧ x < (L.length : Int)) → pckE L A [x] = 0 from fun h hx => pckE_ok h (by simp) (fun i hi => by
    obtain rfl : i = 0 := by simpa using hi
    exact hx))
  have f5 := Lib.hid (show pckE L A [x] ≠ 0 → runR L A [x] = [] ∧ runA L A [x] = [] ∧ runS L A [x] = [] from fun h => run_no h)
  generalize runS L A [x] = S at *
  generalize runR L A [x] = R at *
  generalize runA L A [x] = B at *
  generalize pckE L A [x] = C at *
  generalize chkT L A = D at *
  generalize L.length = n at *
  have hX0 := hX
  clear hX
  rcases Classical.em (OkT L A) with hO | hO
  case inr =>
    obtain ⟨rfl, rfl⟩ := f1.out hO
    obtain ⟨rfl, rfl, rfl⟩ := f5.out (by decide)
    have hC := hC0; have hX := hX0
    clear hC0 hX0 hO f1 f2 f3 f4 f5 hR
    go_enter Try.func16, Try.ntmps16
    go_upto_region 1 with fail
    rw [← hW]
    clear hW
    go_wp2_with (first
        | (refine wpList_load_row_g rfl 24 _ rfl w.heap.size rfl 24 (tkC (.slice la n lc) av) (0, 0) _ (hrow.out _ hX.out) Try.underlying24 rfl info_tk ?_)
        | (go_at_call 22; (with_reducible refine (hC.out _ hX.out).mono ?_); rintro e9 w9 ⟨rfl, q9⟩; replace hX := Lib.hid (hX.out.trans (Below.mono q9 hX.out.size)); clear q9)
        | (refine wpList_store_row rfl 24 _ _ rfl (w.heap.size + 1) (tkC nilN nilN) rfl rfl 24 _ (hres.out _ hX.out) info_tk rfl (tk_one _ _ rfl rfl) ?_))
    exact bodyPost_ret (results_row_tmp2 rfl _ _ (w.heap.size + 1) 24 _ _ _ rfl (setRow_heap _ _ _ (tkC nilN nilN) _ _ (hres.out _ hX.out)) Try.underlying24 rfl info_tk) rfl ⟨_, _, rfl, NewN.nil _ _, NewN.nil _ _, below_setRow' (hS.out.trans (hX.out.mono hS.out.size)) (by omega) _⟩
  case inl =>
    obtain rfl := f2.out hO
    have hC := hC0; have hX := hX0
    by_cases g1 : x < 0
    · obtain rfl := f3.out hO (by omega)
      obtain ⟨rfl, rfl, rfl⟩ := f5.out (by decide)
      clear hC0 hX0 hO f1 f2 f3 f4 f5 hR
      go_enter Try.func16, Try.ntmps16
      go_upto_region 1 with fail
      rw [← hW]
      clear hW
      go_wp2_with (first
          | (refine wpList_load_row_g rfl 24 _ rfl w.heap.size rfl 24 (tkC (.slice la n lc) av) (0, 0) _ (hrow.out _ hX.out) Try.underlying24 rfl info_tk ?_)
          | (go_at_call 22; (with_reducible refine (hC.out _ hX.out).mono ?_); rintro e9 w9 ⟨rfl, q9⟩; replace hX := Lib.hid (hX.out.trans (Below.mono q9 hX.out.size)); clear q9)
          | (refine wpList_store_row rfl 24 _ _ rfl (w.heap.size + 1) (tkC nilN nilN) rfl rfl 24 _ (hres.out _ hX.out) info_tk rfl (tk_one _ _ rfl rfl) ?_))
      exact bodyPost_ret (results_row_tmp2 rfl _ _ (w.heap.size + 1) 24 _ _ _ rfl (setRow_heap _ _ _ (tkC nilN nilN) _ _ (hres.out _ hX.out)) Try.underlying24 rfl info_tk) rfl ⟨_, _, rfl, NewN.nil _ _, NewN.nil _ _, below_setRow' (hS.out.trans (hX.out.mono hS.out.size)) (by omega) _⟩
    by_cases g2 : (n : Int) ≤ x
    · obtain rfl := f3.out hO (by omega)
      obtain ⟨rfl, rfl, rfl⟩ := f5.out (by decide)
      clear hC0 hX0 hO f1 f2 f3 f4 f5 hR
      have g1' : decide (x < 0) = false := decide_eq_false g1
      go_enter Try.func16, Try.ntmps16
      go_upto_region 1 with fail
      rw [← hW]
      clear hW
      go_wp2_with (first
          | (refine wpList_load_row_g rfl 24 _ rfl w.heap.size rfl 24 (tkC (.slice la n lc) av) (0, 0) _ (hrow.out _ hX.out) Try.underlying24 rfl info_tk ?_)
          | (go_at_call 22; (with_reducible refine (hC.out _ hX.out).mono ?_); rintro e9 w9 ⟨rfl, q9⟩; replace hX := Lib.hid (hX.out.trans (Below.mono q9 hX.out.size)); have c0 : w9.cell? ⟨w.heap.size, 0, none⟩ = some (.slice la n lc) := (by rw [cell_of_row _ _ _ _ _ _ (hrow.out _ hX.out)]; rfl); clear q9)
          | (refine wpList_store_row rfl 24 _ _ rfl (w.heap.size + 1) (tkC nilN nilN) rfl rfl 24 _ (hres.out _ hX.out) info_tk rfl (tk_one _ _ rfl rfl) ?_))
      exact bodyPost_ret (results_row_tmp2 rfl _ _ (w.heap.size + 1) 24 _ _ _ rfl (setRow_heap _ _ _ (tkC nilN nilN) _ _ (hres.out _ hX.out)) Try.underlying24 rfl info_tk) rfl ⟨_, _, rfl, NewN.nil _ _, NewN.nil _ _, below_setRow' (hS.out.trans (hX.out.mono hS.out.size)) (by omega) _⟩
    obtain rfl := f4.out hO (by omega)
    have g1' : decide (x < 0) = false := decide_eq_false g1
    have g2' : decide ((n : Int) ≤ x) = false := decide_eq_false g2
    clear hC0 hX0 hO f1 f2 f3 f4 f5
    go_enter Try.func16, Try.ntmps16
    go_upto_region 1 with fail
    rw [← hW]
    clear hW
    go_upto_region 5 with (first
        | (refine wpList_load_row_g rfl 24 _ rfl w.heap.size rfl 24 (tkC (.slice la n lc) av) (0, 0) _ (hrow.out _ hX.out) Try.underlying24 rfl info_tk ?_)
        | (go_at_call 22; (with_reducible refine (hC.out _ hX.out).mono ?_); rintro e9 w9 ⟨rfl, q9⟩; replace hX := Lib.hid (hX.out.trans (Below.mono q9 hX.out.size)); have c0 : w9.cell? ⟨w.heap.size, 0, none⟩ = some (.slice la n lc) := (by rw [cell_of_row _ _ _ _ _ _ (hrow.out _ hX.out)]; rfl); clear q9))
    clear c0 g1' g2' g1 g2 hC
    have hXa := Lib.hid (hX.out.trans (Below.mono (below_a w9 (.cells #[.int .i64 x] 3)) hX.out.size))
    have hR1 := Lib.hid (hR.out (w9.alloc (.cells #[.int .i64 x] 3)) hXa.out w9.heap.size 1 3 (heap_alloc_new w9 _))
    go_wp2_with (first
        | (refine wpList_load_row_g rfl 24 _ rfl w.heap.size rfl 24 (tkC (.slice la n lc) av) (0, 0) _ (hrow.out _ hX.out) Try.underlying24 rfl info_tk ?_)
        | (go_at_call 20; (with_reducible refine hR1.out.mono ?_); rintro e9 w8 ⟨xv, yv, dv, rfl, q1, q2, q3, q4⟩; have hB9 := Lib.hid (hXa.out.trans (q4.mono hXa.out.size)); have n1 := Lib.hid (q1.mono hXa.out.size); have n2 := Lib.hid (q2.mono hXa.out.size); obtain ⟨da, dc, rfl⟩ := q3.slice; obtain ⟨xa, xc, rfl⟩ := q1.slice; obtain ⟨ya, yc, rfl⟩ := q2.slice; clear q1 q2 q3 q4)
        | (refine storeNew _ rfl 24 _ _ rfl (tkC (.slice xa _ xc) (.slice ya _ yc)) 24 rfl rfl info_tk rfl (tk_one _ _ rfl rfl) ?_; intro w5 hrx hbx; have rx := Lib.hid hrx; have hbx' := Lib.hid hbx; clear hrx hbx; have hB5 := Lib.hid (hB9.out.trans (hbx'.out.mono hB9.out.size)); have r5 := Lib.hid (hres.out _ hB5.out))
        | (refine wpList_load_row_g rfl 24 _ rfl w8.heap.size rfl 24 (tkC (.slice xa _ xc) (.slice ya _ yc)) (0, 0) _ rx.out Try.underlying24 rfl info_tk ?_)
        | (refine wpList_store_row rfl 24 _ _ rfl (w.heap.size + 1) (tkC (.slice xa _ xc) (.slice ya _ yc)) rfl rfl 24 _ r5.out info_tk rfl (tk_one _ _ rfl rfl) ?_))
    exact bodyPost_ret (results_row_tmp2 rfl _ _ (w.heap.size + 1) 24 _ _ _ rfl (setRow_heap _ _ _ (tkC (.slice xa _ xc) (.slice ya _ yc)) _ _ r5.out) Try.underlying24 rfl info_tk) rfl ⟨_, _, by rw [← gt_beq]; rfl, ((n1.out.below hbx'.out).setRow (by have := hsz.out; omega) _).mono hS.out.size, ((n2.out.below hbx'.out).setRow (by have := hsz.out; omega) _).mono hS.out.size, below_setRow' (hS.out.trans (hB5.out.mono hS.out.size)) (by omega) _⟩
end Go.Proofs.Ytdebeimognikiaa.con
namespace Go.Proofs.Ytdebeimognikiaa.con
open Go.RowKit Go.Ytdebeimognikiaa
set_option linter.unusedVariables false
theorem tk_cell0 {w : World} {g : Nat} {a b : Value} {T : TypeId} (h : w.heap[g]? = some (.cells (tkC a b) T (0, 0))) : w.cell? ⟨g, 0, none⟩ = some a := by rw [cell_of_row _ _ _ _ _ _ h]; rfl
theorem tk_cell1 {w : World} {g : Nat} {a b : Value} {T : TypeId} (h : w.heap[g]? = some (.cells (tkC a b) T (0, 0))) : w.cell? ⟨g, 1, none⟩ = some b := by rw [cell_of_row _ _ _ _ _ _ h]; rfl
set_option maxHeartbeats 4000000 in
set_option maxRecDepth 100000 in
theorem schedRuns_law (L A Q : List Int) (lv av pv : Value) (x : Int) (w : World) (hL : RdN w lv L) (hA : RdN w av A) (hQ : RdN w pv Q) :
    Calls Try.prog 3 #[.agg (tkC lv av), pv, .int .i64 x] w fun e w' => e = .returned (.bool true) ∧ Below w.heap.size w w' := by
  have f1 := hQ.fit
  obtain ⟨pa, pc, rfl⟩ := hQ.slice
  obtain ⟨m, hm⟩ : ∃ m, Q.length = m := ⟨_, rfl⟩
  rw [hm] at hQ f1 ⊢
  obtain ⟨W, hW⟩ : ∃ W, W = w.alloc (.cells (tkC lv av) 24) := ⟨_, rfl⟩
  have hS := Lib.hid (show Below w.heap.size w W by rw [hW]; exact below_a _ _)
  have r0 := Lib.hid (show W.heap[w.heap.size]? = some (.cells (tkC lv av) 24 (0, 0)) by rw [hW]; exact heap_alloc_new w _)
  have hsz := Lib.hid (show W.heap.size = w.heap.size + 1 by rw [hW]; simp)
  have hX := Lib.hid (Below.refl W.heap.size W)
  have hrow := Lib.hid (fun (wz : World) (h : Below W.heap.size W wz) => rowB r0.out h (Array.getElem?_eq_some_iff.1 r0.out).1)
  have kL := Lib.hid (fun (wz : World) (h : Below W.heap.size W wz) => hL.mono (hS.out.trans (h.mono hS.out.size)))
  have kA := Lib.hid (fun (wz : World) (h : Below W.heap.size W wz) => hA.mono (hS.out.trans (h.mono hS.out.size)))
  have kQ := Lib.hid (fun (wz : World) (h : Below W.heap.size W wz) => hQ.mono (hS.out.trans (h.mono hS.out.size)))
  have cG := Lib.hid (fun wz h => great_any L A lv av wz (kL.out wz h) (kA.out wz h))
  have hbig := Lib.hid (show (decide (100 < L.length) || decide (100 < A.length)) = false → L.length ≤ 1000 ∧ A.length ≤ 1000 from fun h => by
    rw [Bool.or_eq_false_iff, decide_eq_false_iff_not, decide_eq_false_iff_not] at h
    omega)
  have hLA := Lib.hid (fun wz h => And.intro (kL.out wz h) (kA.out wz h))
  have t1 := Lib.hid (fun wz h h1 h2 => twin_any L A lv av wz (kL.out wz h) (kA.out wz h) h1 h2)
  have t2 := Lib.hid (fun wz h h1 h2 => rNew_any L A lv av wz (kL.out wz h) (kA.out wz h) h1 h2)
  have t3 := Lib.hid (fun xv yv wz h1 h2 => sNew_any L A xv yv wz h1 h2)
  have t4 := Lib.hid (fun xv yv wz h1 h2 => sRunnable_all L A xv yv wz h1 h2)
  have t5 := Lib.hid (fun wz h => rRunnable_all L A lv av wz (kL.out wz h) (kA.out wz h))
  have t6 := Lib.hid (fun xv yv wz h1 h2 => sPick_any L A xv yv x wz h1 h2)
  have t7 := Lib.hid (fun wz h => rPick_any L A lv av x wz (kL.out wz h) (kA.out wz h))
  have t8 := Lib.hid (fun xv yv wz h h1 h2 => sRun_any L A Q xv yv (.slice pa m pc) wz h1 h2 (kQ.out wz h))
  have t9 := Lib.hid (fun wz h => rRun_any L A Q lv av (.slice pa m pc) wz (kL.out wz h) (kA.out wz h) (kQ.out wz h))
  have t10 := Lib.hid (fun xv yv wz h1 h2 => sCheck_any L A xv yv wz h1 h2)
  have t11 := Lib.hid (fun wz h => rCheck_any L A lv av wz (kL.out wz h) (kA.out wz h))
  have s1 := Lib.hid (fun (l : List Int) v u wz h1 h2 => sameInts_any l l v u wz h1 h2)
  have s2 := Lib.hid (fun (l k : List Int) a b c d wz h1 h2 h3 h4 => sameT_any l k l k a b c d wz h1 h2 h3 h4)
  clear hL hA hQ hm kL kA kQ
  generalize newR L A L = NL at *
  generalize newR L A A = NA at *
  generalize chkT L A = E1 at *
  generalize allR L A = AR at *
  generalize runS L A [x] = S1 at *
  generalize runR L A [x] = R1 at *
  generalize runA L A [x] = A1 at *
  generalize pckE L A [x] = E2 at *
  generalize runS L A Q = S2 at *
  generalize runR L A Q = R2 at *
  generalize runA L A Q = A2 at *
  generalize pckE L A Q = E3 at *
  generalize (decide (100 < L.length) || decide (100 < A.length)) = G at *
  cases G with
  | true =>
    go_enter Try.func3, Try.ntmps3
    go_upto_region 1 with fail
    rw [← hW]
    clear hW
    go_wp2_with (first
        | (refine wpList_load_row_g rfl 24 _ rfl w.heap.size rfl 24 (tkC lv av) (0, 0) _ (hrow.out _ hX.out) Try.underlying24 rfl info_tk ?_)
        | (go_at_call 9; (with_reducible refine (cG.out _ hX.out).mono ?_); rintro e9 w9 ⟨rfl, q9⟩; replace hX := Lib.hid (hX.out.trans (Below.mono q9 hX.out.size)); clear q9))
    go_ret
    exact ⟨rfl, hS.out.trans (hX.out.mono hS.out.size)⟩
  | false =>
    by_cases h4 : 400 < m
    · have h4I : (400 : Int) < (m : Int) := by omega
      go_enter Try.func3, Try.ntmps3
      go_upto_region 1 with fail
      rw [← hW]
      clear hW
      go_wp2_with (first
          | (refine wpList_load_row_g rfl 24 _ rfl w.heap.size rfl 24 (tkC lv av) (0, 0) _ (hrow.out _ hX.out) Try.underlying24 rfl info_tk ?_)
          | (go_at_call 9; (with_reducible refine (cG.out _ hX.out).mono ?_); rintro e9 w9 ⟨rfl, q9⟩; replace hX := Lib.hid (hX.out.trans (Below.mono q9 hX.out.size)); clear q9))
      go_ret
      exact ⟨rfl, hS.out.trans (hX.out.mono hS.out.size)⟩
    have h4I : ¬ (400 : Int) < (m : Int) := by omega
    have hb0 := Lib.hid (hbig.out rfl)
    have u1 := Lib.hid (fun wz h => t1.out wz h hb0.out.1 hb0.out.2)
    have u2 := Lib.hid (fun wz h => t2.out wz h hb0.out.1 hb0.out.2)
    clear t1 t2 hb0 hbig
    go_enter Try.func3, Try.ntmps3
    go_upto_region 1 with fail
    rw [← hW]
    clear hW
    go_upto_region 4 with (first
        | (refine wpList_load_row_g rfl 24 _ rfl w.heap.size rfl 24 (tkC lv av) (0, 0) _ (hrow.out _ hX.out) Try.underlying24 rfl info_tk ?_)
        | (go_at_call 9; (with_reducible refine (cG.out _ hX.out).mono ?_); rintro e9 w9 ⟨rfl, q9⟩; replace hX := Lib.hid (hX.out.trans (Below.mono q9 hX.out.size)); clear q9)
        | (go_at_call 10; (with_reducible refine (u1.out _ hX.out).mono ?_); rintro e9 w9 ⟨xv, yv, rfl, hTw, q9⟩; have hb9 := Lib.hid hX.out.size; replace hX := Lib.hid (hX.out.trans (Below.mono q9 hX.out.size)); (try replace w7 := Lib.hid (rowK w7.out q9)); (try replace w8r := Lib.hid (rowK w8r.out q9)); (try replace w10 := Lib.hid (rowK w10.out q9)); (try replace w16 := Lib.hid (rowK w16.out q9)); (try replace w19 := Lib.hid (rowK w19.out q9)); (try replace w22 := Lib.hid (rowK w22.out q9)); (try replace w25 := Lib.hid (rowK w25.out q9)); (try replace o1 := Lib.hid (o1.out.mono q9)); (try replace o2 := Lib.hid (o2.out.mono q9)); (try replace a1 := Lib.hid (a1.out.mono q9)); (try replace a2 := Lib.hid (a2.out.mono q9)); (try replace b1 := Lib.hid (b1.out.mono q9)); (try replace b2 := Lib.hid (b2.out.mono q9)); (try replace l1 := Lib.hid (l1.out.mono q9)); (try replace l2 := Lib.hid (l2.out.mono q9)); (try replace c1 := Lib.hid (c1.out.mono q9)); (try replace c2 := Lib.hid (c2.out.mono q9)); (try replace d1 := Lib.hid (d1.out.mono q9)); (try replace d2 := Lib.hid (d2.out.mono q9)); (try replace x1 := Lib.hid (x1.out.mono q9)); (try replace x2 := Lib.hid (x2.out.mono q9)); (try replace x3 := Lib.hid (x3.out.mono q9)); (try replace y1 := Lib.hid (y1.out.mono q9)); (try replace y2 := Lib.hid (y2.out.mono q9)); (try replace y3 := Lib.hid (y3.out.mono q9)); have o1 := Lib.hid hTw.x.rd; have o2 := Lib.hid hTw.y.rd; obtain ⟨xa7, xc7, rfl⟩ := hTw.x.slice; obtain ⟨ya7, yc7, rfl⟩ := hTw.y.slice; have g7 := Lib.hid (Eq.refl w9.heap.size); clear hTw; clear q9)
        | (refine storeNew _ rfl 24 _ _ rfl (tkC (.slice xa7 _ xc7) (.slice ya7 _ yc7)) 24 rfl rfl info_tk rfl (tk_one _ _ rfl rfl) ?_; intro w5 hrx hbx; have hb9 := Lib.hid hX.out.size; replace hX := Lib.hid (hX.out.trans (Below.mono hbx hX.out.size)); (try replace w7 := Lib.hid (rowK w7.out hbx)); (try replace w8r := Lib.hid (rowK w8r.out hbx)); (try replace w10 := Lib.hid (rowK w10.out hbx)); (try replace w16 := Lib.hid (rowK w16.out hbx)); (try replace w19 := Lib.hid (rowK w19.out hbx)); (try replace w22 := Lib.hid (rowK w22.out hbx)); (try replace w25 := Lib.hid (rowK w25.out hbx)); (try replace o1 := Lib.hid (o1.out.mono hbx)); (try replace o2 := Lib.hid (o2.out.mono hbx)); (try replace a1 := Lib.hid (a1.out.mono hbx)); (try replace a2 := Lib.hid (a2.out.mono hbx)); (try replace b1 := Lib.hid (b1.out.mono hbx)); (try replace b2 := Lib.hid (b2.out.mono hbx)); (try replace l1 := Lib.hid (l1.out.mono hbx)); (try replace l2 := Lib.hid (l2.out.mono hbx)); (try replace c1 := Lib.hid (c1.out.mono hbx)); (try replace c2 := Lib.hid (c2.out.mono hbx)); (try replace d1 := Lib.hid (d1.out.mono hbx)); (try replace d2 := Lib.hid (d2.out.mono hbx)); (try replace x1 := Lib.hid (x1.out.mono hbx)); (try replace x2 := Lib.hid (x2.out.mono hbx)); (try replace x3 := Lib.hid (x3.out.mono hbx)); (try replace y1 := Lib.hid (y1.out.mono hbx)); (try replace y2 := Lib.hid (y2.out.mono hbx)); (try replace y3 := Lib.hid (y3.out.mono hbx)); have w7 := Lib.hid hrx; (try have c30 := tk_cell0 (hrow.out _ hX.out)); (try have c31 := tk_cell1 (hrow.out _ hX.out)); (try have c70 := tk_cell0 w7.out); (try have c71 := tk_cell1 w7.out); clear hrx hbx))
    have hb7 := Lib.hid (Array.getElem?_eq_some_iff.1 w7.out).1
    obtain ⟨g7, hg7⟩ : ∃ g, g = w9.heap.size := ⟨_, rfl⟩
    rw [← hg7] at w7 c70 c71 ⊢
    clear hg7 u1
    go_upto_region 5 with (first
        | (go_at_call 11; (with_reducible refine (t3.out _ _ _ o1.out o2.out).mono ?_); rintro e9 w9 ⟨xv, yv, rfl, q1, q2, q9⟩; have hb9 := Lib.hid hX.out.size; replace hX := Lib.hid (hX.out.trans (Below.mono q9 hX.out.size)); (try replace w7 := Lib.hid (rowK w7.out q9)); (try replace w8r := Lib.hid (rowK w8r.out q9)); (try replace w10 := Lib.hid (rowK w10.out q9)); (try replace w16 := Lib.hid (rowK w16.out q9)); (try replace w19 := Lib.hid (rowK w19.out q9)); (try replace w22 := Lib.hid (rowK w22.out q9)); (try replace w25 := Lib.hid (rowK w25.out q9)); (try replace o1 := Lib.hid (o1.out.mono q9)); (try replace o2 := Lib.hid (o2.out.mono q9)); (try replace a1 := Lib.hid (a1.out.mono q9)); (try replace a2 := Lib.hid (a2.out.mono q9)); (try replace b1 := Lib.hid (b1.out.mono q9)); (try replace b2 := Lib.hid (b2.out.mono q9)); (try replace l1 := Lib.hid (l1.out.mono q9)); (try replace l2 := Lib.hid (l2.out.mono q9)); (try replace c1 := Lib.hid (c1.out.mono q9)); (try replace c2 := Lib.hid (c2.out.mono q9)); (try replace d1 := Lib.hid (d1.out.mono q9)); (try replace d2 := Lib.hid (d2.out.mono q9)); (try replace x1 := Lib.hid (x1.out.mono q9)); (try replace x2 := Lib.hid (x2.out.mono q9)); (try replace x3 := Lib.hid (x3.out.mono q9)); (try replace y1 := Lib.hid (y1.out.mono q9)); (try replace y2 := Lib.hid (y2.out.mono q9)); (try replace y3 := Lib.hid (y3.out.mono q9)); have a1 := Lib.hid q1; have a2 := Lib.hid q2; obtain ⟨xa8, xc8, rfl⟩ := q1.slice; obtain ⟨ya8, yc8, rfl⟩ := q2.slice; clear q1 q2 c30 c31 c70 c71; clear q9)
        | (refine storeNew _ rfl 24 _ _ rfl (tkC (.slice xa8 _ xc8) (.slice ya8 _ yc8)) 24 rfl rfl info_tk rfl (tk_one _ _ rfl rfl) ?_; intro w5 hrx hbx; have hb9 := Lib.hid hX.out.size; replace hX := Lib.hid (hX.out.trans (Below.mono hbx hX.out.size)); (try replace w7 := Lib.hid (rowK w7.out hbx)); (try replace w8r := Lib.hid (rowK w8r.out hbx)); (try replace w10 := Lib.hid (rowK w10.out hbx)); (try replace w16 := Lib.hid (rowK w16.out hbx)); (try replace w19 := Lib.hid (rowK w19.out hbx)); (try replace w22 := Lib.hid (rowK w22.out hbx)); (try replace w25 := Lib.hid (rowK w25.out hbx)); (try replace o1 := Lib.hid (o1.out.mono hbx)); (try replace o2 := Lib.hid (o2.out.mono hbx)); (try replace a1 := Lib.hid (a1.out.mono hbx)); (try replace a2 := Lib.hid (a2.out.mono hbx)); (try replace b1 := Lib.hid (b1.out.mono hbx)); (try replace b2 := Lib.hid (b2.out.mono hbx)); (try replace l1 := Lib.hid (l1.out.mono hbx)); (try replace l2 := Lib.hid (l2.out.mono hbx)); (try replace c1 := Lib.hid (c1.out.mono hbx)); (try replace c2 := Lib.hid (c2.out.mono hbx)); (try replace d1 := Lib.hid (d1.out.mono hbx)); (try replace d2 := Lib.hid (d2.out.mono hbx)); (try replace x1 := Lib.hid (x1.out.mono hbx)); (try replace x2 := Lib.hid (x2.out.mono hbx)); (try replace x3 := Lib.hid (x3.out.mono hbx)); (try replace y1 := Lib.hid (y1.out.mono hbx)); (try replace y2 := Lib.hid (y2.out.mono hbx)); (try replace y3 := Lib.hid (y3.out.mono hbx)); have w8r := Lib.hid hrx; (try have c30 := tk_cell0 (hrow.out _ hX.out)); (try have c31 := tk_cell1 (hrow.out _ hX.out)); (try have c70 := tk_cell0 w7.out); (try have c71 := tk_cell1 w7.out); clear hrx hbx))
    obtain ⟨g8, hg8⟩ : ∃ g, g = w9.heap.size := ⟨_, rfl⟩
    rw [← hg8] at w8r ⊢
    clear hg8
    go_upto_region 6 with (first
        | (go_at_call 12; (with_reducible refine (u2.out _ hX.out).mono ?_); rintro e9 w9 ⟨xv, yv, rfl, q1, q2, q9⟩; have hb9 := Lib.hid hX.out.size; replace hX := Lib.hid (hX.out.trans (Below.mono q9 hX.out.size)); (try replace w7 := Lib.hid (rowK w7.out q9)); (try replace w8r := Lib.hid (rowK w8r.out q9)); (try replace w10 := Lib.hid (rowK w10.out q9)); (try replace w16 := Lib.hid (rowK w16.out q9)); (try replace w19 := Lib.hid (rowK w19.out q9)); (try replace w22 := Lib.hid (rowK w22.out q9)); (try replace w25 := Lib.hid (rowK w25.out q9)); (try replace o1 := Lib.hid (o1.out.mono q9)); (try replace o2 := Lib.hid (o2.out.mono q9)); (try replace a1 := Lib.hid (a1.out.mono q9)); (try replace a2 := Lib.hid (a2.out.mono q9)); (try replace b1 := Lib.hid (b1.out.mono q9)); (try replace b2 := Lib.hid (b2.out.mono q9)); (try replace l1 := Lib.hid (l1.out.mono q9)); (try replace l2 := Lib.hid (l2.out.mono q9)); (try replace c1 := Lib.hid (c1.out.mono q9)); (try replace c2 := Lib.hid (c2.out.mono q9)); (try replace d1 := Lib.hid (d1.out.mono q9)); (try replace d2 := Lib.hid (d2.out.mono q9)); (try replace x1 := Lib.hid (x1.out.mono q9)); (try replace x2 := Lib.hid (x2.out.mono q9)); (try replace x3 := Lib.hid (x3.out.mono q9)); (try replace y1 := Lib.hid (y1.out.mono q9)); (try replace y2 := Lib.hid (y2.out.mono q9)); (try replace y3 := Lib.hid (y3.out.mono q9)); have b1 := Lib.hid q1; have b2 := Lib.hid q2; obtain ⟨xa10, xc10, rfl⟩ := q1.slice; obtain ⟨ya10, yc10, rfl⟩ := q2.slice; clear q1 q2 c30 c31 c70 c71; clear q9)
        | (refine storeNew _ rfl 24 _ _ rfl (tkC (.slice xa10 _ xc10) (.slice ya10 _ yc10)) 24 rfl rfl info_tk rfl (tk_one _ _ rfl rfl) ?_; intro w5 hrx hbx; have hb9 := Lib.hid hX.out.size; replace hX := Lib.hid (hX.out.trans (Below.mono hbx hX.out.size)); (try replace w7 := Lib.hid (rowK w7.out hbx)); (try replace w8r := Lib.hid (rowK w8r.out hbx)); (try replace w10 := Lib.hid (rowK w10.out hbx)); (try replace w16 := Lib.hid (rowK w16.out hbx)); (try replace w19 := Lib.hid (rowK w19.out hbx)); (try replace w22 := Lib.hid (rowK w22.out hbx)); (try replace w25 := Lib.hid (rowK w25.out hbx)); (try replace o1 := Lib.hid (o1.out.mono hbx)); (try replace o2 := Lib.hid (o2.out.mono hbx)); (try replace a1 := Lib.hid (a1.out.mono hbx)); (try replace a2 := Lib.hid (a2.out.mono hbx)); (try replace b1 := Lib.hid (b1.out.mono hbx)); (try replace b2 := Lib.hid (b2.out.mono hbx)); (try replace l1 := Lib.hid (l1.out.mono hbx)); (try replace l2 := Lib.hid (l2.out.mono hbx)); (try replace c1 := Lib.hid (c1.out.mono hbx)); (try replace c2 := Lib.hid (c2.out.mono hbx)); (try replace d1 := Lib.hid (d1.out.mono hbx)); (try replace d2 := Lib.hid (d2.out.mono hbx)); (try replace x1 := Lib.hid (x1.out.mono hbx)); (try replace x2 := Lib.hid (x2.out.mono hbx)); (try replace x3 := Lib.hid (x3.out.mono hbx)); (try replace y1 := Lib.hid (y1.out.mono hbx)); (try replace y2 := Lib.hid (y2.out.mono hbx)); (try replace y3 := Lib.hid (y3.out.mono hbx)); have w10 := Lib.hid hrx; skip; clear hrx hbx))
    obtain ⟨g10, hg10⟩ : ∃ g, g = w9.heap.size := ⟨_, rfl⟩
    rw [← hg10] at w10 ⊢
    clear hg10 u2
    go_upto_region 8 with (first
        | (refine wpList_load_row_g rfl 24 _ rfl w.heap.size rfl 24 (tkC lv av) (0, 0) _ (hrow.out _ hX.out) Try.underlying24 rfl info_tk ?_)
        | (refine wpList_load_row_g rfl 24 _ rfl g7 rfl 24 (tkC (.slice xa7 L.length xc7) (.slice ya7 A.length yc7)) (0, 0) _ w7.out Try.underlying24 rfl info_tk ?_)
        | (go_at_call 13; (with_reducible refine (t4.out _ _ _ o1.out o2.out).mono ?_); rintro e9 w9 ⟨v, rfl, q1, q9⟩; have hb9 := Lib.hid hX.out.size; replace hX := Lib.hid (hX.out.trans (Below.mono q9 hX.out.size)); (try replace w7 := Lib.hid (rowK w7.out q9)); (try replace w8r := Lib.hid (rowK w8r.out q9)); (try replace w10 := Lib.hid (rowK w10.out q9)); (try replace w16 := Lib.hid (rowK w16.out q9)); (try replace w19 := Lib.hid (rowK w19.out q9)); (try replace w22 := Lib.hid (rowK w22.out q9)); (try replace w25 := Lib.hid (rowK w25.out q9)); (try replace o1 := Lib.hid (o1.out.mono q9)); (try replace o2 := Lib.hid (o2.out.mono q9)); (try replace a1 := Lib.hid (a1.out.mono q9)); (try replace a2 := Lib.hid (a2.out.mono q9)); (try replace b1 := Lib.hid (b1.out.mono q9)); (try replace b2 := Lib.hid (b2.out.mono q9)); (try replace l1 := Lib.hid (l1.out.mono q9)); (try replace l2 := Lib.hid (l2.out.mono q9)); (try replace c1 := Lib.hid (c1.out.mono q9)); (try replace c2 := Lib.hid (c2.out.mono q9)); (try replace d1 := Lib.hid (d1.out.mono q9)); (try replace d2 := Lib.hid (d2.out.mono q9)); (try replace x1 := Lib.hid (x1.out.mono q9)); (try replace x2 := Lib.hid (x2.out.mono q9)); (try replace x3 := Lib.hid (x3.out.mono q9)); (try replace y1 := Lib.hid (y1.out.mono q9)); (try replace y2 := Lib.hid (y2.out.mono q9)); (try replace y3 := Lib.hid (y3.out.mono q9)); have l1 := Lib.hid q1.rd; obtain ⟨l1a, l1c, rfl⟩ := q1.slice; clear q1; clear q9)
        | (go_at_call 14; (with_reducible refine (t5.out _ hX.out).mono ?_); rintro e9 w9 ⟨v, rfl, q1, q9⟩; have hb9 := Lib.hid hX.out.size; replace hX := Lib.hid (hX.out.trans (Below.mono q9 hX.out.size)); (try replace w7 := Lib.hid (rowK w7.out q9)); (try replace w8r := Lib.hid (rowK w8r.out q9)); (try replace w10 := Lib.hid (rowK w10.out q9)); (try replace w16 := Lib.hid (rowK w16.out q9)); (try replace w19 := Lib.hid (rowK w19.out q9)); (try replace w22 := Lib.hid (rowK w22.out q9)); (try replace w25 := Lib.hid (rowK w25.out q9)); (try replace o1 := Lib.hid (o1.out.mono q9)); (try replace o2 := Lib.hid (o2.out.mono q9)); (try replace a1 := Lib.hid (a1.out.mono q9)); (try replace a2 := Lib.hid (a2.out.mono q9)); (try replace b1 := Lib.hid (b1.out.mono q9)); (try replace b2 := Lib.hid (b2.out.mono q9)); (try replace l1 := Lib.hid (l1.out.mono q9)); (try replace l2 := Lib.hid (l2.out.mono q9)); (try replace c1 := Lib.hid (c1.out.mono q9)); (try replace c2 := Lib.hid (c2.out.mono q9)); (try replace d1 := Lib.hid (d1.out.mono q9)); (try replace d2 := Lib.hid (d2.out.mono q9)); (try replace x1 := Lib.hid (x1.out.mono q9)); (try replace x2 := Lib.hid (x2.out.mono q9)); (try replace x3 := Lib.hid (x3.out.mono q9)); (try replace y1 := Lib.hid (y1.out.mono q9)); (try replace y2 := Lib.hid (y2.out.mono q9)); (try replace y3 := Lib.hid (y3.out.mono q9)); have l2 := Lib.hid q1.rd; obtain ⟨l2a, l2c, rfl⟩ := q1.slice; clear q1; clear q9))
    clear t4 t5
    go_upto_region 9 with (first
        | (refine wpList_load_row_g rfl 24 _ rfl w.heap.size rfl 24 (tkC lv av) (0, 0) _ (hrow.out _ hX.out) Try.underlying24 rfl info_tk ?_)
        | (refine wpList_load_row_g rfl 24 _ rfl g7 rfl 24 (tkC (.slice xa7 L.length xc7) (.slice ya7 A.length yc7)) (0, 0) _ w7.out Try.underlying24 rfl info_tk ?_)
        | (go_at_call 15; (with_reducible refine (t6.out _ _ _ o1.out o2.out).mono ?_); rintro e9 w9 ⟨xv, yv, rfl, q1, q2, q9⟩; have hb9 := Lib.hid hX.out.size; replace hX := Lib.hid (hX.out.trans (Below.mono q9 hX.out.size)); (try replace w7 := Lib.hid (rowK w7.out q9)); (try replace w8r := Lib.hid (rowK w8r.out q9)); (try replace w10 := Lib.hid (rowK w10.out q9)); (try replace w16 := Lib.hid (rowK w16.out q9)); (try replace w19 := Lib.hid (rowK w19.out q9)); (try replace w22 := Lib.hid (rowK w22.out q9)); (try replace w25 := Lib.hid (rowK w25.out q9)); (try replace o1 := Lib.hid (o1.out.mono q9)); (try replace o2 := Lib.hid (o2.out.mono q9)); (try replace a1 := Lib.hid (a1.out.mono q9)); (try replace a2 := Lib.hid (a2.out.mono q9)); (try replace b1 := Lib.hid (b1.out.mono q9)); (try replace b2 := Lib.hid (b2.out.mono q9)); (try replace l1 := Lib.hid (l1.out.mono q9)); (try replace l2 := Lib.hid (l2.out.mono q9)); (try replace c1 := Lib.hid (c1.out.mono q9)); (try replace c2 := Lib.hid (c2.out.mono q9)); (try replace d1 := Lib.hid (d1.out.mono q9)); (try replace d2 := Lib.hid (d2.out.mono q9)); (try replace x1 := Lib.hid (x1.out.mono q9)); (try replace x2 := Lib.hid (x2.out.mono q9)); (try replace x3 := Lib.hid (x3.out.mono q9)); (try replace y1 := Lib.hid (y1.out.mono q9)); (try replace y2 := Lib.hid (y2.out.mono q9)); (try replace y3 := Lib.hid (y3.out.mono q9)); have c1 := Lib.hid q1.rd; have c2 := Lib.hid q2.rd; obtain ⟨xa16, xc16, rfl⟩ := q1.slice; obtain ⟨ya16, yc16, rfl⟩ := q2.slice; clear q1 q2; clear q9)
        | (refine storeNew _ rfl 24 _ _ rfl (tkC (.slice xa16 _ xc16) (.slice ya16 _ yc16)) 24 rfl rfl info_tk rfl (tk_one _ _ rfl rfl) ?_; intro w5 hrx hbx; have hb9 := Lib.hid hX.out.size; replace hX := Lib.hid (hX.out.trans (Below.mono hbx hX.out.size)); (try replace w7 := Lib.hid (rowK w7.out hbx)); (try replace w8r := Lib.hid (rowK w8r.out hbx)); (try replace w10 := Lib.hid (rowK w10.out hbx)); (try replace w16 := Lib.hid (rowK w16.out hbx)); (try replace w19 := Lib.hid (rowK w19.out hbx)); (try replace w22 := Lib.hid (rowK w22.out hbx)); (try replace w25 := Lib.hid (rowK w25.out hbx)); (try replace o1 := Lib.hid (o1.out.mono hbx)); (try replace o2 := Lib.hid (o2.out.mono hbx)); (try replace a1 := Lib.hid (a1.out.mono hbx)); (try replace a2 := Lib.hid (a2.out.mono hbx)); (try replace b1 := Lib.hid (b1.out.mono hbx)); (try replace b2 := Lib.hid (b2.out.mono hbx)); (try replace l1 := Lib.hid (l1.out.mono hbx)); (try replace l2 := Lib.hid (l2.out.mono hbx)); (try replace c1 := Lib.hid (c1.out.mono hbx)); (try replace c2 := Lib.hid (c2.out.mono hbx)); (try replace d1 := Lib.hid (d1.out.mono hbx)); (try replace d2 := Lib.hid (d2.out.mono hbx)); (try replace x1 := Lib.hid (x1.out.mono hbx)); (try replace x2 := Lib.hid (x2.out.mono hbx)); (try replace x3 := Lib.hid (x3.out.mono hbx)); (try replace y1 := Lib.hid (y1.out.mono hbx)); (try replace y2 := Lib.hid (y2.out.mono hbx)); (try replace y3 := Lib.hid (y3.out.mono hbx)); have w16 := Lib.hid hrx; skip; clear hrx hbx))
    obtain ⟨g16, hg16⟩ : ∃ g, g = w9.heap.size := ⟨_, rfl⟩
    rw [← hg16] at w16 ⊢
    clear hg16 t6
    go_upto_region 10 with (first
        | (refine wpList_load_row_g rfl 24 _ rfl w.heap.size rfl 24 (tkC lv av) (0, 0) _ (hrow.out _ hX.out) Try.underlying24 rfl info_tk ?_)
        | (go_at_call 16; (with_reducible refine (t7.out _ hX.out).mono ?_); rintro e9 w9 ⟨xv, yv, rfl, q1, q2, q9⟩; have hb9 := Lib.hid hX.out.size; replace hX := Lib.hid (hX.out.trans (Below.mono q9 hX.out.size)); (try replace w7 := Lib.hid (rowK w7.out q9)); (try replace w8r := Lib.hid (rowK w8r.out q9)); (try replace w10 := Lib.hid (rowK w10.out q9)); (try replace w16 := Lib.hid (rowK w16.out q9)); (try replace w19 := Lib.hid (rowK w19.out q9)); (try replace w22 := Lib.hid (rowK w22.out q9)); (try replace w25 := Lib.hid (rowK w25.out q9)); (try replace o1 := Lib.hid (o1.out.mono q9)); (try replace o2 := Lib.hid (o2.out.mono q9)); (try replace a1 := Lib.hid (a1.out.mono q9)); (try replace a2 := Lib.hid (a2.out.mono q9)); (try replace b1 := Lib.hid (b1.out.mono q9)); (try replace b2 := Lib.hid (b2.out.mono q9)); (try replace l1 := Lib.hid (l1.out.mono q9)); (try replace l2 := Lib.hid (l2.out.mono q9)); (try replace c1 := Lib.hid (c1.out.mono q9)); (try replace c2 := Lib.hid (c2.out.mono q9)); (try replace d1 := Lib.hid (d1.out.mono q9)); (try replace d2 := Lib.hid (d2.out.mono q9)); (try replace x1 := Lib.hid (x1.out.mono q9)); (try replace x2 := Lib.hid (x2.out.mono q9)); (try replace x3 := Lib.hid (x3.out.mono q9)); (try replace y1 := Lib.hid (y1.out.mono q9)); (try replace y2 := Lib.hid (y2.out.mono q9)); (try replace y3 := Lib.hid (y3.out.mono q9)); have d1 := Lib.hid q1.rd; have d2 := Lib.hid q2.rd; obtain ⟨xa19, xc19, rfl⟩ := q1.slice; obtain ⟨ya19, yc19, rfl⟩ := q2.slice; clear q1 q2; clear q9)
        | (refine storeNew _ rfl 24 _ _ rfl (tkC (.slice xa19 _ xc19) (.slice ya19 _ yc19)) 24 rfl rfl info_tk rfl (tk_one _ _ rfl rfl) ?_; intro w5 hrx hbx; have hb9 := Lib.hid hX.out.size; replace hX := Lib.hid (hX.out.trans (Below.mono hbx hX.out.size)); (try replace w7 := Lib.hid (rowK w7.out hbx)); (try replace w8r := Lib.hid (rowK w8r.out hbx)); (try replace w10 := Lib.hid (rowK w10.out hbx)); (try replace w16 := Lib.hid (rowK w16.out hbx)); (try replace w19 := Lib.hid (rowK w19.out hbx)); (try replace w22 := Lib.hid (rowK w22.out hbx)); (try replace w25 := Lib.hid (rowK w25.out hbx)); (try replace o1 := Lib.hid (o1.out.mono hbx)); (try replace o2 := Lib.hid (o2.out.mono hbx)); (try replace a1 := Lib.hid (a1.out.mono hbx)); (try replace a2 := Lib.hid (a2.out.mono hbx)); (try replace b1 := Lib.hid (b1.out.mono hbx)); (try replace b2 := Lib.hid (b2.out.mono hbx)); (try replace l1 := Lib.hid (l1.out.mono hbx)); (try replace l2 := Lib.hid (l2.out.mono hbx)); (try replace c1 := Lib.hid (c1.out.mono hbx)); (try replace c2 := Lib.hid (c2.out.mono hbx)); (try replace d1 := Lib.hid (d1.out.mono hbx)); (try replace d2 := Lib.hid (d2.out.mono hbx)); (try replace x1 := Lib.hid (x1.out.mono hbx)); (try replace x2 := Lib.hid (x2.out.mono hbx)); (try replace x3 := Lib.hid (x3.out.mono hbx)); (try replace y1 := Lib.hid (y1.out.mono hbx)); (try replace y2 := Lib.hid (y2.out.mono hbx)); (try replace y3 := Lib.hid (y3.out.mono hbx)); have w19 := Lib.hid hrx; skip; clear hrx hbx))
    obtain ⟨g19, hg19⟩ : ∃ g, g = w9.heap.size := ⟨_, rfl⟩
    rw [← hg19] at w19 ⊢
    clear hg19 t7
    go_upto_region 12 with (first
        | (refine wpList_load_row_g rfl 24 _ rfl g8 rfl 24 (tkC (.slice xa8 NL.length xc8) (.slice ya8 NA.length yc8)) (0, 0) _ w8r.out Try.underlying24 rfl info_tk ?_)
        | (refine wpList_load_row_g rfl 24 _ rfl g10 rfl 24 (tkC (.slice xa10 NL.length xc10) (.slice ya10 NA.length yc10)) (0, 0) _ w10.out Try.underlying24 rfl info_tk ?_)
        | (refine wpList_load_row_g rfl 24 _ rfl g16 rfl 24 (tkC (.slice xa16 R1.length xc16) (.slice ya16 A1.length yc16)) (0, 0) _ w16.out Try.underlying24 rfl info_tk ?_)
        | (refine wpList_load_row_g rfl 24 _ rfl g19 rfl 24 (tkC (.slice xa19 R1.length xc19) (.slice ya19 A1.length yc19)) (0, 0) _ w19.out Try.underlying24 rfl info_tk ?_)
        | (go_at_call 17; (with_reducible refine (s2.out NL NA _ _ _ _ _ a1.out a2.out b1.out b2.out).mono ?_); rintro e9 w9 ⟨rfl, q9⟩; have hb9 := Lib.hid hX.out.size; replace hX := Lib.hid (hX.out.trans (Below.mono q9 hX.out.size)); (try replace w7 := Lib.hid (rowK w7.out q9)); (try replace w8r := Lib.hid (rowK w8r.out q9)); (try replace w10 := Lib.hid (rowK w10.out q9)); (try replace w16 := Lib.hid (rowK w16.out q9)); (try replace w19 := Lib.hid (rowK w19.out q9)); (try replace w22 := Lib.hid (rowK w22.out q9)); (try replace w25 := Lib.hid (rowK w25.out q9)); (try replace o1 := Lib.hid (o1.out.mono q9)); (try replace o2 := Lib.hid (o2.out.mono q9)); (try replace a1 := Lib.hid (a1.out.mono q9)); (try replace a2 := Lib.hid (a2.out.mono q9)); (try replace b1 := Lib.hid (b1.out.mono q9)); (try replace b2 := Lib.hid (b2.out.mono q9)); (try replace l1 := Lib.hid (l1.out.mono q9)); (try replace l2 := Lib.hid (l2.out.mono q9)); (try replace c1 := Lib.hid (c1.out.mono q9)); (try replace c2 := Lib.hid (c2.out.mono q9)); (try replace d1 := Lib.hid (d1.out.mono q9)); (try replace d2 := Lib.hid (d2.out.mono q9)); (try replace x1 := Lib.hid (x1.out.mono q9)); (try replace x2 := Lib.hid (x2.out.mono q9)); (try replace x3 := Lib.hid (x3.out.mono q9)); (try replace y1 := Lib.hid (y1.out.mono q9)); (try replace y2 := Lib.hid (y2.out.mono q9)); (try replace y3 := Lib.hid (y3.out.mono q9)); skip; clear q9)
        | (go_at_call 17; (with_reducible refine (s2.out R1 A1 _ _ _ _ _ c1.out c2.out d1.out d2.out).mono ?_); rintro e9 w9 ⟨rfl, q9⟩; have hb9 := Lib.hid hX.out.size; replace hX := Lib.hid (hX.out.trans (Below.mono q9 hX.out.size)); (try replace w7 := Lib.hid (rowK w7.out q9)); (try replace w8r := Lib.hid (rowK w8r.out q9)); (try replace w10 := Lib.hid (rowK w10.out q9)); (try replace w16 := Lib.hid (rowK w16.out q9)); (try replace w19 := Lib.hid (rowK w19.out q9)); (try replace w22 := Lib.hid (rowK w22.out q9)); (try replace w25 := Lib.hid (rowK w25.out q9)); (try replace o1 := Lib.hid (o1.out.mono q9)); (try replace o2 := Lib.hid (o2.out.mono q9)); (try replace a1 := Lib.hid (a1.out.mono q9)); (try replace a2 := Lib.hid (a2.out.mono q9)); (try replace b1 := Lib.hid (b1.out.mono q9)); (try replace b2 := Lib.hid (b2.out.mono q9)); (try replace l1 := Lib.hid (l1.out.mono q9)); (try replace l2 := Lib.hid (l2.out.mono q9)); (try replace c1 := Lib.hid (c1.out.mono q9)); (try replace c2 := Lib.hid (c2.out.mono q9)); (try replace d1 := Lib.hid (d1.out.mono q9)); (try replace d2 := Lib.hid (d2.out.mono q9)); (try replace x1 := Lib.hid (x1.out.mono q9)); (try replace x2 := Lib.hid (x2.out.mono q9)); (try replace x3 := Lib.hid (x3.out.mono q9)); (try replace y1 := Lib.hid (y1.out.mono q9)); (try replace y2 := Lib.hid (y2.out.mono q9)); (try replace y3 := Lib.hid (y3.out.mono q9)); skip; clear q9)
        | (go_at_call 18; (with_reducible refine (s1.out AR _ _ _ l1.out l2.out).mono ?_); rintro e9 w9 ⟨rfl, q9⟩; have hb9 := Lib.hid hX.out.size; replace hX := Lib.hid (hX.out.trans (Below.mono q9 hX.out.size)); (try replace w7 := Lib.hid (rowK w7.out q9)); (try replace w8r := Lib.hid (rowK w8r.out q9)); (try replace w10 := Lib.hid (rowK w10.out q9)); (try replace w16 := Lib.hid (rowK w16.out q9)); (try replace w19 := Lib.hid (rowK w19.out q9)); (try replace w22 := Lib.hid (rowK w22.out q9)); (try replace w25 := Lib.hid (rowK w25.out q9)); (try replace o1 := Lib.hid (o1.out.mono q9)); (try replace o2 := Lib.hid (o2.out.mono q9)); (try replace a1 := Lib.hid (a1.out.mono q9)); (try replace a2 := Lib.hid (a2.out.mono q9)); (try replace b1 := Lib.hid (b1.out.mono q9)); (try replace b2 := Lib.hid (b2.out.mono q9)); (try replace l1 := Lib.hid (l1.out.mono q9)); (try replace l2 := Lib.hid (l2.out.mono q9)); (try replace c1 := Lib.hid (c1.out.mono q9)); (try replace c2 := Lib.hid (c2.out.mono q9)); (try replace d1 := Lib.hid (d1.out.mono q9)); (try replace d2 := Lib.hid (d2.out.mono q9)); (try replace x1 := Lib.hid (x1.out.mono q9)); (try replace x2 := Lib.hid (x2.out.mono q9)); (try replace x3 := Lib.hid (x3.out.mono q9)); (try replace y1 := Lib.hid (y1.out.mono q9)); (try replace y2 := Lib.hid (y2.out.mono q9)); (try replace y3 := Lib.hid (y3.out.mono q9)); skip; clear q9))
    clear a1 a2 b1 b2 c1 c2 d1 d2 l1 l2 w8r w10 w16 w19
    go_upto_region 13 with (first
        | (refine wpList_load_row_g rfl 24 _ rfl g7 rfl 24 (tkC (.slice xa7 L.length xc7) (.slice ya7 A.length yc7)) (0, 0) _ w7.out Try.underlying24 rfl info_tk ?_)
        | (go_at_call 19; (with_reducible refine (t8.out _ _ _ hX.out o1.out o2.out).mono ?_); rintro e9 w9 ⟨xv, yv, dv, rfl, q1, q2, q3, q9⟩; have hb9 := Lib.hid hX.out.size; replace hX := Lib.hid (hX.out.trans (Below.mono q9 hX.out.size)); (try replace w7 := Lib.hid (rowK w7.out q9)); (try replace w8r := Lib.hid (rowK w8r.out q9)); (try replace w10 := Lib.hid (rowK w10.out q9)); (try replace w16 := Lib.hid (rowK w16.out q9)); (try replace w19 := Lib.hid (rowK w19.out q9)); (try replace w22 := Lib.hid (rowK w22.out q9)); (try replace w25 := Lib.hid (rowK w25.out q9)); (try replace o1 := Lib.hid (o1.out.mono q9)); (try replace o2 := Lib.hid (o2.out.mono q9)); (try replace a1 := Lib.hid (a1.out.mono q9)); (try replace a2 := Lib.hid (a2.out.mono q9)); (try replace b1 := Lib.hid (b1.out.mono q9)); (try replace b2 := Lib.hid (b2.out.mono q9)); (try replace l1 := Lib.hid (l1.out.mono q9)); (try replace l2 := Lib.hid (l2.out.mono q9)); (try replace c1 := Lib.hid (c1.out.mono q9)); (try replace c2 := Lib.hid (c2.out.mono q9)); (try replace d1 := Lib.hid (d1.out.mono q9)); (try replace d2 := Lib.hid (d2.out.mono q9)); (try replace x1 := Lib.hid (x1.out.mono q9)); (try replace x2 := Lib.hid (x2.out.mono q9)); (try replace x3 := Lib.hid (x3.out.mono q9)); (try replace y1 := Lib.hid (y1.out.mono q9)); (try replace y2 := Lib.hid (y2.out.mono q9)); (try replace y3 := Lib.hid (y3.out.mono q9)); have x1 := Lib.hid q1.rd; have x2 := Lib.hid q2.rd; have x3 := Lib.hid q3.rd; obtain ⟨xa22, xc22, rfl⟩ := q1.slice; obtain ⟨ya22, yc22, rfl⟩ := q2.slice; obtain ⟨da22, dc22, rfl⟩ := q3.slice; clear q1 q2 q3; clear q9)
        | (refine storeNew _ rfl 24 _ _ rfl (tkC (.slice xa22 _ xc22) (.slice ya22 _ yc22)) 24 rfl rfl info_tk rfl (tk_one _ _ rfl rfl) ?_; intro w5 hrx hbx; have hb9 := Lib.hid hX.out.size; replace hX := Lib.hid (hX.out.trans (Below.mono hbx hX.out.size)); (try replace w7 := Lib.hid (rowK w7.out hbx)); (try replace w8r := Lib.hid (rowK w8r.out hbx)); (try replace w10 := Lib.hid (rowK w10.out hbx)); (try replace w16 := Lib.hid (rowK w16.out hbx)); (try replace w19 := Lib.hid (rowK w19.out hbx)); (try replace w22 := Lib.hid (rowK w22.out hbx)); (try replace w25 := Lib.hid (rowK w25.out hbx)); (try replace o1 := Lib.hid (o1.out.mono hbx)); (try replace o2 := Lib.hid (o2.out.mono hbx)); (try replace a1 := Lib.hid (a1.out.mono hbx)); (try replace a2 := Lib.hid (a2.out.mono hbx)); (try replace b1 := Lib.hid (b1.out.mono hbx)); (try replace b2 := Lib.hid (b2.out.mono hbx)); (try replace l1 := Lib.hid (l1.out.mono hbx)); (try replace l2 := Lib.hid (l2.out.mono hbx)); (try replace c1 := Lib.hid (c1.out.mono hbx)); (try replace c2 := Lib.hid (c2.out.mono hbx)); (try replace d1 := Lib.hid (d1.out.mono hbx)); (try replace d2 := Lib.hid (d2.out.mono hbx)); (try replace x1 := Lib.hid (x1.out.mono hbx)); (try replace x2 := Lib.hid (x2.out.mono hbx)); (try replace x3 := Lib.hid (x3.out.mono hbx)); (try replace y1 := Lib.hid (y1.out.mono hbx)); (try replace y2 := Lib.hid (y2.out.mono hbx)); (try replace y3 := Lib.hid (y3.out.mono hbx)); have w22 := Lib.hid hrx; skip; clear hrx hbx))
    obtain ⟨g22, hg22⟩ : ∃ g, g = w9.heap.size := ⟨_, rfl⟩
    rw [← hg22] at w22 ⊢
    clear hg22
    go_upto_region 14 with (first
        | (refine wpList_load_row_g rfl 24 _ rfl w.heap.size rfl 24 (tkC lv av) (0, 0) _ (hrow.out _ hX.out) Try.underlying24 rfl info_tk ?_)
        | (go_at_call 20; (with_reducible refine (t9.out _ hX.out).mono ?_); rintro e9 w9 ⟨xv, yv, dv, rfl, q1, q2, q3, q9⟩; have hb9 := Lib.hid hX.out.size; replace hX := Lib.hid (hX.out.trans (Below.mono q9 hX.out.size)); (try replace w7 := Lib.hid (rowK w7.out q9)); (try replace w8r := Lib.hid (rowK w8r.out q9)); (try replace w10 := Lib.hid (rowK w10.out q9)); (try replace w16 := Lib.hid (rowK w16.out q9)); (try replace w19 := Lib.hid (rowK w19.out q9)); (try replace w22 := Lib.hid (rowK w22.out q9)); (try replace w25 := Lib.hid (rowK w25.out q9)); (try replace o1 := Lib.hid (o1.out.mono q9)); (try replace o2 := Lib.hid (o2.out.mono q9)); (try replace a1 := Lib.hid (a1.out.mono q9)); (try replace a2 := Lib.hid (a2.out.mono q9)); (try replace b1 := Lib.hid (b1.out.mono q9)); (try replace b2 := Lib.hid (b2.out.mono q9)); (try replace l1 := Lib.hid (l1.out.mono q9)); (try replace l2 := Lib.hid (l2.out.mono q9)); (try replace c1 := Lib.hid (c1.out.mono q9)); (try replace c2 := Lib.hid (c2.out.mono q9)); (try replace d1 := Lib.hid (d1.out.mono q9)); (try replace d2 := Lib.hid (d2.out.mono q9)); (try replace x1 := Lib.hid (x1.out.mono q9)); (try replace x2 := Lib.hid (x2.out.mono q9)); (try replace x3 := Lib.hid (x3.out.mono q9)); (try replace y1 := Lib.hid (y1.out.mono q9)); (try replace y2 := Lib.hid (y2.out.mono q9)); (try replace y3 := Lib.hid (y3.out.mono q9)); have y1 := Lib.hid q1.rd; have y2 := Lib.hid q2.rd; have y3 := Lib.hid q3.rd; obtain ⟨xa25, xc25, rfl⟩ := q1.slice; obtain ⟨ya25, yc25, rfl⟩ := q2.slice; obtain ⟨da25, dc25, rfl⟩ := q3.slice; clear q1 q2 q3; clear q9)
        | (refine storeNew _ rfl 24 _ _ rfl (tkC (.slice xa25 _ xc25) (.slice ya25 _ yc25)) 24 rfl rfl info_tk rfl (tk_one _ _ rfl rfl) ?_; intro w5 hrx hbx; have hb9 := Lib.hid hX.out.size; replace hX := Lib.hid (hX.out.trans (Below.mono hbx hX.out.size)); (try replace w7 := Lib.hid (rowK w7.out hbx)); (try replace w8r := Lib.hid (rowK w8r.out hbx)); (try replace w10 := Lib.hid (rowK w10.out hbx)); (try replace w16 := Lib.hid (rowK w16.out hbx)); (try replace w19 := Lib.hid (rowK w19.out hbx)); (try replace w22 := Lib.hid (rowK w22.out hbx)); (try replace w25 := Lib.hid (rowK w25.out hbx)); (try replace o1 := Lib.hid (o1.out.mono hbx)); (try replace o2 := Lib.hid (o2.out.mono hbx)); (try replace a1 := Lib.hid (a1.out.mono hbx)); (try replace a2 := Lib.hid (a2.out.mono hbx)); (try replace b1 := Lib.hid (b1.out.mono hbx)); (try replace b2 := Lib.hid (b2.out.mono hbx)); (try replace l1 := Lib.hid (l1.out.mono hbx)); (try replace l2 := Lib.hid (l2.out.mono hbx)); (try replace c1 := Lib.hid (c1.out.mono hbx)); (try replace c2 := Lib.hid (c2.out.mono hbx)); (try replace d1 := Lib.hid (d1.out.mono hbx)); (try replace d2 := Lib.hid (d2.out.mono hbx)); (try replace x1 := Lib.hid (x1.out.mono hbx)); (try replace x2 := Lib.hid (x2.out.mono hbx)); (try replace x3 := Lib.hid (x3.out.mono hbx)); (try replace y1 := Lib.hid (y1.out.mono hbx)); (try replace y2 := Lib.hid (y2.out.mono hbx)); (try replace y3 := Lib.hid (y3.out.mono hbx)); have w25 := Lib.hid hrx; skip; clear hrx hbx))
    obtain ⟨g25, hg25⟩ : ∃ g, g = w9.heap.size := ⟨_, rfl⟩
    rw [← hg25] at w25 ⊢
    clear hg25
    have hXX := Lib.hid hX
    have k10 := Lib.hid (fun wz (h : Below w5.heap.size w5 wz) => t10.out _ _ _ (o1.out.mono h) (o2.out.mono h))
    have k11 := Lib.hid (fun wz (h : Below w5.heap.size w5 wz) => t11.out wz (hX.out.trans (h.mono hX.out.size)))
    have kS := Lib.hid (fun wz (h : Below w5.heap.size w5 wz) => s2.out R2 A2 _ _ _ _ _ (x1.out.mono h) (x2.out.mono h) (y1.out.mono h) (y2.out.mono h))
    have kD := Lib.hid (fun wz (h : Below w5.heap.size w5 wz) => s1.out S2 _ _ _ (x3.out.mono h) (y3.out.mono h))
    have kO := Lib.hid (fun wz (h : Below w5.heap.size w5 wz) => s2.out L A _ _ _ _ wz (o1.out.mono h) (o2.out.mono h) (hLA.out wz (hX.out.trans (h.mono hX.out.size))).1 (hLA.out wz (hX.out.trans (h.mono hX.out.size))).2)
    have r3 := Lib.hid (fun wz (h : Below w5.heap.size w5 wz) => hrow.out wz (hX.out.trans (h.mono hX.out.size)))
    simp only [decide_true, Bool.and_self] at kS kD kO
    refine wp_region_quiet (C := fun w' => Below w5.heap.size w5 w') (by kernel_rfl) (by kernel_rfl) ((Below.refl _ _).drew) ?_
    simp only []
    refine wpq (.agg (tkC (.slice xa7 L.length xc7) (.slice ya7 A.length yc7))) rfl (quiet_row 24 _ rfl g7 rfl 24 (tkC (.slice xa7 L.length xc7) (.slice ya7 A.length yc7)) (0, 0) _ (fun wz h => rowK w7.out h) Try.underlying24 rfl info_tk) rfl (fun K hK => ?_); go_simp; refine hK _ ?_; clear hK K
    refine wpq (.int .i64 E1) rfl (qa_call1 (.agg (tkC (.slice xa7 L.length xc7) (.slice ya7 A.length yc7))) rfl Try.func21 (by kernel_rfl) rfl rfl rfl (fun w9 h => (k10.out w9 h).mono fun e w' ⟨he, hd⟩ => ⟨he, h.trans (hd.mono h.size)⟩)) rfl (fun K hK => ?_); go_simp; refine hK _ ?_; clear hK K
    refine wpq (.agg (tkC lv av)) rfl (quiet_row 24 _ rfl w.heap.size rfl 24 (tkC lv av) (0, 0) _ (fun wz h => r3.out wz h) Try.underlying24 rfl info_tk) rfl (fun K hK => ?_); go_simp; refine hK _ ?_; clear hK K
    refine wpq (.int .i64 E1) rfl (qa_call1 (.agg (tkC lv av)) rfl Try.func22 (by kernel_rfl) rfl rfl rfl (fun w9 h => (k11.out w9 h).mono fun e w' ⟨he, hd⟩ => ⟨he, h.trans (hd.mono h.size)⟩)) rfl (fun K hK => ?_); go_simp; refine hK _ ?_; clear hK K
    (first | (go_big_quiet_want; go_big_quiet_op; first | go_big_quiet_on | (refine ⟨_, fun _ _ => rfl, ?_⟩; go_big_quiet_on)) | go_big_quiet_skip)
    (first | (go_big_quiet_want; go_big_quiet_op; first | go_big_quiet_on | (refine ⟨_, fun _ _ => rfl, ?_⟩; go_big_quiet_on)) | go_big_quiet_skip)
    refine wpq (.agg (tkC (.slice xa22 R2.length xc22) (.slice ya22 A2.length yc22))) rfl (quiet_row 24 _ rfl g22 rfl 24 (tkC (.slice xa22 R2.length xc22) (.slice ya22 A2.length yc22)) (0, 0) _ (fun wz h => rowK w22.out h) Try.underlying24 rfl info_tk) rfl (fun K hK => ?_); go_simp; refine hK _ ?_; clear hK K
    refine wpq (.agg (tkC (.slice xa25 R2.length xc25) (.slice ya25 A2.length yc25))) rfl (quiet_row 24 _ rfl g25 rfl 24 (tkC (.slice xa25 R2.length xc25) (.slice ya25 A2.length yc25)) (0, 0) _ (fun wz h => rowK w25.out h) Try.underlying24 rfl info_tk) rfl (fun K hK => ?_); go_simp; refine hK _ ?_; clear hK K
    refine wpq (.bool true) rfl (quiet_call2 rfl Try.func17 (by kernel_rfl) rfl (.agg (tkC (.slice xa22 R2.length xc22) (.slice ya22 A2.length yc22))) (.agg (tkC (.slice xa25 R2.length xc25) (.slice ya25 A2.length yc25))) (.bool true) rfl rfl rfl (fun w9 h => (kS.out w9 h).mono fun e w' ⟨he, hd⟩ => ⟨he, h.trans (hd.mono h.size)⟩)) rfl (fun K hK => ?_); go_simp; refine hK _ ?_; clear hK K
    (first | (go_big_quiet_want; go_big_quiet_op; first | go_big_quiet_on | (refine ⟨_, fun _ _ => rfl, ?_⟩; go_big_quiet_on)) | go_big_quiet_skip)
    (first | (go_big_quiet_want; go_big_quiet_op; first | go_big_quiet_on | (refine ⟨_, fun _ _ => rfl, ?_⟩; go_big_quiet_on)) | go_big_quiet_skip)
    (first | (go_big_quiet_want; go_big_quiet_op; first | go_big_quiet_on | (refine ⟨_, fun _ _ => rfl, ?_⟩; go_big_quiet_on)) | go_big_quiet_skip)
    (first | (go_big_quiet_want; go_big_quiet_op; first | go_big_quiet_on | (refine ⟨_, fun _ _ => rfl, ?_⟩; go_big_quiet_on)) | go_big_quiet_skip)
    refine wpq (.bool true) rfl (quiet_call2 rfl Try.func18 (by kernel_rfl) rfl ((.slice da22 S2.length dc22)) ((.slice da25 S2.length dc25)) (.bool true) rfl rfl rfl (fun w9 h => (kD.out w9 h).mono fun e w' ⟨he, hd⟩ => ⟨he, h.trans (hd.mono h.size)⟩)) rfl (fun K hK => ?_); go_simp; refine hK _ ?_; clear hK K
    (first | (go_big_quiet_want; go_big_quiet_op; first | go_big_quiet_on | (refine ⟨_, fun _ _ => rfl, ?_⟩; go_big_quiet_on)) | go_big_quiet_skip)
    (first | (go_big_quiet_want; go_big_quiet_op; first | go_big_quiet_on | (refine ⟨_, fun _ _ => rfl, ?_⟩; go_big_quiet_on)) | go_big_quiet_skip)
    (first | (go_big_quiet_want; go_big_quiet_op; first | go_big_quiet_on | (refine ⟨_, fun _ _ => rfl, ?_⟩; go_big_quiet_on)) | go_big_quiet_skip)
    (first | (go_big_quiet_want; go_big_quiet_op; first | go_big_quiet_on | (refine ⟨_, fun _ _ => rfl, ?_⟩; go_big_quiet_on)) | go_big_quiet_skip)
    (first | (go_big_quiet_want; go_big_quiet_op; first | go_big_quiet_on | (refine ⟨_, fun _ _ => rfl, ?_⟩; go_big_quiet_on)) | go_big_quiet_skip)
    (first | (go_big_quiet_want; go_big_quiet_op; first | go_big_quiet_on | (refine ⟨_, fun _ _ => rfl, ?_⟩; go_big_quiet_on)) | go_big_quiet_skip)
    (first | (go_big_quiet_want; go_big_quiet_op; first | go_big_quiet_on | (refine ⟨_, fun _ _ => rfl, ?_⟩; go_big_quiet_on)) | go_big_quiet_skip)
    refine wpq (.agg (tkC (.slice xa7 L.length xc7) (.slice ya7 A.length yc7))) rfl (quiet_row 24 _ rfl g7 rfl 24 (tkC (.slice xa7 L.length xc7) (.slice ya7 A.length yc7)) (0, 0) _ (fun wz h => rowK w7.out h) Try.underlying24 rfl info_tk) rfl (fun K hK => ?_); go_simp; refine hK _ ?_; clear hK K
    refine wpq (.agg (tkC lv av)) rfl (quiet_row 24 _ rfl w.heap.size rfl 24 (tkC lv av) (0, 0) _ (fun wz h => r3.out wz h) Try.underlying24 rfl info_tk) rfl (fun K hK => ?_); go_simp; refine hK _ ?_; clear hK K
    refine wpq (.bool true) rfl (quiet_call2 rfl Try.func17 (by kernel_rfl) rfl (.agg (tkC (.slice xa7 L.length xc7) (.slice ya7 A.length yc7))) (.agg (tkC lv av)) (.bool true) rfl rfl rfl (fun w9 h => (kO.out w9 h).mono fun e w' ⟨he, hd⟩ => ⟨he, h.trans (hd.mono h.size)⟩)) rfl (fun K hK => ?_); go_simp; refine hK _ ?_; clear hK K
    (first | (go_big_quiet_want; go_big_quiet_op; first | go_big_quiet_on | (refine ⟨_, fun _ _ => rfl, ?_⟩; go_big_quiet_on)) | go_big_quiet_skip)
    (first | (go_big_quiet_want; go_big_quiet_op; first | go_big_quiet_on | (refine ⟨_, fun _ _ => rfl, ?_⟩; go_big_quiet_on)) | go_big_quiet_skip)
    refine wpQuiet_nil ?_
    intro w' h'
    have hE := Lib.hid (hS.out.trans (hX.out.mono hS.out.size))
    have hF := Lib.hid (hE.out.trans (h'.mono hE.out.size))
    clear h'
    go_wp2
    go_ret
    exact ⟨rfl, hF.out⟩
end Go.Proofs.Ytdebeimognikiaa.con
namespace Go.Proofs.Ytdebeimognikiaa
open Go.ChangeShapes Go.WideShapes Go.ChangeAt Go.WideMaps Go.WideElems Go.RowKit Go.Ytdebeimognikiaa
set_option linter.unusedVariables false
theorem own : ownKnob Try.prog.godebug = none := by kernel_rfl
theorem laidOut : laidOutB Try.prog = true := by kernel_rfl
section
variable {H : Type} {enc : TypeId × Value → H} {P : Program} {w : World} {base : Nat} {sp : Nat → Bool} {held : Bool}
theorem trodAll_stays (hl : laidOutB P = true) {W W' : World} {sp' : Nat → Bool} : ∀ {ts : List TypeId} {vs : List Value} {ds : List (DataW H)} {ps : List MemPlace}, (∀ t ∈ ts, P.readableRec t = true ∧ t < P.types.size) →
    DataW.TrodAll enc P W base (fun _ => true) true ts vs ds ps → (∀ p ∈ ps, W.sameAt W' p) → (∀ p ∈ ps, sp' p.block = true) → DataW.TrodAll enc P W' base sp' true ts vs ds ps
  | [], [], [], _, _, h, _, _ => h
  | [], [], _ :: _, _, _, h, _, _ => h.elim
  | [], _ :: _, _, _, _, h, _, _ => by cases ‹List (DataW H)› <;> exact h.elim
  | _ :: _, [], _, _, _, h, _, _ => by cases ‹List (DataW H)› <;> exact h.elim
  | _ :: _, _ :: _, [], _, _, h, _, _ => h.elim
  | t :: ts, v :: vs, d :: ds, ps, ht, h, hs, hp => by
    obtain ⟨p, q, h1, h2, rfl⟩ := h
    obtain ⟨r1, r2⟩ := ht t List.mem_cons_self
    exact ⟨p, q, Trod_stays hl r1 r2 h1 (fun x hx => hs x (List.mem_append_left _ hx)) (fun x hx => hp x (List.mem_append_left _ hx)),
      trodAll_stays hl (fun u hu => ht u (List.mem_cons_of_mem _ hu)) h2 (fun x hx => hs x (List.mem_append_right _ hx)) (fun x hx => hp x (List.mem_append_right _ hx)), rfl⟩
/-- A law's end: true, in a world whose old memory is as' it was. -/
theorem law_post {f : Func} {s : ChangeSpec} {apart fresh handsOn : Bool} {W W' : World} {args : Array Value} {v : Value} {ds gs : List (DataW H)} {before : List MemPlace} (hl : laidOutB P = true)
    (hts : ∀ t ∈ f.params.toList, P.readableRec t = true ∧ t < P.types.size) (hvs : varsRowed P s.vars = true)
    (hW : DataW.Whole enc P f.params.toList s.vars apart W args.toList ds gs before) (hb : Below W.heap.size W W')
    (hres : ∀ (b : Nat) (sp : Nat → Bool) (hd : Bool), DataW.TrodAll enc P W' b sp hd f.resultTypes.toList (v.resultList f.resultTypes.size) (s.fn H (ds ++ gs)).results [])
    (hargs : (s.fn H (ds ++ gs)).args = ds) (hvars : (s.fn H (ds ++ gs)).vars = gs) :
    s.post enc P f apart fresh handsOn false W args v W' := by
  have hW2 := hW
  have hlt : ∀ p ∈ before, p.block < W.heap.size := fun p hp => hW.lt p hp
  obtain ⟨p, q, hA, hV, rfl, hfz, hnd⟩ := hW
  refine ⟨ds, gs, p ++ q, [], p, q, hW2, hres _ _ _, ?_, ?_, hb.frame _, fun h => by cases h⟩
  · rw [hargs]
    exact trodAll_stays hl hts hA (fun x hx => hb.same (hlt x (List.mem_append_left _ hx))) (fun x hx => by simpa using hlt x (List.mem_append_left _ hx))
  · rw [hvars]
    exact Below.trodVars hl hb hvs hV
end
section
variable {H : Type} {enc : TypeId × Value → H} {P : Program} {W : World}
end
theorem boundsOf64 (x : Int) (h : (Lit.int .i64 x).wf = true) : -9223372036854775808 ≤ x ∧ x ≤ 9223372036854775807 := by
  simpa [Lit.wf, IntKind.min, IntKind.max, IntKind.signed, IntKind.bits] using h
end Go.Proofs.Ytdebeimognikiaa

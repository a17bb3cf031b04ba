/- Texts that the row stands on, part 2. -/
import Derived.Test.YtdebeimognikiaaRRoundsCq01
import Derived.OpenShut
import Derived.OpenVars
import Derived.ChangeSlices
import Derived.Lib.SmallJoins
import Derived.ChangeMaps5
namespace Go.Proofs.Ytdebeimognikiaa.con
open Go.RowKit Go.Ytdebeimognikiaa
set_option linter.unusedVariables false
set_option maxHeartbeats 4000000 in
set_option maxRecDepth 100000 in
theorem rAll_any (L A : List Int) (lv av : Value) (w : World) (hL : RdN w lv L) (hA : RdN w av A) (hO : OkT L A) :
    Calls Try.prog 35 #[.agg (tkC lv av)] w fun e w' => ∃ v, e = .returned v ∧ OwnN w.heap.size 3 w' v (allN L A L.length) ∧ Below w.heap.size w w' := by
  have h2 := hO.hi
  obtain ⟨la, lc, rfl⟩ := hL.slice
  obtain ⟨n, hn⟩ : ∃ n, L.length = n := ⟨_, rfl⟩
  rw [hn] at hL h2 ⊢
  obtain ⟨W, hW⟩ : ∃ W, W = w.alloc (.cells (tkC (.slice la n lc) av) 24) := ⟨_, rfl⟩
  have hS := Lib.hid (show Below w.heap.size w W by rw [hW]; exact below_a _ _)
  have r0 := Lib.hid (show W.heap[w.heap.size]? = some (.cells (tkC (.slice la n lc) av) 24 (0, 0)) by rw [hW]; exact heap_alloc_new w _)
  have hsz := Lib.hid (show W.heap.size = w.heap.size + 1 by rw [hW]; simp)
  have hX := Lib.hid (Below.refl W.heap.size W)
  have hrow := Lib.hid (fun (wz : World) (h : Below W.heap.size W wz) => rowB r0.out h (Array.getElem?_eq_some_iff.1 r0.out).1)
  have hD := Lib.hid (fun (j : Nat) (hj : j < n) (wz : World) (h : Below W.heap.size W wz) => rCan_any L A (.slice la n lc) av j wz (hL.mono (hS.out.trans (h.mono hS.out.size))) (hA.mono (hS.out.trans (h.mono hS.out.size))) hO (by rw [hn]; exact hj))
  have c0 : W.cell? ⟨w.heap.size, 0, none⟩ = some (.slice la n lc) := by rw [cell_of_row _ _ _ _ _ _ r0.out]; rfl
  clear hL hA hO hn
  go_enter Try.func35, Try.ntmps35
  go_upto_region 1 with fail
  rw [← hW]
  clear hW
  go_wp2
  clear c0
  go_loopw [3, 4] (fun v i wr => ∃ k : Nat, k ≤ n ∧ i = .int .i64 (k : Int) ∧ Below W.heap.size W wr ∧ OwnN W.heap.size 3 wr v (allN L A k)) (fun _ i _ => n - (intOf i).toNat)
  case atStart => exact ⟨0, Nat.zero_le _, rfl, hX.out, OwnN.nil _ _ _⟩
  case round =>
    obtain ⟨k, hk, rfl, hb, ho⟩ := hrel
    have hX := Lib.hid hb
    have c0 : wr.cell? ⟨w.heap.size, 0, none⟩ = some (.slice la n lc) := by rw [cell_of_row _ _ _ _ _ _ (hrow.out _ hb)]; rfl
    have hlen := allN_length L A k
    have ho' := Lib.hid ho
    obtain ⟨va, vc, rfl⟩ := ho.slice
    clear hb ho
    by_cases hlt : k < n
    · have hkI : (k : Int) < (n : Int) := by omega
      have hDj := Lib.hid (hD.out k hlt)
      have hy := Lib.hid (fun h : can L A k = true => (show allN L A (k + 1) = allN L A k ++ [(k : Int)] by rw [allN, if_pos h]))
      have hn2 := Lib.hid (fun h : can L A k = false => (show allN L A (k + 1) = allN L A k by rw [allN, h]; rfl))
      generalize can L A k = B at *
      generalize allN L A k = N0 at *
      have hlen' := Lib.hid hlen
      obtain ⟨m, hm⟩ : ∃ m, N0.length = m := ⟨_, rfl⟩
      have hm' := Lib.hid hm
      rw [hm] at ho' ⊢
      clear hm hlen
      cases B with
      | true =>
        have hN1 := Lib.hid (hy.out rfl)
        go_upto_region 6 with (first
            | (refine wpList_load_row_g rfl 24 _ rfl w.heap.size rfl 24 (tkC (.slice la n lc) av) (0, 0) _ (hrow.out _ hX.out) Try.underlying24 rfl info_tk ?_)
            | (go_at_call 31; (with_reducible refine (hDj.out _ hX.out).mono ?_); rintro e9 w9 ⟨rfl, q9⟩; replace hX := Lib.hid (hX.out.trans (Below.mono q9 hX.out.size)); replace ho' := Lib.hid (ho'.out.kept q9); clear q9))
        have hXb := Lib.hid (below_a w9 (.cells #[.int .i64 (k : Int)] 3))
        have hXr := Lib.hid (rdN_one (c := 1) (heap_alloc_new w9 (.cells #[.int .i64 (k : Int)] 3)) (by decide) (by decide))
        go_wp2_with (refine appendN rfl _ _ 22 rfl W.heap.size 3 Try.underlying22 (by kernel_rfl) _ rfl N0 (ho'.out.kept hXb.out) _ rfl [(k : Int)] hXr.out (by have := hlen'.out; have := hm'.out; simp; omega) (Nat.le_trans hX.out.size hXb.out.size) ?_)
        intro v' w6 y1 y2
        have hB6 := Lib.hid (hX.out.trans ((hXb.out.mono hX.out.size).trans ((ho'.out.kept hXb.out).below y2 (Nat.le_trans hX.out.size hXb.out.size))))
        have y1' := Lib.hid y1
        clear y1 y2 c0
        refine Stop.go ?_
        go_wp2
        go_roundw
        case rel => exact ⟨k + 1, by omega, by go_num, hB6.out, by rw [hN1.out]; exact y1'.out⟩
        case measure => simp [intOf]; omega
      | false =>
        have hN1 := Lib.hid (hn2.out rfl)
        go_wp2_with (first
            | (refine wpList_load_row_g rfl 24 _ rfl w.heap.size rfl 24 (tkC (.slice la n lc) av) (0, 0) _ (hrow.out _ hX.out) Try.underlying24 rfl info_tk ?_)
            | (go_at_call 31; (with_reducible refine (hDj.out _ hX.out).mono ?_); rintro e9 w9 ⟨rfl, q9⟩; replace hX := Lib.hid (hX.out.trans (Below.mono q9 hX.out.size)); replace ho' := Lib.hid (ho'.out.kept q9); clear q9))
        go_roundw
        case rel => exact ⟨k + 1, by omega, by go_num, hX.out, by rw [hN1.out]; exact ho'.out⟩
        case measure => simp [intOf]; omega
    · obtain rfl : k = n := by omega
      go_wp2
      go_ret
      exact ⟨_, rfl, ho'.out.mono hS.out.size, hS.out.trans (hX.out.mono hS.out.size)⟩
end Go.Proofs.Ytdebeimognikiaa.con
namespace Go.Proofs.Ytdebeimognikiaa.con
open Go.RowKit Go.Ytdebeimognikiaa
set_option linter.unusedVariables false
def fairE (L A Q : List Int) (x : Int) : Int := if pckE L A Q = 0 then (if x < 1 then 2 else 0) else pckE L A Q
def fairV (L A Q : List Int) (x : Int) : Bool := if pckE L A Q = 0 then (if x < 1 then false else fairB L A Q x.toNat) else false
theorem fair_bad {L A Q : List Int} (h : pckE L A Q ≠ 0) (x : Int) : fairE L A Q x = pckE L A Q ∧ fairV L A Q x = false := by unfold fairE fairV; rw [if_neg h, if_neg h]; exact ⟨rfl, rfl⟩
theorem fair_arg {L A Q : List Int} (h : pckE L A Q = 0) {x : Int} (hx : x < 1) : fairE L A Q x = 2 ∧ fairV L A Q x = false := by unfold fairE fairV; rw [if_pos h, if_pos h, if_pos hx, if_pos hx]; exact ⟨rfl, rfl⟩
theorem fair_fine {L A Q : List Int} (h : pckE L A Q = 0) {x : Int} (hx : ¬ x < 1) : fairE L A Q x = 0 ∧ fairV L A Q x = fairB L A Q x.toNat := by unfold fairE fairV; rw [if_pos h, if_pos h, if_neg hx, if_neg hx]; exact ⟨rfl, rfl⟩
set_option maxHeartbeats 4000000 in
set_option maxRecDepth 100000 in
theorem sFair_any (L A Q : List Int) (lv av pv : Value) (x : Int) (w : World) (hL : RdN w lv L) (hA : RdN w av A) (hQ : RdN w pv Q) :
    Calls Try.prog 25 #[.agg (tkC lv av), pv, .int .i64 x] w fun e w' => e = .returned (.tuple #[.bool (fairV L A Q x), .int .i64 (fairE L A Q x)]) ∧ Below w.heap.size w w' := by
  obtain ⟨W, hW⟩ : ∃ W, W = w.alloc (.cells (tkC lv av) 24) := ⟨_, rfl⟩
  have hS := Lib.hid (show Below w.heap.size w W by rw [hW]; exact below_a _ _)
  have r0 := Lib.hid (show W.heap[w.heap.size]? = some (.cells (tkC lv av) 24 (0, 0)) by rw [hW]; exact heap_alloc_new w _)
  have hsz := Lib.hid (show W.heap.size = w.heap.size + 1 by rw [hW]; simp)
  have hX := Lib.hid (Below.refl W.heap.size W)
  have hrow := Lib.hid (fun (wz : World) (h : Below W.heap.size W wz) => rowB r0.out h (Array.getElem?_eq_some_iff.1 r0.out).1)
  have hC0 := Lib.hid (fun (wz : World) (h : Below W.heap.size W wz) => sPicks_any L A Q lv av pv wz (hL.mono (hS.out.trans (h.mono hS.out.size))) (hA.mono (hS.out.trans (h.mono hS.out.size))) (hQ.mono (hS.out.trans (h.mono hS.out.size))))
  have hW0 := Lib.hid (fun (wz : World) (h : Below W.heap.size W wz) (hO : OkP L A Q) => longestWait_any L A Q lv av pv wz (hL.mono (hS.out.trans (h.mono hS.out.size))) (hA.mono (hS.out.trans (h.mono hS.out.size))) (hQ.mono (hS.out.trans (h.mono hS.out.size))) hO)
  clear hL hA hQ
  by_cases h0 : pckE L A Q = 0
  case neg =>
    obtain ⟨e1, e2⟩ := fair_bad h0 x
    rw [e1, e2]
    have hC := hC0
    clear e1 e2 hC0 hW0
    generalize pckE L A Q = R at *
    go_enter Try.func25, Try.ntmps25
    go_upto_region 1 with fail
    rw [← hW]
    clear hW
    go_wp2_with (first
        | (refine wpList_load_row_g rfl 24 _ rfl w.heap.size rfl 24 (tkC lv av) (0, 0) _ (hrow.out _ hX.out) Try.underlying24 rfl info_tk ?_)
        | (go_at_call 36; (with_reducible refine (hC.out _ hX.out).mono ?_); rintro e9 w9 ⟨rfl, q9⟩; replace hX := Lib.hid (hX.out.trans (Below.mono q9 hX.out.size)); clear q9))
    go_ret2
    exact ⟨rfl, hS.out.trans (hX.out.mono hS.out.size)⟩
  case pos =>
    have hO := pckE_zero h0
    rw [h0] at hC0
    have hC := hC0
    by_cases g1 : x < 1
    · obtain ⟨e1, e2⟩ := fair_arg h0 g1
      rw [e1, e2]
      clear e1 e2 hC0 hW0 hO h0
      go_enter Try.func25, Try.ntmps25
      go_upto_region 1 with fail
      rw [← hW]
      clear hW
      go_wp2_with (first
          | (refine wpList_load_row_g rfl 24 _ rfl w.heap.size rfl 24 (tkC lv av) (0, 0) _ (hrow.out _ hX.out) Try.underlying24 rfl info_tk ?_)
          | (go_at_call 36; (with_reducible refine (hC.out _ hX.out).mono ?_); rintro e9 w9 ⟨rfl, q9⟩; replace hX := Lib.hid (hX.out.trans (Below.mono q9 hX.out.size)); clear q9))
      go_ret2
      exact ⟨rfl, hS.out.trans (hX.out.mono hS.out.size)⟩
    obtain ⟨e1, e2⟩ := fair_fine h0 g1
    have hlf := Lib.hid (fun M (h : Longest L A Q L.length Q.length 0 M) => longest_fair (w := x.toNat) h (by omega))
    rw [e1, e2]
    have hLW := Lib.hid (fun wz h => hW0.out wz h hO)
    clear e1 e2 hC0 hW0 hO h0
    go_enter Try.func25, Try.ntmps25
    go_upto_region 1 with fail
    rw [← hW]
    clear hW
    go_wp2_with (first
        | (refine wpList_load_row_g rfl 24 _ rfl w.heap.size rfl 24 (tkC lv av) (0, 0) _ (hrow.out _ hX.out) Try.underlying24 rfl info_tk ?_)
        | (go_at_call 36; (with_reducible refine (hC.out _ hX.out).mono ?_); rintro e9 w9 ⟨rfl, q9⟩; replace hX := Lib.hid (hX.out.trans (Below.mono q9 hX.out.size)); clear q9)
        | (go_at_call 40; (with_reducible refine (hLW.out _ hX.out).mono ?_); rintro e9 w9 ⟨M, rfl, hM, q9⟩; replace hX := Lib.hid (hX.out.trans (Below.mono q9 hX.out.size)); have hM' := Lib.hid (hlf.out M hM); clear q9 hM))
    go_ret2
    refine ⟨?_, hS.out.trans (hX.out.mono hS.out.size)⟩
    rw [hM'.out]
    have e : decide ((M : Int) < x) = decide (M < x.toNat) := by rw [Bool.eq_iff_iff, decide_eq_true_iff, decide_eq_true_iff]; omega
    rw [← e]
    rfl
end Go.Proofs.Ytdebeimognikiaa.con
namespace Go.Proofs.Ytdebeimognikiaa.con
open Go.RowKit Go.Ytdebeimognikiaa
set_option linter.unusedVariables false
/-- The value 'v' is a slice of slices of bytes that reads as' 'L'. -/
def RdM (w : World) (v : Value) (L : List (List Int)) : Prop :=
  (∃ a c, v = .slice a 0 c ∧ (a = none → c = 0) ∧ L = []) ∨ ∃ b o c, v = .slice (some ⟨b, o, none⟩) L.length c ∧ L.length ≤ c ∧ c ≤ maxLen ∧ b < w.heap.size ∧ ∀ i, i < L.length → ∃ s, w.cell? ⟨b, o + i, none⟩ = some s ∧ RdN w s (nthL L i)
theorem RdM.mono {w w' : World} {v : Value} {L : List (List Int)} (h : RdM w v L) (hb : Below w.heap.size w w') : RdM w' v L := by
  rcases h with h | ⟨b, o, c, hv, h1, h2, h3, h4⟩
  · exact .inl h
  · refine .inr ⟨b, o, c, hv, h1, h2, Nat.lt_of_lt_of_le h3 hb.size, fun i hi => ?_⟩
    obtain ⟨s, hs, hr⟩ := h4 i hi
    exact ⟨s, (hb.cell (p := (⟨b, o + i, none⟩ : Addr)) h3).trans hs, hr.mono hb⟩
theorem RdM.slice {w : World} {v : Value} {L : List (List Int)} (h : RdM w v L) : ∃ a c, v = .slice a L.length c := by
  rcases h with ⟨a, c, rfl, _, rfl⟩ | ⟨b, o, c, hv, _⟩
  · exact ⟨a, c, rfl⟩
  · exact ⟨_, c, hv⟩
theorem RdM.at {w : World} {a : Option Addr} {n c : Nat} {L : List (List Int)} (h : RdM w (.slice a n c) L) (i : Nat) (hi : i < L.length) : ∃ b o, a = some ⟨b, o, none⟩ ∧ b < w.heap.size ∧ ∃ s, w.cell? ⟨b, o + i, none⟩ = some s ∧ RdN w s (nthL L i) := by
  rcases h with ⟨_, _, _, _, rfl⟩ | ⟨b, o, c', hv, h1, h2, h3, h4⟩
  · exact absurd hi (Nat.not_lt_zero _)
  · cases hv
    exact ⟨b, o, rfl, h3, h4 i hi⟩
theorem RdM.nil (w : World) : RdM w (.slice none 0 0) [] := .inl ⟨none, 0, rfl, fun _ => rfl, rfl⟩
theorem owns_keptM {base : Nat} {e : TypeId} {size : Nat} {w w' : World} {v : Value} {n : Nat} {xs : List Value} (h : w.ownsRow base e size v n xs) (hb : Below w.heap.size w w') : w'.ownsRow base e size v n xs := by
  refine ⟨h.1, ?_⟩
  rcases h.2 with hn | ⟨g, cap, cur, rfl, hbg, hg, rest⟩
  · exact .inl hn
  · exact .inr ⟨g, cap, cur, rfl, hbg, (hb.block g (Array.getElem?_eq_some_iff.1 hg).1).trans hg, rest⟩
theorem owns_sameM {base : Nat} {e : TypeId} {size : Nat} {w w' : World} {v : Value} {n : Nat} {xs : List Value} (h : w.ownsRow base e size v n xs) (h1 : ∀ k, base ≤ k → k < w.heap.size → w'.heap[k]? = w.heap[k]?) : w'.ownsRow base e size v n xs := by
  refine ⟨h.1, ?_⟩
  rcases h.2 with hn | ⟨g, cap, cur, rfl, hbg, hg, rest⟩
  · exact .inl hn
  · exact .inr ⟨g, cap, cur, rfl, hbg, (h1 g hbg (Array.getElem?_eq_some_iff.1 hg).1).trans hg, rest⟩
theorem owns_neM {w : World} {B B' : Nat} {e e' : TypeId} {z z' n n' : Nat} {v v' : Value} {xs xs' : List Value} (h : w.ownsRow B e z v n xs) (h' : w.ownsRow B' e' z' v' n' xs') (hne : e ≠ e') : v.ownBlock = none ∨ v.ownBlock ≠ v'.ownBlock := by
  rcases h.2 with ⟨rfl, _⟩ | ⟨g, cap, cur, rfl, _, hg, _⟩
  · exact .inl rfl
  · refine .inr fun heq => ?_
    rcases h'.2 with ⟨rfl, _⟩ | ⟨g', cap', cur', rfl, _, hg', _⟩
    · cases heq
    · obtain rfl : g = g' := Option.some.inj heq
      rw [hg] at hg'
      cases hg'
      exact hne rfl
theorem nthL_preM (L M : List (List Int)) (i : Nat) (h : i < L.length) : nthL (L ++ M) i = nthL L i := by
  unfold nthL
  rw [List.getElem?_append_left h]
theorem nthL_lastM (L : List (List Int)) (s : List Int) : nthL (L ++ [s]) L.length = s := by
  unfold nthL
  simp
/-- A slice of strings that is the call's own, each string too. -/
def OwnM (B : Nat) (T8 TS : TypeId) (w : World) (v : Value) (L : List (List Int)) : Prop :=
  ∃ vs : List Value, vs.length = L.length ∧ w.ownsRow B TS 1 v vs.length vs ∧ ∀ i, i < L.length → ∃ s, vs[i]? = some s ∧ OwnN B T8 w s (nthL L i)
theorem OwnM.nil (w : World) (B : Nat) (T8 TS : TypeId) : OwnM B T8 TS w (.slice none 0 0) [] := ⟨[], rfl, World.ownsRow_nil w B TS 1, fun i hi => absurd hi (Nat.not_lt_zero _)⟩
theorem OwnM.rd {B : Nat} {T8 TS : TypeId} {w : World} {v : Value} {L : List (List Int)} (h : OwnM B T8 TS w v L) : RdM w v L := by
  obtain ⟨vs, hl, ho, hs⟩ := h
  rcases ho.2 with ⟨rfl, h0⟩ | ⟨g, cap, cur, rfl, hb, hg, hn, hm, hz, ht⟩
  · exact .inl ⟨none, 0, rfl, fun _ => rfl, List.eq_nil_of_length_eq_zero (hl.symm.trans h0)⟩
  · refine .inr ⟨g, 0, cap, by rw [hl], by omega, hm, (Array.getElem?_eq_some_iff.1 hg).1, fun i hi => ?_⟩
    obtain ⟨s, h1, h2⟩ := hs i hi
    have hcell := World.ownsRow.cells (g := g) ho rfl i s h1
    rw [addr_add] at hcell
    exact ⟨s, hcell, h2.rd⟩
theorem OwnM.kept {B : Nat} {T8 TS : TypeId} {w w' : World} {v : Value} {L : List (List Int)} (h : OwnM B T8 TS w v L) (hb : Below w.heap.size w w') : OwnM B T8 TS w' v L := by
  obtain ⟨vs, hl, ho, hs⟩ := h
  refine ⟨vs, hl, owns_keptM ho hb, fun i hi => ?_⟩
  obtain ⟨s, h1, h2⟩ := hs i hi
  exact ⟨s, h1, h2.kept hb⟩
theorem OwnM.mono {B B' : Nat} {T8 TS : TypeId} {w : World} {v : Value} {L : List (List Int)} (h : OwnM B T8 TS w v L) (hB : B' ≤ B) : OwnM B' T8 TS w v L := by
  obtain ⟨vs, hl, ho, hs⟩ := h
  refine ⟨vs, hl, ⟨ho.1, ?_⟩, fun i hi => ?_⟩
  · rcases ho.2 with hn | ⟨g, cap, cur, rfl, hbg, rest⟩
    · exact .inl hn
    · exact .inr ⟨g, cap, cur, rfl, Nat.le_trans hB hbg, rest⟩
  · obtain ⟨s, h1, h2⟩ := hs i hi
    exact ⟨s, h1, h2.mono hB⟩
theorem OwnM.below {B : Nat} {T8 TS : TypeId} {w w' : World} {v : Value} {L : List (List Int)} (h : OwnM B T8 TS w v L) (hg : w.grownBy w' v.ownBlock) (hb : B ≤ w.heap.size) : Below B w w' := by
  obtain ⟨vs, hl, ho, hs⟩ := h
  exact Below.grown (Below.refl B w) hg hb (fun k hk => (World.ownsRow.lt ho k hk).1)
theorem OwnM.slice {B : Nat} {T8 TS : TypeId} {w : World} {v : Value} {L : List (List Int)} (h : OwnM B T8 TS w v L) : ∃ a c, v = .slice a L.length c := h.rd.slice
theorem run_appendM {P : Program} (w : World) (B : Nat) (T8 : TypeId) (t ty e : TypeId) (ht : P.underlying t = some (.slice e)) (hinfo : (P.info? e).map (fun i => (i.zero, i.size, i.bytes)) = some (some (.slice none 0 0), 1, 24)) (hne : T8 ≠ e)
    (v : Value) (L : List (List Int)) (hown : OwnM B T8 e w v L) (g c : Nat) (s : Value) (E : TypeId) (hrow : w.heap[g]? = some (.cells #[s] E (0, 0))) (l : List Int) (hs : OwnN B T8 w s l) (hlen : L.length ≤ 1000000) (hbase : B ≤ w.heap.size) :
    ∃ v' w', (Builtin.append_ #[t, t] ty #[v, .slice (some ⟨g, 0, none⟩) 1 c]).run P w = .ok v' w' ∧ OwnM B T8 e w' v' (L ++ [l]) ∧ w.grownBy w' v.ownBlock ∧ Below B w w' := by
  obtain ⟨i, hi, hz, hsz, hb⟩ := info_parts hinfo
  have hown0 := hown
  obtain ⟨vs, hl, ho, hss⟩ := hown
  obtain ⟨sa, sc, rfl⟩ := hs.rd.slice
  obtain ⟨v', w', hrun, h2, h3, _⟩ := run_append_own (P := P) w B t ty e i (.slice none 0 0) 1 24 ht hi hz hsz hb rfl (by omega) v vs.length vs ho ⟨g, 0, none⟩ 1 c [.slice sa l.length sc]
    rfl (fun j u hu => by
      match j, hu with
      | 0, hu =>
        obtain rfl := Option.some.inj hu
        rw [addr_add, cell_of_row _ _ _ _ _ _ hrow]
        rfl) (fun u hu => by obtain rfl := List.mem_singleton.1 hu; rfl) (by unfold maxLen; omega) (by omega) hbase
  refine ⟨v', w', hrun, ⟨vs ++ [.slice sa l.length sc], by simp [hl], by rw [List.length_append]; exact h2, fun j hj => ?_⟩, h3, hown0.below h3 hbase⟩
  rw [List.length_append, List.length_singleton] at hj
  rcases Nat.lt_or_ge j L.length with h | h
  · obtain ⟨s', k1, k2⟩ := hss j h
    refine ⟨s', by rw [List.getElem?_append_left (by omega)]; exact k1, ?_⟩
    rw [nthL_preM _ _ _ h]
    exact World.ownsRow.kept k2 h3 (owns_neM k2 ho hne)
  · obtain rfl : j = L.length := by omega
    refine ⟨.slice sa l.length sc, by rw [← hl]; simp, ?_⟩
    rw [nthL_lastM]
    exact World.ownsRow.kept hs h3 (owns_neM hs ho hne)
theorem appendM {P : Program} {ops : Array Oper} {rest : List Oper} {o : Oper} {a : Act} {w : World} {Q : Exit → Act → World → Prop} (hgd : o.guard = none) (s x : Operand) (t : TypeId)
    (ho : o.op = .call { callee := .builtin .append, args := #[s, x], argTypes := #[t, t] })
    (B : Nat) (T8 e : TypeId) (ht : P.underlying t = some (.slice e)) (hinfo : (P.info? e).map (fun i => (i.zero, i.size, i.bytes)) = some (some (.slice none 0 0), 1, 24)) (hne : T8 ≠ e)
    (v : Value) (hs : a.eval s = v) (L : List (List Int)) (hown : OwnM B T8 e w v L) (g c : Nat) (hx : a.eval x = .slice (some ⟨g, 0, none⟩) 1 c) (u : Value) (E : TypeId) (hrow : w.heap[g]? = some (.cells #[u] E (0, 0))) (l : List Int) (hu : OwnN B T8 w u l) (hlen : L.length ≤ 1000000) (hbase : B ≤ w.heap.size)
    (h : ∀ v' w', OwnM B T8 e w' v' (L ++ [l]) → w.grownBy w' v.ownBlock → Stop (wpList P ops Q rest (a.put o.dst v') w')) : wpList P ops Q (o :: rest) a w := by
  refine wpList_plain hgd fun K hK => ?_
  obtain ⟨v', w', hrun, h2, h4, _⟩ := run_appendM (P := P) w B T8 t o.type e ht hinfo hne v L hown g c u E hrow l hu hlen hbase
  unfold Oper.wp execOp
  simp only [ho, resolve, invoke, builtin, Sem.run_bind, Sem.run_pure, Result.andThen_ok, List.map_toArray, List.map_cons, List.map_nil, hs, hx, hrun]
  exact hK _ _ (h v' w' h2 h4).out
theorem OwnM.els {B g : Nat} {T8 TS : TypeId} {w w' : World} {v : Value} {L : List (List Int)} (h : OwnM B T8 TS w v L) (he : ElsN g w w') (hg : g < B) : OwnM B T8 TS w' v L := by
  obtain ⟨vs, hl, ho, hs⟩ := h
  have hn : ∀ k, B ≤ k → k < w.heap.size → w'.heap[k]? = w.heap[k]? := fun k h1 h2 => he.row (by omega) h2
  refine ⟨vs, hl, owns_sameM ho hn, fun i hi => ?_⟩
  obtain ⟨s, h1, h2⟩ := hs i hi
  exact ⟨s, h1, h2.els he hg⟩
theorem OwnM.low {base : Nat} {T8 TS : TypeId} {w w' : World} {v : Value} {L : List (List Int)} (h : OwnM base T8 TS w v L) (hg : w.grownBy w' v.ownBlock) {j : Nat} (hj : j < base) (hl : j < w.heap.size) : w'.heap[j]? = w.heap[j]? := by
  obtain ⟨vs, _, ho, _⟩ := h
  exact hg.block j hl (fun e => by have := (World.ownsRow.lt ho j e.symm).1; omega)
/-- A slice that is cut. -/
theorem slicedN {w : World} {a : Option Addr} {n c : Nat} {l : List Int} (h : RdN w (.slice a n c) l) (hn : l.length = n) (lo hi : Nat) (h1 : lo ≤ hi) (h2 : hi ≤ n) :
    ∃ a' c', sliced a lo hi c 1 = .slice a' (hi - lo) c' ∧ RdN w (.slice a' (hi - lo) c') ((l.take hi).drop lo) := by
  have hl : ((l.take hi).drop lo).length = hi - lo := by simp; omega
  unfold sliced
  rcases h with ⟨a0, c0, hv, h0, rfl⟩ | ⟨b, o, c0, hv, h4, h5, h6, h7⟩
  · injection hv with e1 e2 e3
    subst e1 e3
    have hhi : hi = 0 := by simp at hn; omega
    have hlo : lo = 0 := by omega
    subst hhi hlo
    refine ⟨_, _, rfl, .inl ⟨_, _, rfl, fun e => ?_, by simp⟩⟩
    cases a with
    | none => rw [h0 rfl]
    | some x => split at e <;> cases e
  · injection hv with e1 e2 e3
    subst e1 e3
    by_cases hc : c = lo
    · rw [if_pos hc]
      have he : (l.take hi).drop lo = [] := List.eq_nil_of_length_eq_zero (by rw [hl]; omega)
      rw [he, show hi - lo = 0 by omega]
      exact ⟨_, _, rfl, .inl ⟨_, _, rfl, (fun e => by cases e), rfl⟩⟩
    · rw [if_neg hc]
      refine ⟨_, _, rfl, .inr ⟨b, o + lo, c - lo, ?_, by rw [hl]; omega, by omega, h6, fun i hi2 => ?_⟩⟩
      · rw [hl]; simp [Addr.add]
      · rw [hl] at hi2
        rw [ith_drop, ith_take l hi (lo + i) (by omega), ← h7 (lo + i) (by omega), Nat.add_assoc]
theorem sizeOf_one {P : Program} {w : World} {t : TypeId} (hs : (P.info? t).map (·.size) = some 1) : (sizeOf t).run P w = .ok 1 w := by
  cases hi : P.info? t with
  | none => rw [hi] at hs; cases hs
  | some i =>
    rw [hi] at hs
    have : i.size = 1 := by simpa using hs
    simp [sizeOf, typeInfo, hi, this]
theorem wpList_sliceN {P : Program} {ops : Array Oper} {rest : List Oper} {o : Oper} {a : Act} {w : World} {Q : Exit → Act → World → Prop} (hw : Region.wanted o (yielded ops a.tmps) = true) (t : TypeId) (x y z : Operand) (ho : o.op = .slice t x (some y) (some z) none)
    (ht : P.underlying t = some (.slice (P.elem t))) (hs : (P.info? (P.elem t)).map (·.size) = some 1) (W0 : World) (l : List Int) (b : Option Addr) (n c : Nat) (hx : a.eval x = .slice b n c) (hr : RdN W0 (.slice b n c) l) (hn : l.length = n) (lo hi : Nat) (hy : a.eval y = .int .i64 (lo : Int)) (hz : a.eval z = .int .i64 (hi : Int)) (h1 : lo ≤ hi) (h2 : hi ≤ n) (M : Nat) (hM : hi - lo = M)
    (h : ∀ b' c', RdN W0 (.slice b' M c') ((l.take hi).drop lo) → wpList P ops Q rest (a.put o.dst (.slice b' M c')) w) : wpList P ops Q (o :: rest) a w :=
  wpList_step fun K hK => by
    subst hM
    rw [if_pos hw]
    obtain ⟨b', c', e1, e2⟩ := slicedN hr hn lo hi h1 h2
    have hnc : n ≤ c := by
      rcases hr with ⟨_, _, hv, _, _⟩ | ⟨_, _, _, hv, h4, _⟩
      · injection hv with _ e _; omega
      · injection hv with _ e2 e3; omega
    have hl := run_slice_lh (P := P) (w := w) t b n c ht .i64 .i64 (lo : Int) (hi : Int) (by omega) (by omega) (by omega)
    rw [sizeOf_one hs] at hl
    simp only [Result.andThen_ok, Int.toNat_natCast] at hl
    rw [e1] at hl
    unfold Oper.wp execOp
    simp only [ho, hx, Option.map_some, Option.map_none, hy, hz]
    simp only [Sem.run_bind, run_sliceAt_slice (P := P) (w := w) t _ _ _ _ ht, hl, Sem.run_pure, Result.andThen_ok]
    exact hK _ _ (h b' _ e2)
end Go.Proofs.Ytdebeimognikiaa.con
namespace Go.Proofs.Ytdebeimognikiaa.con
open Go.RowKit Go.Ytdebeimognikiaa
set_option linter.unusedVariables false
theorem allN_mem {L A : List Int} {x : Int} : ∀ {n : Nat}, x ∈ allN L A n ↔ ∃ k, k < n ∧ x = (k : Int) ∧ can L A k = true := by
  intro n
  induction n with
  | zero => exact ⟨(fun h => by cases h), (fun ⟨k, h, _⟩ => absurd h (Nat.not_lt_zero _))⟩
  | succ n ih =>
    unfold allN
    split
    · rename_i hc
      rw [List.mem_append, ih, List.mem_singleton]
      constructor
      · rintro (⟨k, h1, h2, h3⟩ | h)
        · exact ⟨k, by omega, h2, h3⟩
        · exact ⟨n, by omega, h, hc⟩
      · rintro ⟨k, h1, h2, h3⟩
        rcases Nat.lt_or_ge k n with g | g
        · exact .inl ⟨k, g, h2, h3⟩
        · obtain rfl : k = n := by omega
          exact .inr h2
    · rename_i hc
      rw [ih]
      constructor
      · rintro ⟨k, h1, h2, h3⟩; exact ⟨k, by omega, h2, h3⟩
      · rintro ⟨k, h1, h2, h3⟩
        rcases Nat.lt_or_ge k n with g | g
        · exact ⟨k, g, h2, h3⟩
        · obtain rfl : k = n := by omega
          exact absurd h3 hc
theorem allN_can {L A : List Int} {n k : Nat} (hk : k < n) : decide ((k : Int) ∈ allN L A n) = can L A k := by
  rw [Bool.eq_iff_iff, decide_eq_true_iff, allN_mem]
  exact ⟨fun ⟨j, _, h2, h3⟩ => by
    have : k = j := by omega
    rw [this]; exact h3, fun h => ⟨k, hk, rfl, h⟩⟩
theorem RunI.appM {w : World} {B5 g h bx rs : Nat} {bc rc : Array Value} {A St : List Int} {l : List (List Int)} {wr w' : World} {v : Value} {E E2 : TypeId} (i : RunI w B5 g h bx rs bc rc A St wr) (G : RunG w B5 g h bx rs) (hw : w.heap.size ≤ B5) (ho : OwnM B5 E E2 wr v l) (hg : wr.grownBy w' v.ownBlock) : RunI w B5 g h bx rs bc rc A St w' :=
  ⟨i.b.trans ((ho.below hg i.s).mono hw), Nat.le_trans i.s hg.size, i.row.to (ho.low hg G.g5 i.row.lt), i.aft.to (ho.low hg G.h5 i.aft.lt),
   (ho.low hg G.b5 (Array.getElem?_eq_some_iff.1 i.box).1).trans i.box, (ho.low hg G.r5 (Array.getElem?_eq_some_iff.1 i.res).1).trans i.res⟩
def befN (L A Q : List Int) (n : Nat) : Nat → List (List Int)
  | 0 => []
  | k + 1 => befN L A Q n k ++ [allN (runN L A Q k) A n]
theorem befN_length (L A Q : List Int) (n k : Nat) : (befN L A Q n k).length = k := by
  induction k with
  | zero => rfl
  | succ k ih => rw [befN, List.length_append, ih]; rfl
theorem befN_at (L A Q : List Int) (n : Nat) : ∀ k j, j < k → nthL (befN L A Q n k) j = allN (runN L A Q j) A n := by
  intro k
  induction k with
  | zero => intro j h; omega
  | succ k ih =>
    intro j h
    rw [befN]
    rcases Nat.lt_or_ge j k with g | g
    · rw [nthL_preM _ _ _ (by rw [befN_length]; exact g)]; exact ih j g
    · obtain rfl : j = k := by omega
      have e := nthL_lastM (befN L A Q n j) (allN (runN L A Q j) A n)
      rwa [befN_length] at e
/-- Is k among the picks of a window? -/
theorem window_mem {Q : List Int} {s w k : Nat} (hs : s + w ≤ Q.length) (hq : ∀ i, i < Q.length → 0 ≤ ith Q i) : (k : Int) ∈ (Q.take (s + w)).drop s ↔ ∃ d, d < w ∧ pk Q (s + d) = k := by
  have hl : ((Q.take (s + w)).drop s).length = w := by simp; omega
  constructor
  · intro h
    obtain ⟨d, hd, e⟩ := List.getElem_of_mem h
    rw [hl] at hd
    refine ⟨d, hd, ?_⟩
    have e2 : ith ((Q.take (s + w)).drop s) d = (k : Int) := by unfold ith; rw [List.getElem?_eq_getElem (by rw [hl]; exact hd), e]; rfl
    rw [ith_drop, ith_take _ _ _ (by omega)] at e2
    unfold pk
    rw [e2, Int.toNat_natCast]
  · rintro ⟨d, hd, e⟩
    have h0 := hq (s + d) (by omega)
    have e2 : ith ((Q.take (s + w)).drop s) d = (k : Int) := by
      rw [ith_drop, ith_take _ _ _ (by omega)]
      unfold pk at e
      omega
    exact of_decide_eq_true (mem_at d (by rw [hl]; exact hd) e2)
/-- One task at one window: what the reference asks. -/
def okW (L A Q : List Int) (w s k : Nat) : Bool := !((List.range w).all fun d => can (runN L A Q (s + d)) A k) || decide ((k : Int) ∈ (Q.take (s + w)).drop s)
theorem okW_iff {L A Q : List Int} {w s k : Nat} (hs : s + w ≤ Q.length) (hq : ∀ i, i < Q.length → 0 ≤ ith Q i) : okW L A Q w s k = true ↔ ∃ d, d < w ∧ stay L A Q k (s + d) = false := by
  unfold okW
  rw [Bool.or_eq_true, decide_eq_true_iff, window_mem hs hq]
  constructor
  · rintro (h | ⟨d, hd, e⟩)
    · have h2 : (List.range w).all (fun d => can (runN L A Q (s + d)) A k) = false := by simpa using h
      rw [List.all_eq_false] at h2
      obtain ⟨d, hd, h3⟩ := h2
      refine ⟨d, List.mem_range.1 hd, ?_⟩
      unfold stay
      cases e : can (runN L A Q (s + d)) A k with
      | false => rfl
      | true => exact absurd e h3
    · refine ⟨d, hd, ?_⟩
      unfold stay
      rw [decide_eq_true e]; simp
  · rintro ⟨d, hd, e⟩
    unfold stay at e
    cases hc : can (runN L A Q (s + d)) A k with
    | false =>
      left
      have : (List.range w).all (fun d => can (runN L A Q (s + d)) A k) = false := by
        rw [List.all_eq_false]
        exact ⟨d, List.mem_range.2 hd, by rw [hc]; decide⟩
      rw [this]; rfl
    | true =>
      right
      rw [hc] at e
      exact ⟨d, hd, by simpa using e⟩
theorem fairB_no {L A Q : List Int} {w s k : Nat} (hw : 1 ≤ w) (hk : k < L.length) (hs : s + w ≤ Q.length) (hq : ∀ i, i < Q.length → 0 ≤ ith Q i) (h : okW L A Q w s k = false) : fairB L A Q w = false := by
  cases e : fairB L A Q w with
  | false => rfl
  | true =>
    rw [fair_iff hw] at e
    rw [(okW_iff hs hq).2 (e k hk s hs)] at h; cases h
theorem fairB_yes {L A Q : List Int} {w : Nat} (hw : 1 ≤ w) (hq : ∀ i, i < Q.length → 0 ≤ ith Q i) (h : ∀ s k, s + w ≤ Q.length → k < L.length → okW L A Q w s k = true) : fairB L A Q w = true :=
  (fair_iff hw).2 fun k hk s hs => (okW_iff hs hq).1 (h s k hs hk)
def allW (L A Q : List Int) (s k : Nat) (d : Nat) : Bool := (List.range d).all fun d => can (runN L A Q (s + d)) A k
theorem allW_succ (L A Q : List Int) (s k d : Nat) : allW L A Q s k (d + 1) = (allW L A Q s k d && can (runN L A Q (s + d)) A k) := by
  unfold allW
  rw [List.range_succ, List.all_append]
  simp
theorem okW_no {L A Q : List Int} {w s k : Nat} (h : allW L A Q s k w = false) : okW L A Q w s k = true := by unfold allW at h; unfold okW; rw [h]; rfl
theorem okW_has {L A Q : List Int} {w s k : Nat} (h : allW L A Q s k w = true) : okW L A Q w s k = decide ((k : Int) ∈ (Q.take (s + w)).drop s) := by unfold allW at h; unfold okW; rw [h]; rfl
set_option maxHeartbeats 4000000 in
set_option maxRecDepth 100000 in
theorem rFair_any (L A Q : List Int) (lv av pv : Value) (x : Int) (w : World) (hL : RdN w lv L) (hA : RdN w av A) (hQ : RdN w pv Q) (hxm : Q.length ≤ 1000000) :
    Calls Try.prog 26 #[.agg (tkC lv av), pv, .int .i64 x] w fun e w' => e = .returned (.tuple #[.bool (fairV L A Q x), .int .i64 (fairE L A Q x)]) ∧ Below w.heap.size w w' := by
  obtain ⟨la, lc, rfl⟩ := hL.slice
  obtain ⟨pa, pc, rfl⟩ := hQ.slice
  obtain ⟨m, hm⟩ : ∃ m, Q.length = m := ⟨_, rfl⟩
  have hm' := Lib.hid hm
  obtain ⟨n, hn⟩ : ∃ n, L.length = n := ⟨_, rfl⟩
  have hn' := Lib.hid hn
  rw [hm] at hQ hxm ⊢
  rw [hn] at hL ⊢
  obtain ⟨W, hW⟩ : ∃ W, W = w.alloc (.cells (tkC (.slice la n lc) av) 24) := ⟨_, rfl⟩
  have hS := Lib.hid (show Below w.heap.size w W by rw [hW]; exact below_a _ _)
  have r0 := Lib.hid (show W.heap[w.heap.size]? = some (.cells (tkC (.slice la n lc) av) 24 (0, 0)) by rw [hW]; exact heap_alloc_new w _)
  have hsz := Lib.hid (show W.heap.size = w.heap.size + 1 by rw [hW]; simp)
  have hX := Lib.hid (Below.refl W.heap.size W)
  have hrow := Lib.hid (fun (wz : World) (h : Below W.heap.size W wz) => rowB r0.out h (Array.getElem?_eq_some_iff.1 r0.out).1)
  have hC0 := Lib.hid (fun (wz : World) (h : Below W.heap.size W wz) => rPicks_any L A Q (.slice la n lc) av (.slice pa m pc) wz (hL.mono (hS.out.trans (h.mono hS.out.size))) (hA.mono (hS.out.trans (h.mono hS.out.size))) (hQ.mono (hS.out.trans (h.mono hS.out.size))))
  have hT0 := Lib.hid (fun (wz : World) (h : Below W.heap.size W wz) (h1 : L.length ≤ 1000) (h2 : A.length ≤ 1000) => twin_any L A (.slice la n lc) av wz (hL.mono (hS.out.trans (h.mono hS.out.size))) (hA.mono (hS.out.trans (h.mono hS.out.size))) h1 h2)
  have hQ' := Lib.hid hQ
  clear hL hA hQ hn hm
  by_cases h0 : pckE L A Q = 0
  case neg =>
    obtain ⟨e1, e2⟩ := fair_bad h0 x
    rw [e1, e2]
    have hC := hC0
    clear e1 e2 hC0 hT0
    generalize pckE L A Q = R at *
    go_enter Try.func26, Try.ntmps26
    go_upto_region 1 with fail
    rw [← hW]
    clear hW
    go_wp2_with (first
        | (refine wpList_load_row_g rfl 24 _ rfl w.heap.size rfl 24 (tkC (.slice la n lc) av) (0, 0) _ (hrow.out _ hX.out) Try.underlying24 rfl info_tk ?_)
        | (go_at_call 30; (with_reducible refine (hC.out _ hX.out).mono ?_); rintro e9 w9 ⟨rfl, q9⟩; replace hX := Lib.hid (hX.out.trans (Below.mono q9 hX.out.size)); clear q9))
    go_ret2
    exact ⟨rfl, hS.out.trans (hX.out.mono hS.out.size)⟩
  case pos =>
    have hO := pckE_zero h0
    rw [h0] at hC0
    have hC := hC0
    by_cases g1 : x < 1
    · obtain ⟨e1, e2⟩ := fair_arg h0 g1
      rw [e1, e2]
      clear e1 e2 hC0 hT0 hO h0
      go_enter Try.func26, Try.ntmps26
      go_upto_region 1 with fail
      rw [← hW]
      clear hW
      go_wp2_with (first
          | (refine wpList_load_row_g rfl 24 _ rfl w.heap.size rfl 24 (tkC (.slice la n lc) av) (0, 0) _ (hrow.out _ hX.out) Try.underlying24 rfl info_tk ?_)
          | (go_at_call 30; (with_reducible refine (hC.out _ hX.out).mono ?_); rintro e9 w9 ⟨rfl, q9⟩; replace hX := Lib.hid (hX.out.trans (Below.mono q9 hX.out.size)); clear q9))
      go_ret2
      exact ⟨rfl, hS.out.trans (hX.out.mono hS.out.size)⟩
    obtain ⟨e1, e2⟩ := fair_fine h0 g1
    rw [e1, e2]
    clear e1 e2 h0
    obtain ⟨X, rfl⟩ : ∃ X : Nat, x = (X : Int) := ⟨x.toNat, by omega⟩
    rw [Int.toNat_natCast]
    have hX1 : 1 ≤ X := by omega
    have hq0 := Lib.hid (show ∀ i, i < Q.length → 0 ≤ ith Q i from fun i hi => (hO.el i hi).1)
    by_cases g2 : m < X
    · have hR := Lib.hid (fairB_yes (L := L) (A := A) hX1 hq0.out (fun s k hs hk => by rw [hm'.out] at hs; omega))
      have g2I : (m : Int) < (X : Int) := by omega
      clear hC0 hT0 hO
      rw [hR.out]
      go_enter Try.func26, Try.ntmps26
      go_upto_region 1 with fail
      rw [← hW]
      clear hW
      go_wp2_with (first
          | (refine wpList_load_row_g rfl 24 _ rfl w.heap.size rfl 24 (tkC (.slice la n lc) av) (0, 0) _ (hrow.out _ hX.out) Try.underlying24 rfl info_tk ?_)
          | (go_at_call 30; (with_reducible refine (hC.out _ hX.out).mono ?_); rintro e9 w9 ⟨rfl, q9⟩; replace hX := Lib.hid (hX.out.trans (Below.mono q9 hX.out.size)); clear q9))
      go_ret2
      exact ⟨rfl, hS.out.trans (hX.out.mono hS.out.size)⟩
    have g2I : ¬ (m : Int) < (X : Int) := by omega
    have n12 := hO.t.hi
    have n1 := hO.t.lo
    have nA := hO.t.na
    have m300 := hO.many
    rw [hn'.out] at n12 n1 nA
    rw [hm'.out] at m300
    have nA' := Lib.hid nA
    have hO' := Lib.hid hO
    have hT := Lib.hid (fun wz h => hT0.out wz h (by rw [hn'.out]; omega) (by omega))
    have hbno := Lib.hid (fun s k (hk : k < L.length) (hs : s + X ≤ Q.length) h => fairB_no (A := A) hX1 hk hs hq0.out h)
    have hbyes := Lib.hid (fun h => fairB_yes (L := L) (A := A) hX1 hq0.out h)
    clear hC0 hT0 hO nA
    generalize fairB L A Q X = FB at *
    go_enter Try.func26, Try.ntmps26
    go_upto_region 1 with fail
    rw [← hW]
    clear hW
    go_upto_region 7 with (first
        | (refine wpList_load_row_g rfl 24 _ rfl w.heap.size rfl 24 (tkC (.slice la n lc) av) (0, 0) _ (hrow.out _ hX.out) Try.underlying24 rfl info_tk ?_)
        | (go_at_call 30; (with_reducible refine (hC.out _ hX.out).mono ?_); rintro e9 w9 ⟨rfl, q9⟩; replace hX := Lib.hid (hX.out.trans (Below.mono q9 hX.out.size)); clear q9))
    have r2 := Lib.hid (hrow.out _ hX.out)
    have hT9 := Lib.hid (hT.out _ hX.out)
    have hX9 := Lib.hid (hS.out.trans (hX.out.mono hS.out.size)); have hz9 := Lib.hid hX.out.size
    clear hX hrow hT hC r0
    go_upto_region 9 with (first
      | (refine wpList_load_row_g rfl 24 _ rfl w.heap.size rfl 24 (tkC (.slice la n lc) av) (0, 0) _ r2.out Try.underlying24 rfl info_tk ?_)
      | (go_at_call 10; (with_reducible refine hT9.out.mono ?_); rintro e8 w8 ⟨xv, yv, rfl, hTw, q8⟩; have hTw' := Lib.hid hTw; have q8' := Lib.hid q8; have one8 := Lib.hid (tk_one xv yv (own_one hTw.x) (own_one hTw.y)); have r5 := Lib.hid (rowK r2.out q8); clear hTw q8)
      | (refine storeNew _ rfl 24 _ _ rfl (tkC xv yv) 24 rfl rfl info_tk rfl one8.out ?_; intro w5 hrx hbx; have rx := Lib.hid hrx; have hbx' := Lib.hid hbx; clear hrx hbx))
    obtain ⟨g, c, rfl, hg0, hc1, hc2, hig⟩ := (hTw'.out.x.mono (Nat.le_refl _)).row (by rw [hn'.out]; omega)
    obtain ⟨h, c2, rfl, hh0, hd1, hd2, hih⟩ := (hTw'.out.y.mono (Nat.le_refl _)).row (by rw [nA'.out]; omega)
    have hgh : h ≠ g := fun e => hTw'.out.ne g rfl (by rw [← e]; rfl)
    rw [hn'.out] at hc1 rx ⊢
    rw [nA'.out] at hd1 rx ⊢
    have hi0 := Lib.hid (show RunI w w5.heap.size g h w8.heap.size w.heap.size (tkC (.slice (some ⟨g, 0, none⟩) n c) (.slice (some ⟨h, 0, none⟩) n c2)) (tkC (.slice la n lc) av) A (runN L A Q 0) w5 from
      ⟨(hX9.out.trans (q8'.out.mono hX9.out.size)).trans (hbx'.out.mono (Nat.le_trans hX9.out.size q8'.out.size)), Nat.le_refl _, hig.below hbx'.out, hih.below hbx'.out, rx.out, rowK r5.out hbx'.out⟩)
    have hlt5 := (Array.getElem?_eq_some_iff.1 rx.out).1
    have hG := Lib.hid (show RunG w w5.heap.size g h w8.heap.size w.heap.size from ⟨by have := hsz.out; have := hz9.out; omega, by have := hsz.out; have := hz9.out; omega, Nat.lt_of_lt_of_le hig.lt hbx'.out.size, Nat.lt_of_lt_of_le hih.lt hbx'.out.size, hgh, hlt5, by have := hig.lt; omega, by have := hig.lt; have := hsz.out; have := hz9.out; omega, by have := hsz.out; have := hz9.out; omega, by have := hsz.out; have := hz9.out; omega⟩)
    have hw8 := Lib.hid (show w.heap.size ≤ w5.heap.size from Nat.le_trans (Nat.le_trans hX9.out.size q8'.out.size) hbx'.out.size)
    have hc1' := Lib.hid hc1; have hc2' := Lib.hid hc2; have hd1' := Lib.hid hd1; have hd2' := Lib.hid hd2
    clear hTw' q8' one8 rx hbx' r5 r2 hT9 hX9 hz9 hg0 hh0 hig hih hgh hc1 hc2 hd1 hd2 hsz hlt5
    obtain ⟨B5, hB5⟩ : ∃ B5, B5 = w5.heap.size := ⟨_, rfl⟩
    rw [← hB5] at hi0 hG hw8
    clear hB5
    go_wp2
    go_loopw [8, 10] (fun v i wr => ∃ k : Nat, k ≤ m ∧ i = .int .i64 (k : Int) ∧ RunI w B5 g h w8.heap.size w.heap.size (tkC (.slice (some ⟨g, 0, none⟩) n c) (.slice (some ⟨h, 0, none⟩) n c2)) (tkC (.slice la n lc) av) A (runN L A Q k) wr ∧ OwnM B5 3 22 wr v (befN L A Q n k)) (fun _ i _ => m - (intOf i).toNat)
    case atStart => exact ⟨0, Nat.zero_le _, rfl, hi0.out, OwnM.nil _ _ _ _⟩
    case round =>
      obtain ⟨k, hk, rfl, hI0, ho⟩ := hrel
      have hI := Lib.hid hI0
      have hbl := Lib.hid (befN_length L A Q n k)
      have ho' := Lib.hid ho
      obtain ⟨va, vc, rfl⟩ := ho.slice
      rw [hbl.out] at ho' ⊢
      clear hI0 ho hi0
      by_cases hlt : k < m
      · obtain ⟨b, o, rfl, hbw, q1⟩ := rdN_at hQ'.out k (by rw [hm'.out]; exact hlt)
        have hkI : (k : Int) < (m : Int) := by omega
        have hel := hO'.out.el k (by rw [hm'.out]; exact hlt)
        obtain ⟨p, hp⟩ : ∃ p : Nat, ith Q k = (p : Int) := ⟨(ith Q k).toNat, by omega⟩
        have hpk : pk Q k = p := by unfold pk; rw [hp, Int.toNat_natCast]
        have hpn : p < n := by have := hn'.out; omega
        have hst := runN_step L A Q k
        rw [hpk] at hst
        have hst' := Lib.hid hst
        have hOk := Lib.hid (runN_ok hO'.out.t k (P := Q))
        have hlk := Lib.hid (show (runN L A Q k).length = n by rw [runN_length, hn'.out])
        have hcan := Lib.hid (fun h : can (runN L A Q k) A p = false => can_false h)
        have hyes := Lib.hid (fun h : can (runN L A Q k) A p = true => And.intro (can_true h) (can_iff.1 h).1)
        have q1' := Lib.hid (show ∀ wz, Below w.heap.size w wz → wz.cell? ⟨b, o + k, none⟩ = some (.int .i64 (p : Int)) from fun wz h => by rw [← hp]; exact q1 wz h)
        have hN1 := Lib.hid (show befN L A Q n (k + 1) = befN L A Q n k ++ [allN (runN L A Q k) A n] from rfl)
        clear q1 hel hp hpk hst
        generalize hSt : runN L A Q k = St at *
        generalize hDd : befN L A Q n k = Dd at *
        clear hSt hDd
        have hAh := Lib.hid (show ∀ wz, IRow 3 wz h A → HeldN g wz (.slice (some ⟨h, 0, none⟩) n c2) A from fun wz hb => by
          have e := heldN_row hb hG.out.gh (by rw [nA'.out]; exact hd1'.out) hd2'.out
          rwa [nA'.out] at e)
        have hAll := Lib.hid (show Calls Try.prog 35 #[.agg (tkC (.slice (some ⟨g, 0, none⟩) n c) (.slice (some ⟨h, 0, none⟩) n c2))] wr fun e w' => ∃ v, e = .returned v ∧ OwnN wr.heap.size 3 w' v (allN St A n) ∧ Below wr.heap.size wr w' from by
          have e := hI.out.row.rd2 (by rw [hlk.out]; exact hc1'.out) hc2'.out
          rw [hlk.out] at e
          have e2 := rAll_any St A (.slice (some ⟨g, 0, none⟩) n c) (.slice (some ⟨h, 0, none⟩) n c2) wr e (hAh.out wr hI.out.aft).now hOk.out
          rwa [hlk.out] at e2)
        generalize allN St A n = NA at *
        go_upto_region 12 with fail
        go_wp2_with (first
          | (refine wpList_load_row_g rfl 24 _ rfl w8.heap.size rfl 24 (tkC (.slice (some ⟨g, 0, none⟩) n c) (.slice (some ⟨h, 0, none⟩) n c2)) (0, 0) _ hI.out.box Try.underlying24 rfl info_tk ?_)
          | (go_at_call 35; (with_reducible refine hAll.out.mono ?_); rintro e9 w9 ⟨v, rfl, q8, q9⟩; have hI9 := Lib.hid (hI.out.below q9); have ho9 := Lib.hid (ho'.out.kept q9); have q8' := Lib.hid (q8.mono hI.out.s); obtain ⟨xa, xc, rfl⟩ := q8.slice; have hXb := Lib.hid (below_a w9 (.cells #[.slice xa NA.length xc] 22)); have ho8 := Lib.hid (ho9.out.kept hXb.out); have hq8 := Lib.hid (q8'.out.kept hXb.out); have hI8 := Lib.hid (hI9.out.below hXb.out); have hs8 := Lib.hid (Nat.le_trans hI9.out.s hXb.out.size); clear q8 q9)
          | (refine appendM rfl _ _ 66 rfl B5 3 22 Try.underlying66 (by kernel_rfl) (by decide) _ rfl Dd ho8.out w9.heap.size 1 rfl (.slice xa NA.length xc) _ (heap_alloc_new w9 _) NA hq8.out (by have := hbl.out; omega) hs8.out ?_))
        intro v' w6 y1 y2
        have hI6 := Lib.hid (hI8.out.appM hG.out hw8.out ho8.out y2)
        have hM6 := Lib.hid y1
        obtain ⟨va', vc', hv'⟩ := y1.slice
        subst hv'
        clear y1 y2 hI ho' hAll hI9 ho9 q8' hXb ho8 hq8 hI8 hs8
        refine Stop.go ?_
        have hbl2 := Lib.hid (show (Dd ++ [NA]).length = k + 1 by rw [List.length_append, hbl.out]; rfl)
        rw [hbl2.out] at hM6 ⊢
        generalize Dd ++ [NA] = D2 at *
        have hkb := Lib.hid (fun wz (h : Below w6.heap.size w6 wz) => q1'.out wz (hI6.out.b.trans (h.mono hI6.out.b.size)))
        have hStp := Lib.hid (show ∀ wz, Below w6.heap.size w6 wz → Calls Try.prog 31 #[.agg (tkC (.slice (some ⟨g, 0, none⟩) n c) (.slice (some ⟨h, 0, none⟩) n c2)), .int .i64 (p : Int)] wz fun e w' => e = .returned (.bool (can St A p)) ∧ Below wz.heap.size wz w' from fun wz hb => by
          have e := (hI6.out.row.below hb).rd2 (by rw [hlk.out]; exact hc1'.out) hc2'.out
          rw [hlk.out] at e
          exact rCan_any St A (.slice (some ⟨g, 0, none⟩) n c) (.slice (some ⟨h, 0, none⟩) n c2) p wz e (hAh.out wz (hI6.out.aft.below hb)).now hOk.out (by rw [hlk.out]; exact hpn))
        have hel8 := Lib.hid (hOk.out.el p (by rw [hlk.out]; exact hpn)).1
        generalize hSq : stepL St A p = Sq at *
        clear hSq
        cases hB : can St A p with
        | true =>
          obtain ⟨hst2, hx0⟩ := hyes.out hB
          rw [hB] at hStp
          clear hB hcan hyes
          go_upto_region 13 with fail
          refine wp_region_headN (C := fun w' => Below w6.heap.size w6 w') 5 [] (by kernel_rfl) (by kernel_rfl) ((Below.refl _ _).drew) ?_
          simp only [List.take_succ_cons, List.take_zero, List.drop_succ_cons, List.drop_zero]
          refine head_step _ (by rfl) (quiet_row 24 _ rfl _ rfl 24 (tkC (.slice (some ⟨g, 0, none⟩) n c) (.slice (some ⟨h, 0, none⟩) n c2)) (0, 0) _ (fun wz h => rowK hI6.out.box h) Try.underlying24 rfl info_tk) rfl rfl (fun K hK => ?_); go_simp; refine hK _ ?_; clear hK K
          refine head_walk (by rfl) (fun K hK => ?_); go_simp; first | (refine ⟨_, fun _ _ => rfl, hK _ ?_⟩) | (refine hK _ ?_)
          clear hK K
          refine head_walk (by rfl) (fun K hK => ?_); go_simp; first | (refine ⟨_, fun _ _ => rfl, hK _ ?_⟩) | (refine hK _ ?_)
          clear hK K
          refine head_walk (by rfl) (fun K hK => ?_); go_simp; first | (refine ⟨_, fun _ _ => rfl, hK _ ?_⟩) | (refine hK _ ?_)
          clear hK K
          refine head_step (.int .i64 (p : Int)) (by rfl) (quiet_cell 3 _ rfl b (o + k) rfl (.int .i64 (p : Int)) (fun wz h => hkb.out wz h) Try.isAgg3) rfl rfl (fun K hK => ?_); go_simp; refine hK _ ?_; clear hK K
          refine head_nil ?_
          intro w7 h7
          go_wp2_with (go_at_call 31; (with_reducible refine (hStp.out _ h7).mono ?_); rintro e9 w9 ⟨rfl, q9⟩; have q9' := Lib.hid (h7.trans (q9.mono h7.size)); clear q9)
          refine NoPanic.normal ?_
          try simp only [Exit.inBlock, Exit.then]
          have hI9 := Lib.hid (hI6.out.below q9'.out)
          have ho9 := Lib.hid (hM6.out.kept q9'.out)
          clear h7
          go_upto_region 14 with fail
          have hk9 := Lib.hid (fun wz (h : Below w9.heap.size w9 wz) => hkb.out wz (q9'.out.trans (h.mono q9'.out.size)))
          have hs9 := Lib.hid (fun wz (h : Below w9.heap.size w9 wz) => (hI9.out.row.below h).cell p (by rw [hlk.out]; exact hpn))
          have hwr : IntKind.i64.wrap (ith St p - 1) = ith St p - 1 := IntWalk.i64_in _ (by have := hel8.out; omega)
          have hpI : (p : Int) < (n : Int) := by omega
          have hset := Lib.hid (fun wz (h : Below w9.heap.size w9 wz) x => (hI9.out.row.below h).set p (by rw [hlk.out]; exact hpn) x)
          have hst2' := Lib.hid hst2
          have hf9 := Lib.hid (fun wz (h : Below w9.heap.size w9 wz) => (hI9.out.row.below h).frozen p)
          clear hst2
          generalize ith St p = x at *
          refine wp_region_headN (C := fun w' => Below w9.heap.size w9 w') 10 [] (by kernel_rfl) (by kernel_rfl) ((Below.refl _ _).drew) ?_
          simp only [List.take_succ_cons, List.take_zero, List.drop_succ_cons, List.drop_zero]
          refine head_walk (by rfl) (fun K hK => ?_); go_simp; first | (refine ⟨_, fun _ _ => rfl, hK _ ?_⟩) | (refine hK _ ?_)
          clear hK K
          refine head_step (.slice (some ⟨g, 0, none⟩) n c) (by rfl) (quiet_cell 22 _ rfl w8.heap.size 0 rfl (.slice (some ⟨g, 0, none⟩) n c) (fun wz h => by rw [cell_of_row _ _ _ _ _ _ (rowK hI9.out.box h)]; rfl) Try.isAgg22) rfl rfl (fun K hK => ?_); go_simp; refine hK _ ?_; clear hK K
          refine head_walk (by rfl) (fun K hK => ?_); go_simp; first | (refine ⟨_, fun _ _ => rfl, hK _ ?_⟩) | (refine hK _ ?_)
          clear hK K
          refine head_walk (by rfl) (fun K hK => ?_); go_simp; first | (refine ⟨_, fun _ _ => rfl, hK _ ?_⟩) | (refine hK _ ?_)
          clear hK K
          refine head_walk (by rfl) (fun K hK => ?_); go_simp; first | (refine ⟨_, fun _ _ => rfl, hK _ ?_⟩) | (refine hK _ ?_)
          clear hK K
          refine head_step (.int .i64 (p : Int)) (by rfl) (quiet_cell 3 _ rfl b (o + k) rfl (.int .i64 (p : Int)) (fun wz h => hk9.out wz h) Try.isAgg3) rfl rfl (fun K hK => ?_); go_simp; refine hK _ ?_; clear hK K
          refine head_walk (by rfl) (fun K hK => ?_); go_simp; first | (refine ⟨_, fun _ _ => rfl, hK _ ?_⟩) | (refine hK _ ?_)
          clear hK K
          refine head_step (.int .i64 x) (by rfl) (quiet_cell 3 _ rfl g p rfl (.int .i64 x) (fun wz h => hs9.out wz h) Try.isAgg3) rfl rfl (fun K hK => ?_); go_simp; refine hK _ ?_; clear hK K
          refine head_walk (by rfl) (fun K hK => ?_); go_simp; first | (refine ⟨_, fun _ _ => rfl, hK _ ?_⟩) | (refine hK _ ?_)
          clear hK K
          refine head_walk (by rfl) (fun K hK => ?_); go_simp; first | (refine ⟨_, fun _ _ => rfl, hK _ ?_⟩) | (refine hK _ ?_)
          clear hK K
          refine head_nil ?_
          intro w7 h7
          have f7 := hf9.out _ h7
          have d7 := hs9.out _ h7
          have h7' := Lib.hid h7
          go_wp2
          refine NoPanic.normal ?_
          try simp only [Exit.inBlock, Exit.then]
          have hSx := Lib.hid (hset.out _ h7'.out (x - 1))
          have hI5 := Lib.hid ((hI9.out.below h7'.out).step hG.out (elsN_set g p _ (.int .i64 (x - 1))) hSx.out)
          have ho5 := Lib.hid ((ho9.out.kept h7'.out).els (elsN_set g p _ (.int .i64 (x - 1))) hG.out.g5)
          clear f7 d7 h7 hSx hset
          generalize w7.setCell ⟨g, p, none⟩ (.int .i64 (x - 1)) = w4 at *
          go_wp2
          go_roundw
          case rel => exact ⟨k + 1, by omega, by go_num, by rw [hst'.out, hst2'.out]; exact hI5.out, by rw [hN1.out]; exact ho5.out⟩
          case measure => simp [intOf]; omega
        | false =>
          have hSt9 := Lib.hid (hcan.out hB)
          rw [hB] at hStp
          clear hB hcan hyes
          go_upto_region 13 with fail
          refine wp_region_headN (C := fun w' => Below w6.heap.size w6 w') 5 [] (by kernel_rfl) (by kernel_rfl) ((Below.refl _ _).drew) ?_
          simp only [List.take_succ_cons, List.take_zero, List.drop_succ_cons, List.drop_zero]
          refine head_step _ (by rfl) (quiet_row 24 _ rfl _ rfl 24 (tkC (.slice (some ⟨g, 0, none⟩) n c) (.slice (some ⟨h, 0, none⟩) n c2)) (0, 0) _ (fun wz h => rowK hI6.out.box h) Try.underlying24 rfl info_tk) rfl rfl (fun K hK => ?_); go_simp; refine hK _ ?_; clear hK K
          refine head_walk (by rfl) (fun K hK => ?_); go_simp; first | (refine ⟨_, fun _ _ => rfl, hK _ ?_⟩) | (refine hK _ ?_)
          clear hK K
          refine head_walk (by rfl) (fun K hK => ?_); go_simp; first | (refine ⟨_, fun _ _ => rfl, hK _ ?_⟩) | (refine hK _ ?_)
          clear hK K
          refine head_walk (by rfl) (fun K hK => ?_); go_simp; first | (refine ⟨_, fun _ _ => rfl, hK _ ?_⟩) | (refine hK _ ?_)
          clear hK K
          refine head_step (.int .i64 (p : Int)) (by rfl) (quiet_cell 3 _ rfl b (o + k) rfl (.int .i64 (p : Int)) (fun wz h => hkb.out wz h) Try.isAgg3) rfl rfl (fun K hK => ?_); go_simp; refine hK _ ?_; clear hK K
          refine head_nil ?_
          intro w7 h7
          go_wp2_with (go_at_call 31; (with_reducible refine (hStp.out _ h7).mono ?_); rintro e9 w9 ⟨rfl, q9⟩; have q9' := Lib.hid (h7.trans (q9.mono h7.size)); clear q9)
          refine NoPanic.normal ?_
          try simp only [Exit.inBlock, Exit.then]
          have hI9 := Lib.hid (hI6.out.below q9'.out)
          have ho9 := Lib.hid (hM6.out.kept q9'.out)
          clear h7
          go_wp2
          go_roundw
          case rel => exact ⟨k + 1, by omega, by go_num, by rw [hst'.out, hSt9.out]; exact hI9.out, by rw [hN1.out]; exact ho9.out⟩
          case measure => simp [intOf]; omega
      · obtain rfl : k = m := by omega
        have hbx := Lib.hid hI.out.res
        have hB0 := Lib.hid hI.out.b
        have hM := Lib.hid ho'.out.rd
        have hn12 := Lib.hid n12
        have hD := Lib.hid (fun j (h : j < k) => befN_at L A Q n k j h)
        clear hI ho' hO' hG hc1' hc2' hd1' hd2' nA' hw8 n12 n1
        have hok0 := Lib.hid (show ∀ t, t < n → ∀ j, decide ((t : Int) ∈ allN (runN L A Q j) A n) = can (runN L A Q j) A t from fun t ht j => allN_can ht)
        have hkm : k ≤ 300 := m300
        obtain ⟨wS, hwS⟩ : ∃ wS, wS = wr := ⟨_, rfl⟩
        rw [← hwS] at hbx hB0 hM
        go_upto_region 15 with fail
        rw [← hwS]
        clear hwS
        go_wp2
        go_loopw [11] (fun i wr => ∃ s : Nat, s ≤ k + 1 ∧ i = .int .i64 (s : Int) ∧ Below wS.heap.size wS wr ∧ ∀ s', s' < s → s' + X ≤ k → ∀ t, t < n → okW L A Q X s' t = true) (fun i _ => k + 1 - (intOf i).toNat)
        case atStart => exact ⟨0, Nat.zero_le _, rfl, Below.refl _ _, fun s hs => absurd hs (Nat.not_lt_zero _)⟩
        case round =>
          obtain ⟨s, hs, rfl, hb0, he0⟩ := hrel
          have hb := Lib.hid hb0; have he := Lib.hid he0
          clear hb0 he0
          have hsum : IntKind.i64.wrap ((s : Int) + (X : Int)) = (s : Int) + (X : Int) := IntWalk.i64_in _ (by omega)
          by_cases hsk : s + X ≤ k
          · have hskI : (s : Int) + (X : Int) ≤ (k : Int) := by omega
            go_wp2
            go_loopw [12] (fun i wr => ∃ t : Nat, t ≤ n ∧ i = .int .i64 (t : Int) ∧ Below wS.heap.size wS wr ∧ ∀ t', t' < t → okW L A Q X s t' = true) (fun i _ => n - (intOf i).toNat)
            case atStart => exact ⟨0, Nat.zero_le _, rfl, hb.out, fun t ht => absurd ht (Nat.not_lt_zero _)⟩
            case round =>
              obtain ⟨t, ht, rfl, hb0, he1⟩ := hrel
              clear hb
              have hb := Lib.hid hb0; have het := Lib.hid he1
              have c0 : wr.cell? ⟨w.heap.size, 0, none⟩ = some (.slice la n lc) := by rw [cell_of_row _ _ _ _ _ _ (rowK hbx.out hb0)]; rfl
              clear hb0 he1
              by_cases htn : t < n
              · have htI : (t : Int) < (n : Int) := by omega
                go_wp2
                clear c0
                go_loopw [13, 14] (fun a j wr => ∃ d : Nat, d ≤ X ∧ a = .bool (allW L A Q s t d) ∧ j = .int .i64 ((s : Int) + (d : Int)) ∧ Below wS.heap.size wS wr) (fun _ j _ => s + X - (intOf j).toNat)
                case atStart => exact ⟨0, Nat.zero_le _, rfl, by simp, hb.out⟩
                case round =>
                  obtain ⟨d, hd, rfl, rfl, hb0⟩ := hrel
                  clear hb
                  have hb := Lib.hid hb0
                  clear hb0
                  by_cases hdX : d < X
                  · have hdI : (s : Int) + (d : Int) < (s : Int) + (X : Int) := by omega
                    have hwd : IntKind.i64.wrap ((s : Int) + (d : Int) + 1) = (s : Int) + (((d + 1 : Nat)) : Int) := by rw [IntWalk.i64_in _ (by omega)]; omega
                    have hsc := Lib.hid (allW_succ L A Q s t d)
                    cases haw : allW L A Q s t d with
                    | false =>
                      have hnew := Lib.hid (show allW L A Q s t (d + 1) = false by rw [hsc.out, haw]; rfl)
                      clear haw hsc
                      go_wp2
                      go_roundw
                      case rel => exact ⟨d + 1, by omega, by rw [hnew.out], by first | rfl | (rw [← hwd]) | (congr 1; omega), hb.out⟩
                      case measure => simp [intOf]; omega
                    | true =>
                      have hnew := Lib.hid (show allW L A Q s t (d + 1) = can (runN L A Q (s + d)) A t by rw [hsc.out, haw]; rfl)
                      have hj : s + d < k := by omega
                      have hln := Lib.hid (befN_length L A Q n k)
                      obtain ⟨b2, o2, rfl, hbl2, sv, hcell, hsr⟩ := (hM.out).at (s + d) (by rw [hln.out]; exact hj)
                      rw [hD.out (s + d) hj] at hsr
                      have dj : wr.cell? ⟨b2, o2 + (s + d), none⟩ = some sv := by rw [hb.out.cell (p := (⟨b2, o2 + (s + d), none⟩ : Addr)) hbl2]; exact hcell
                      have hH := Lib.hid (has_any (allN (runN L A Q (s + d)) A n) (t : Int) sv wr (hsr.mono hb.out))
                      rw [hok0.out t htn (s + d)] at hH
                      have hjI : (s : Int) + (d : Int) < (k : Int) := by omega
                      have hj0 : (0 : Int) ≤ (s : Int) + (d : Int) := by omega
                      have hjt : ((s : Int) + (d : Int)).toNat = s + d := by omega
                      obtain ⟨sa, sc, rfl⟩ := hsr.slice
                      clear haw hsc hsr hcell
                      generalize (allN (runN L A Q (s + d)) A n).length = zl at *
                      generalize can (runN L A Q (s + d)) A t = cb at *
                      go_wp2_with (go_at_call 41; (with_reducible refine hH.out.mono ?_); rintro e9 w9 ⟨rfl, q9⟩; have hb9 := Lib.hid (hb.out.trans (q9.mono hb.out.size)); clear q9)
                      go_roundw
                      case rel => exact ⟨d + 1, by omega, by rw [hnew.out], by first | rfl | (rw [← hwd]) | (congr 1; omega), hb9.out⟩
                      case measure => simp [intOf]; omega
                  · obtain rfl : d = X := by omega
                    have hdI : ¬ ((s : Int) + (d : Int) < (s : Int) + (d : Int)) := by omega
                    have hsum2 : IntKind.i64.wrap ((s : Int) + (d : Int)) = (s : Int) + (d : Int) := IntWalk.i64_in _ (by omega)
                    have ht1 : IntKind.i64.wrap ((t : Int) + 1) = (t : Int) + 1 := IntWalk.i64_in _ (by have := hn12.out; omega)
                    have hstep := Lib.hid (fun h : okW L A Q d s t = true => (show ∀ t', t' < t + 1 → okW L A Q d s t' = true from fun t' h1 => by
                      rcases Nat.lt_or_ge t' t with g | g
                      · exact het.out t' g
                      · obtain rfl : t' = t := by omega
                        exact h))
                    have hno := Lib.hid (fun h : okW L A Q d s t = false => hbno.out s t (by rw [hn'.out]; exact htn) (by rw [hm'.out]; exact hsk) h)
                    cases haw : allW L A Q s t d with
                    | false =>
                      have hnew := Lib.hid (hstep.out (okW_no haw))
                      clear haw hno hstep
                      go_wp2
                      go_roundw
                      case rel => exact ⟨t + 1, by omega, by go_num, hb.out, hnew.out⟩
                      case measure => simp [intOf]; omega
                    | true =>
                      have hokw := Lib.hid (okW_has haw)
                      have hQw := Lib.hid (hQ'.out.mono (hB0.out.trans (hb.out.mono hB0.out.size)))
                      clear haw hdI
                      have hdd : ¬ ((s : Int) + (d : Int) < (s : Int) + (d : Int)) := by omega
                      have hmem := Lib.hid (fun v wz (h : RdN wz v ((Q.take (s + d)).drop s)) => has_any ((Q.take (s + d)).drop s) (t : Int) v wz h)
                      rw [hokw.out] at hstep hno
                      clear hokw
                      generalize decide ((t : Int) ∈ (Q.take (s + d)).drop s) = mb at *
                      cases mb with
                      | true =>
                        have hnew := Lib.hid (hstep.out (by first | rfl | trivial))
                        clear hstep hno
                        go_wp2_with (first
                          | (refine wpList_sliceN rfl 22 _ _ _ rfl Try.underlying22 (by kernel_rfl) wr Q _ k _ rfl hQw.out hm'.out s (s + d) rfl (by simp [Act.eval]) (Nat.le_add_right _ _) hsk d (by omega) ?_; intro b' c' hcut; have hcut' := Lib.hid hcut; clear hcut)
                          | (go_at_call 41; (with_reducible refine (hmem.out _ _ hcut'.out).mono ?_); rintro e9 w9 ⟨rfl, q9⟩; have hb9 := Lib.hid (hb.out.trans (q9.mono hb.out.size)); clear q9))
                        go_roundw
                        case rel => exact ⟨t + 1, by omega, by go_num, hb9.out, hnew.out⟩
                        case measure => simp [intOf]; omega
                      | false =>
                        have hR := Lib.hid (hno.out (by first | rfl | trivial))
                        clear hstep hno
                        go_wp2_with (first
                          | (refine wpList_sliceN rfl 22 _ _ _ rfl Try.underlying22 (by kernel_rfl) wr Q _ k _ rfl hQw.out hm'.out s (s + d) rfl (by simp [Act.eval]) (Nat.le_add_right _ _) hsk d (by omega) ?_; intro b' c' hcut; have hcut' := Lib.hid hcut; clear hcut)
                          | (go_at_call 41; (with_reducible refine (hmem.out _ _ hcut'.out).mono ?_); rintro e9 w9 ⟨rfl, q9⟩; have hb9 := Lib.hid (hb.out.trans (q9.mono hb.out.size)); clear q9))
                        go_ret2
                        exact ⟨by rw [hR.out]; rfl, hB0.out.trans (hb9.out.mono hB0.out.size)⟩
              · obtain rfl : t = n := by omega
                have hnew := Lib.hid (show ∀ s', s' < s + 1 → s' + X ≤ k → ∀ t', t' < t → okW L A Q X s' t' = true from fun s' h1 h2 t' h3 => by
                  rcases Nat.lt_or_ge s' s with g | g
                  · exact he.out s' g h2 t' h3
                  · obtain rfl : s' = s := by omega
                    exact het.out t' h3)
                have hw1 : IntKind.i64.wrap ((s : Int) + 1) = (((s + 1 : Nat)) : Int) := by rw [IntWalk.i64_in _ (by omega)]; omega
                go_wp2
                go_roundw
                case rel => exact ⟨s + 1, by omega, by go_num, hb.out, hnew.out⟩
                case measure => simp [intOf]; omega
          · have hskI : ¬ ((s : Int) + (X : Int) ≤ (k : Int)) := by omega
            have hR := Lib.hid (hbyes.out (fun s' t h1 h2 => he.out s' (by rw [hm'.out] at h1; omega) (by rw [hm'.out] at h1; exact h1) t (by rw [← hn'.out]; exact h2)))
            go_wp2
            go_ret2
            exact ⟨by rw [hR.out]; rfl, hB0.out.trans (hb.out.mono hB0.out.size)⟩
end Go.Proofs.Ytdebeimognikiaa.con
namespace Go.Proofs.Ytdebeimognikiaa.con
open Go.RowKit Go.Ytdebeimognikiaa
set_option linter.unusedVariables false
def rndE (L A : List Int) (x : Int) : Int := if okT L A then (if x < 0 ∨ 300 < x then 2 else 0) else 8
def rndR (L A : List Int) (x : Int) : List Int := if okT L A then (if x < 0 ∨ 300 < x then [] else (rnd L A L.length x.toNat).out) else []
theorem rnd_bad {L A : List Int} (h : ¬ OkT L A) (x : Int) : rndE L A x = 8 ∧ rndR L A x = [] ∧ chkT L A = 8 := by unfold rndE rndR; rw [okT_no h]; exact ⟨rfl, rfl, chkT_no h⟩
theorem rnd_arg {L A : List Int} (h : OkT L A) {x : Int} (hx : x < 0 ∨ 300 < x) : rndE L A x = 2 ∧ rndR L A x = [] := by unfold rndE rndR; rw [okT_iff.2 h, if_pos rfl, if_pos rfl, if_pos hx, if_pos hx]; exact ⟨rfl, rfl⟩
theorem rnd_fine {L A : List Int} (h : OkT L A) {N : Nat} (hx : N ≤ 300) : rndE L A (N : Int) = 0 ∧ rndR L A (N : Int) = (rnd L A L.length N).out := by
  unfold rndE rndR; rw [okT_iff.2 h, if_pos rfl, if_pos rfl, if_neg (by omega), if_neg (by omega), Int.toNat_natCast]; exact ⟨rfl, rfl⟩
theorem next_or (L A : List Int) (n fr : Nat) (hn : 0 < n) : nextF L A n fr = -1 ∨ ∃ i : Nat, nextF L A n fr = (i : Int) ∧ i < n ∧ can L A i = true := by
  rcases nextF_cases L A n fr with ⟨h, _⟩ | ⟨k, hk, h, hc, _⟩
  · exact .inl h
  · exact .inr ⟨_, h, Nat.mod_lt _ hn, hc⟩
theorem rnd_all {L A : List Int} {n k N : Nat} (h : nextF (rnd L A n k).L A n (rnd L A n k).fr = -1) (hk : k ≤ N) : rnd L A n N = rnd L A n k := by
  have := rnd_stop (L := L) (A := A) (n := n) (k := k) (by rw [h]; omega) (N - k)
  rwa [show k + (N - k) = N by omega] at this
set_option maxHeartbeats 4000000 in
set_option maxRecDepth 100000 in
theorem sRounds_any (L A : List Int) (lv av : Value) (x : Int) (w : World) (hL : RdN w lv L) (hA : RdN w av A) :
    Calls Try.prog 23 #[.agg (tkC lv av), .int .i64 x] w fun e w' => ∃ v, e = .returned (.tuple #[v, .int .i64 (rndE L A x)]) ∧ NewN w.heap.size w' v (rndR L A x) ∧ Below w.heap.size w w' := by
  obtain ⟨W, hW⟩ : ∃ W, W = w.alloc (.cells (tkC lv av) 24) := ⟨_, rfl⟩
  have hS := Lib.hid (show Below w.heap.size w W by rw [hW]; exact below_a _ _)
  have r0 := Lib.hid (show W.heap[w.heap.size]? = some (.cells (tkC lv av) 24 (0, 0)) by rw [hW]; exact heap_alloc_new w _)
  have hsz := Lib.hid (show W.heap.size = w.heap.size + 1 by rw [hW]; simp)
  have hX := Lib.hid (Below.refl W.heap.size W)
  have hrow := Lib.hid (fun (wz : World) (h : Below W.heap.size W wz) => rowB r0.out h (Array.getElem?_eq_some_iff.1 r0.out).1)
  have hC0 := Lib.hid (fun (wz : World) (h : Below W.heap.size W wz) => sCheck_any L A lv av wz (hL.mono (hS.out.trans (h.mono hS.out.size))) (hA.mono (hS.out.trans (h.mono hS.out.size))))
  have hT0 := Lib.hid (fun (wz : World) (h : Below W.heap.size W wz) (h1 : L.length ≤ 1000) (h2 : A.length ≤ 1000) => copied_any L A lv av wz (hL.mono (hS.out.trans (h.mono hS.out.size))) (hA.mono (hS.out.trans (h.mono hS.out.size))) h1 h2)
  clear hL hA
  rcases Classical.em (OkT L A) with hO | hO
  case inr =>
    obtain ⟨e1, e2, e3⟩ := rnd_bad hO x
    rw [e3] at hC0
    rw [e1, e2]
    have hC := hC0
    clear hC0 hO hT0 e1 e2 e3
    go_enter Try.func23, Try.ntmps23
    go_upto_region 1 with fail
    rw [← hW]
    clear hW
    go_wp2_with (first
        | (refine wpList_load_row_g rfl 24 _ rfl w.heap.size rfl 24 (tkC lv av) (0, 0) _ (hrow.out _ hX.out) Try.underlying24 rfl info_tk ?_)
        | (go_at_call 21; (with_reducible refine (hC.out _ hX.out).mono ?_); rintro e9 w9 ⟨rfl, q9⟩; replace hX := Lib.hid (hX.out.trans (Below.mono q9 hX.out.size)); clear q9))
    go_ret2
    exact ⟨_, rfl, NewN.nil _ _, hS.out.trans (hX.out.mono hS.out.size)⟩
  case inl =>
    have e3 := chkT_ok hO
    rw [e3] at hC0
    clear e3
    have hC := hC0
    have hbad := Lib.hid (fun hx => rnd_arg hO (x := x) hx)
    have hO' := Lib.hid hO
    have n12 := hO.hi
    have n1 := hO.lo
    have nA := hO.na
    have hT := Lib.hid (fun wz h => hT0.out wz h (by omega) (by omega))
    clear hC0 hT0 hO
    by_cases g1 : x < 0
    · obtain ⟨e1, e2⟩ := hbad.out (.inl g1)
      rw [e1, e2]
      clear e1 e2 hbad nA hO' 
      go_enter Try.func23, Try.ntmps23
      go_upto_region 1 with fail
      rw [← hW]
      clear hW
      go_wp2_with (first
          | (refine wpList_load_row_g rfl 24 _ rfl w.heap.size rfl 24 (tkC lv av) (0, 0) _ (hrow.out _ hX.out) Try.underlying24 rfl info_tk ?_)
          | (go_at_call 21; (with_reducible refine (hC.out _ hX.out).mono ?_); rintro e9 w9 ⟨rfl, q9⟩; replace hX := Lib.hid (hX.out.trans (Below.mono q9 hX.out.size)); clear q9))
      go_ret2
      exact ⟨_, rfl, NewN.nil _ _, hS.out.trans (hX.out.mono hS.out.size)⟩
    by_cases g2 : 300 < x
    · obtain ⟨e1, e2⟩ := hbad.out (.inr g2)
      rw [e1, e2]
      clear e1 e2 hbad nA hO'
      have g1' : decide (x < 0) = false := decide_eq_false g1
      go_enter Try.func23, Try.ntmps23
      go_upto_region 1 with fail
      rw [← hW]
      clear hW
      go_wp2_with (first
          | (refine wpList_load_row_g rfl 24 _ rfl w.heap.size rfl 24 (tkC lv av) (0, 0) _ (hrow.out _ hX.out) Try.underlying24 rfl info_tk ?_)
          | (go_at_call 21; (with_reducible refine (hC.out _ hX.out).mono ?_); rintro e9 w9 ⟨rfl, q9⟩; replace hX := Lib.hid (hX.out.trans (Below.mono q9 hX.out.size)); clear q9))
      go_ret2
      exact ⟨_, rfl, NewN.nil _ _, hS.out.trans (hX.out.mono hS.out.size)⟩
    obtain ⟨N, rfl⟩ : ∃ N : Nat, x = (N : Int) := ⟨x.toNat, by omega⟩
    obtain ⟨e1, e2⟩ := rnd_fine hO'.out (N := N) (by omega)
    rw [e1, e2]
    obtain ⟨n, hn⟩ : ∃ n, L.length = n := ⟨_, rfl⟩
    have hn' := Lib.hid hn
    rw [hn] at n12 n1 nA ⊢
    have nA' := Lib.hid nA
    have g1' : decide ((N : Int) < 0) = false := decide_eq_false g1
    have g2' : decide ((300 : Int) < (N : Int)) = false := decide_eq_false g2
    clear e1 e2 hbad hn
    go_enter Try.func23, Try.ntmps23
    go_upto_region 1 with fail
    rw [← hW]
    clear hW
    go_upto_region 6 with (first
        | (refine wpList_load_row_g rfl 24 _ rfl w.heap.size rfl 24 (tkC lv av) (0, 0) _ (hrow.out _ hX.out) Try.underlying24 rfl info_tk ?_)
        | (go_at_call 21; (with_reducible refine (hC.out _ hX.out).mono ?_); rintro e9 w9 ⟨rfl, q9⟩; replace hX := Lib.hid (hX.out.trans (Below.mono q9 hX.out.size)); clear q9))
    have r2 := Lib.hid (hrow.out _ hX.out)
    have hT9 := Lib.hid (hT.out _ hX.out)
    have hX9 := Lib.hid (hS.out.trans (hX.out.mono hS.out.size)); have hz9 := Lib.hid hX.out.size
    clear hX hrow hT hC r0 g1' g2'

    go_upto_region 7 with (first
      | (refine wpList_load_row_g rfl 24 _ rfl w.heap.size rfl 24 (tkC lv av) (0, 0) _ r2.out Try.underlying24 rfl info_tk ?_)
      | (go_at_call 33; (with_reducible refine hT9.out.mono ?_); rintro e8 w8 ⟨xv, yv, rfl, hTw, q8⟩; have hTw' := Lib.hid hTw; have q8' := Lib.hid q8; have one8 := Lib.hid (tk_one xv yv (own_one hTw.x) (own_one hTw.y)); have r4 := Lib.hid (rowK r2.out q8); clear hTw q8)
      | (refine wpList_store_row rfl 24 _ _ rfl w.heap.size (tkC xv yv) rfl rfl 24 _ r4.out info_tk rfl one8.out ?_))
    obtain ⟨g, c, rfl, hg0, hc1, hc2, hig⟩ := (hTw'.out.x.mono (Nat.le_refl _)).row (by rw [hn'.out]; omega)
    obtain ⟨h, c2, rfl, hh0, hd1, hd2, hih⟩ := (hTw'.out.y.mono (Nat.le_refl _)).row (by rw [nA'.out]; omega)
    have hgh : h ≠ g := fun e => hTw'.out.ne g rfl (by rw [← e]; rfl)
    rw [hn'.out] at hc1 ⊢
    rw [nA'.out] at hd1 ⊢
    have hi0 := Lib.hid (show RunI w w8.heap.size g h w.heap.size w.heap.size (tkC (.slice (some ⟨g, 0, none⟩) n c) (.slice (some ⟨h, 0, none⟩) n c2)) (tkC (.slice (some ⟨g, 0, none⟩) n c) (.slice (some ⟨h, 0, none⟩) n c2)) A (rnd L A n 0).L (w8.setRow w.heap.size (tkC (.slice (some ⟨g, 0, none⟩) n c) (.slice (some ⟨h, 0, none⟩) n c2))) from
      ⟨below_setRow' (hX9.out.trans (q8'.out.mono hX9.out.size)) (Nat.le_refl _) _, by rw [size_setRow]; exact Nat.le_refl _, hig.to (setRow_other _ _ _ _ (by have := hsz.out; have := hz9.out; omega)), hih.to (setRow_other _ _ _ _ (by have := hsz.out; have := hz9.out; omega)), setRow_heap _ _ _ _ _ _ r4.out, setRow_heap _ _ _ _ _ _ r4.out⟩)
    have hG := Lib.hid (show RunG w w8.heap.size g h w.heap.size w.heap.size from ⟨by have := hsz.out; have := hz9.out; omega, by have := hsz.out; have := hz9.out; omega, hig.lt, hih.lt, hgh, by have := hig.lt; have := hsz.out; have := hz9.out; omega, by have := hsz.out; have := hz9.out; omega, by have := hig.lt; have := hsz.out; have := hz9.out; omega, by have := hsz.out; have := hz9.out; omega, by have := hsz.out; have := hz9.out; omega⟩)
    have hw8 := Lib.hid (Nat.le_trans hX9.out.size q8'.out.size)
    have hc1' := Lib.hid hc1; have hc2' := Lib.hid hc2; have hd1' := Lib.hid hd1; have hd2' := Lib.hid hd2
    clear hTw' q8' one8 r4 r2 hT9 hX9 hz9 hg0 hh0 hig hih hgh hc1 hc2 hd1 hd2 hsz nA
    generalize w8.setRow w.heap.size (tkC (.slice (some ⟨g, 0, none⟩) n c) (.slice (some ⟨h, 0, none⟩) n c2)) = w5 at *
    obtain ⟨B5, hB5⟩ : ∃ B5, B5 = w8.heap.size := ⟨_, rfl⟩
    rw [← hB5] at hi0 hG hw8
    clear hB5
    go_wp2
    go_loopw [7, 8, 24] (fun v f i wr => ∃ k : Nat, k ≤ N ∧ i = .int .i64 (k : Int) ∧ f = .int .i64 ((rnd L A n k).fr : Int) ∧ RunI w B5 g h w.heap.size w.heap.size (tkC (.slice (some ⟨g, 0, none⟩) n c) (.slice (some ⟨h, 0, none⟩) n c2)) (tkC (.slice (some ⟨g, 0, none⟩) n c) (.slice (some ⟨h, 0, none⟩) n c2)) A (rnd L A n k).L wr ∧ OwnN B5 3 wr v (rnd L A n k).out) (fun _ _ i _ => N - (intOf i).toNat)
    case atStart => exact ⟨0, Nat.zero_le _, rfl, rfl, hi0.out, OwnN.nil _ _ _⟩
    case round =>
      obtain ⟨k, hk, rfl, rfl, hI0, ho⟩ := hrel
      have hI := Lib.hid hI0
      have hdl := rnd_out_length L A n k
      have ho' := Lib.hid ho
      have hfr := rnd_fr L A n k (by omega)
      obtain ⟨va, vc, rfl⟩ := ho.slice
      clear hI0 ho
      have hDl := Lib.hid (show (rnd L A n k).out.length ≤ 300 by omega)
      have hOk := Lib.hid (rnd_ok hO'.out n k)
      have hlk := Lib.hid (show (rnd L A n k).L.length = n by rw [rnd_length, hn'.out])
      have hgo := Lib.hid (fun i h => rnd_go (L := L) (A := A) (n := n) (k := k) (i := i) h)
      have hend := Lib.hid (fun h => rnd_all (L := L) (A := A) (n := n) (k := k) (N := N) h hk)
      have hor := next_or (rnd L A n k).L A n (rnd L A n k).fr (by omega)
      have hsame := Lib.hid (fun h : k = N => (show rnd L A n N = rnd L A n k by rw [h]))
      generalize hRk : rnd L A n k = Rk at *
      obtain ⟨St, fr, Dd⟩ := Rk
      dsimp only at hI hdl hDl ho' hfr hOk hlk hgo hend hor hsame ⊢
      clear hRk
      obtain ⟨z, hz⟩ : ∃ z, Dd.length = z := ⟨_, rfl⟩
      have hz' := Lib.hid hz
      rw [hz] at hdl ho' ⊢
      clear hz
      have hAh := Lib.hid (show ∀ wz, Below wr.heap.size wr wz → HeldN g wz (.slice (some ⟨h, 0, none⟩) n c2) A from fun wz hb => by
        have e := heldN_row (hI.out.aft.below hb) hG.out.gh (by rw [nA'.out]; exact hd1'.out) hd2'.out
        rwa [nA'.out] at e)
      by_cases hlt : k < N
      · have hkI : (k : Int) < (N : Int) := by omega
        have hNx := Lib.hid (show Calls Try.prog 38 #[.agg (tkC (.slice (some ⟨g, 0, none⟩) n c) (.slice (some ⟨h, 0, none⟩) n c2)), .int .i64 (fr : Int)] wr fun e w' => e = .returned (.int .i64 (nextF St A n fr)) ∧ Below wr.heap.size wr w' from by
          have e := hI.out.row.rd2 (by rw [hlk.out]; exact hc1'.out) hc2'.out
          rw [hlk.out] at e
          have e2 := next_any St A (.slice (some ⟨g, 0, none⟩) n c) (.slice (some ⟨h, 0, none⟩) n c2) fr wr e (hAh.out wr (Below.refl _ _)).now hOk.out (by omega)
          rwa [hlk.out] at e2)
        generalize nextF St A n fr = y at *
        rcases hor with rfl | ⟨i, rfl, hin, hci⟩
        · have hE := Lib.hid (hend.out rfl)
          go_wp2_with (first
            | (refine wpList_load_row_g rfl 24 _ rfl w.heap.size rfl 24 (tkC (.slice (some ⟨g, 0, none⟩) n c) (.slice (some ⟨h, 0, none⟩) n c2)) (0, 0) _ hI.out.box Try.underlying24 rfl info_tk ?_)
            | (go_at_call 38; (with_reducible refine hNx.out.mono ?_); rintro e9 w9 ⟨rfl, q9⟩; have hI9 := Lib.hid (hI.out.below q9); have ho9 := Lib.hid (ho'.out.kept q9); clear q9))
          go_ret2
          exact ⟨_, rfl, by rw [hE.out]; exact ho9.out.new.mono hw8.out, hI9.out.b⟩
        · have hR1 := Lib.hid (hgo.out i rfl)
          have hStp := Lib.hid (show ∀ wz, Below wr.heap.size wr wz → Calls Try.prog 37 #[.agg (tkC (.slice (some ⟨g, 0, none⟩) n c) (.slice (some ⟨h, 0, none⟩) n c2)), .int .i64 (i : Int)] wz fun e w' => e = .returned (.bool true) ∧ IRow 3 w' g (stepL St A i) ∧ ElsN g wz w' from fun wz hb => by
            have e := step_any St A g c (.slice (some ⟨h, 0, none⟩) n c2) i wz (hI.out.row.below hb) (hAh.out wz hb) hOk.out (by rw [hlk.out]; exact hin) (by rw [hlk.out]; exact hc1'.out) hc2'.out
            rw [hlk.out, hci] at e
            exact e)
          have hiI : ¬ ((i : Int) < 0) := by omega
          clear hci hgo hend
          go_upto_region 14 with (first
            | (refine wpList_load_row_g rfl 24 _ rfl w.heap.size rfl 24 (tkC (.slice (some ⟨g, 0, none⟩) n c) (.slice (some ⟨h, 0, none⟩) n c2)) (0, 0) _ hI.out.box Try.underlying24 rfl info_tk ?_)
            | (go_at_call 38; (with_reducible refine hNx.out.mono ?_); rintro e9 w9 ⟨rfl, q9⟩; have q9' := Lib.hid q9; have hI9 := Lib.hid (hI.out.below q9); have ho9 := Lib.hid (ho'.out.kept q9); clear q9)
            | (refine wpList_load_row_g rfl 24 _ rfl w.heap.size rfl 24 (tkC (.slice (some ⟨g, 0, none⟩) n c) (.slice (some ⟨h, 0, none⟩) n c2)) (0, 0) _ hI9.out.box Try.underlying24 rfl info_tk ?_)
            | (go_at_call 37; (with_reducible refine (hStp.out _ q9'.out).mono ?_); rintro e8 w6 ⟨rfl, q9, q10⟩; have hI6 := Lib.hid (hI9.out.step hG.out q10 q9); have ho6 := Lib.hid (ho9.out.els q10 hG.out.g5); clear q9 q10))
          have hXb := Lib.hid (below_a w6 (.cells #[.int .i64 (i : Int)] 3))
          have hXr := Lib.hid (rdN_one (c := 1) (heap_alloc_new w6 (.cells #[.int .i64 (i : Int)] 3)) (by decide) (by decide))
          go_wp2_with (refine appendN rfl _ _ 22 rfl B5 3 Try.underlying22 (by kernel_rfl) _ rfl Dd (ho6.out.kept hXb.out) _ rfl [(i : Int)] hXr.out (by have := hDl.out; simp; omega) (Nat.le_trans hI6.out.s hXb.out.size) ?_)
          intro v' w7 y1 y2
          have hI7 := Lib.hid ((hI6.out.below hXb.out).app hG.out hw8.out (ho6.out.kept hXb.out) y2)
          have y1' := Lib.hid y1
          obtain ⟨va', vc', hv'⟩ := y1.slice
          clear y1 y2
          refine Stop.go ?_
          have hiw : IntKind.i64.wrap ((i : Int) + 1) = ((i + 1 : Nat) : Int) := by rw [IntWalk.i64_in _ (by omega)]; omega
          go_wp2
          go_roundw
          case rel => exact ⟨k + 1, by omega, by go_num, by rw [hR1.out]; (first | rfl | (simp; done) | (dsimp only; go_num)), by rw [hR1.out]; exact hI7.out, by rw [hR1.out]; exact y1'.out⟩
          case measure => simp [intOf]; omega
      · obtain rfl : k = N := by omega
        go_wp2
        go_ret2
        exact ⟨_, rfl, by rw [hsame.out (by first | rfl | trivial)]; exact ho'.out.new.mono hw8.out, hI.out.b⟩
end Go.Proofs.Ytdebeimognikiaa.con
namespace Go.Proofs.Ytdebeimognikiaa.con
open Go.RowKit Go.Ytdebeimognikiaa
set_option linter.unusedVariables false
set_option maxHeartbeats 4000000 in
set_option maxRecDepth 100000 in
theorem rRounds_any (L A : List Int) (lv av : Value) (x : Int) (w : World) (hL : RdN w lv L) (hA : RdN w av A) :
    Calls Try.prog 24 #[.agg (tkC lv av), .int .i64 x] w fun e w' => ∃ v, e = .returned (.tuple #[v, .int .i64 (rndE L A x)]) ∧ NewN w.heap.size w' v (rndR L A x) ∧ Below w.heap.size w w' := by
  obtain ⟨W, hW⟩ : ∃ W, W = w.alloc (.cells (tkC lv av) 24) := ⟨_, rfl⟩
  have hS := Lib.hid (show Below w.heap.size w W by rw [hW]; exact below_a _ _)
  have r0 := Lib.hid (show W.heap[w.heap.size]? = some (.cells (tkC lv av) 24 (0, 0)) by rw [hW]; exact heap_alloc_new w _)
  have hsz := Lib.hid (show W.heap.size = w.heap.size + 1 by rw [hW]; simp)
  have hX := Lib.hid (Below.refl W.heap.size W)
  have hrow := Lib.hid (fun (wz : World) (h : Below W.heap.size W wz) => rowB r0.out h (Array.getElem?_eq_some_iff.1 r0.out).1)
  have hC0 := Lib.hid (fun (wz : World) (h : Below W.heap.size W wz) => rCheck_any L A lv av wz (hL.mono (hS.out.trans (h.mono hS.out.size))) (hA.mono (hS.out.trans (h.mono hS.out.size))))
  have hT0 := Lib.hid (fun (wz : World) (h : Below W.heap.size W wz) (h1 : L.length ≤ 1000) (h2 : A.length ≤ 1000) => twin_any L A lv av wz (hL.mono (hS.out.trans (h.mono hS.out.size))) (hA.mono (hS.out.trans (h.mono hS.out.size))) h1 h2)
  clear hL hA
  rcases Classical.em (OkT L A) with hO | hO
  case inr =>
    obtain ⟨e1, e2, e3⟩ := rnd_bad hO x
    rw [e3] at hC0
    rw [e1, e2]
    have hC := hC0
    clear hC0 hO hT0 e1 e2 e3
    go_enter Try.func24, Try.ntmps24
    go_upto_region 1 with fail
    rw [← hW]
    clear hW
    go_wp2_with (first
        | (refine wpList_load_row_g rfl 24 _ rfl w.heap.size rfl 24 (tkC lv av) (0, 0) _ (hrow.out _ hX.out) Try.underlying24 rfl info_tk ?_)
        | (go_at_call 22; (with_reducible refine (hC.out _ hX.out).mono ?_); rintro e9 w9 ⟨rfl, q9⟩; replace hX := Lib.hid (hX.out.trans (Below.mono q9 hX.out.size)); clear q9))
    go_ret2
    exact ⟨_, rfl, NewN.nil _ _, hS.out.trans (hX.out.mono hS.out.size)⟩
  case inl =>
    have e3 := chkT_ok hO
    rw [e3] at hC0
    clear e3
    have hC := hC0
    have hbad := Lib.hid (fun hx => rnd_arg hO (x := x) hx)
    have hO' := Lib.hid hO
    have n12 := hO.hi
    have n1 := hO.lo
    have nA := hO.na
    have hT := Lib.hid (fun wz h => hT0.out wz h (by omega) (by omega))
    clear hC0 hT0 hO
    by_cases g1 : x < 0
    · obtain ⟨e1, e2⟩ := hbad.out (.inl g1)
      rw [e1, e2]
      clear e1 e2 hbad nA hO' 
      go_enter Try.func24, Try.ntmps24
      go_upto_region 1 with fail
      rw [← hW]
      clear hW
      go_wp2_with (first
          | (refine wpList_load_row_g rfl 24 _ rfl w.heap.size rfl 24 (tkC lv av) (0, 0) _ (hrow.out _ hX.out) Try.underlying24 rfl info_tk ?_)
          | (go_at_call 22; (with_reducible refine (hC.out _ hX.out).mono ?_); rintro e9 w9 ⟨rfl, q9⟩; replace hX := Lib.hid (hX.out.trans (Below.mono q9 hX.out.size)); clear q9))
      go_ret2
      exact ⟨_, rfl, NewN.nil _ _, hS.out.trans (hX.out.mono hS.out.size)⟩
    by_cases g2 : 300 < x
    · obtain ⟨e1, e2⟩ := hbad.out (.inr g2)
      rw [e1, e2]
      clear e1 e2 hbad nA hO'
      have g1' : decide (x < 0) = false := decide_eq_false g1
      go_enter Try.func24, Try.ntmps24
      go_upto_region 1 with fail
      rw [← hW]
      clear hW
      go_wp2_with (first
          | (refine wpList_load_row_g rfl 24 _ rfl w.heap.size rfl 24 (tkC lv av) (0, 0) _ (hrow.out _ hX.out) Try.underlying24 rfl info_tk ?_)
          | (go_at_call 22; (with_reducible refine (hC.out _ hX.out).mono ?_); rintro e9 w9 ⟨rfl, q9⟩; replace hX := Lib.hid (hX.out.trans (Below.mono q9 hX.out.size)); clear q9))
      go_ret2
      exact ⟨_, rfl, NewN.nil _ _, hS.out.trans (hX.out.mono hS.out.size)⟩
    obtain ⟨N, rfl⟩ : ∃ N : Nat, x = (N : Int) := ⟨x.toNat, by omega⟩
    obtain ⟨e1, e2⟩ := rnd_fine hO'.out (N := N) (by omega)
    rw [e1, e2]
    obtain ⟨n, hn⟩ : ∃ n, L.length = n := ⟨_, rfl⟩
    have hn' := Lib.hid hn
    rw [hn] at n12 n1 nA ⊢
    have nA' := Lib.hid nA
    have g1' : decide ((N : Int) < 0) = false := decide_eq_false g1
    have g2' : decide ((300 : Int) < (N : Int)) = false := decide_eq_false g2
    clear e1 e2 hbad hn
    go_enter Try.func24, Try.ntmps24
    go_upto_region 1 with fail
    rw [← hW]
    clear hW
    go_upto_region 5 with (first
        | (refine wpList_load_row_g rfl 24 _ rfl w.heap.size rfl 24 (tkC lv av) (0, 0) _ (hrow.out _ hX.out) Try.underlying24 rfl info_tk ?_)
        | (go_at_call 22; (with_reducible refine (hC.out _ hX.out).mono ?_); rintro e9 w9 ⟨rfl, q9⟩; replace hX := Lib.hid (hX.out.trans (Below.mono q9 hX.out.size)); clear q9))
    have r2 := Lib.hid (hrow.out _ hX.out)
    have hT9 := Lib.hid (hT.out _ hX.out)
    have hX9 := Lib.hid (hS.out.trans (hX.out.mono hS.out.size)); have hz9 := Lib.hid hX.out.size
    clear hX hrow hT hC r0 g1' g2'

    go_upto_region 6 with (first
      | (refine wpList_load_row_g rfl 24 _ rfl w.heap.size rfl 24 (tkC lv av) (0, 0) _ r2.out Try.underlying24 rfl info_tk ?_)
      | (go_at_call 10; (with_reducible refine hT9.out.mono ?_); rintro e8 w8 ⟨xv, yv, rfl, hTw, q8⟩; have hTw' := Lib.hid hTw; have q8' := Lib.hid q8; have one8 := Lib.hid (tk_one xv yv (own_one hTw.x) (own_one hTw.y)); clear hTw q8)
      | (refine storeNew _ rfl 24 _ _ rfl (tkC xv yv) 24 rfl rfl info_tk rfl one8.out ?_; intro w5 hrx hbx; have rx := Lib.hid hrx; have hbx' := Lib.hid hbx; clear hrx hbx))
    obtain ⟨g, c, rfl, hg0, hc1, hc2, hig⟩ := (hTw'.out.x.mono (Nat.le_refl _)).row (by rw [hn'.out]; omega)
    obtain ⟨h, c2, rfl, hh0, hd1, hd2, hih⟩ := (hTw'.out.y.mono (Nat.le_refl _)).row (by rw [nA'.out]; omega)
    have hgh : h ≠ g := fun e => hTw'.out.ne g rfl (by rw [← e]; rfl)
    rw [hn'.out] at hc1 rx ⊢
    rw [nA'.out] at hd1 rx ⊢
    have hi0 := Lib.hid (show RunI w w5.heap.size g h w8.heap.size w8.heap.size (tkC (.slice (some ⟨g, 0, none⟩) n c) (.slice (some ⟨h, 0, none⟩) n c2)) (tkC (.slice (some ⟨g, 0, none⟩) n c) (.slice (some ⟨h, 0, none⟩) n c2)) A (rnd L A n 0).L w5 from
      ⟨(hX9.out.trans (q8'.out.mono hX9.out.size)).trans (hbx'.out.mono (Nat.le_trans hX9.out.size q8'.out.size)), Nat.le_refl _, hig.below hbx'.out, hih.below hbx'.out, rx.out, rx.out⟩)
    have hlt5 := (Array.getElem?_eq_some_iff.1 rx.out).1
    have hG := Lib.hid (show RunG w w5.heap.size g h w8.heap.size w8.heap.size from ⟨by have := hsz.out; have := hz9.out; omega, by have := hsz.out; have := hz9.out; omega, Nat.lt_of_lt_of_le hig.lt hbx'.out.size, Nat.lt_of_lt_of_le hih.lt hbx'.out.size, hgh, hlt5, by have := hig.lt; omega, hlt5, by have := hig.lt; omega, by have := hih.lt; omega⟩)
    have hw8 := Lib.hid (show w.heap.size ≤ w5.heap.size from Nat.le_trans (Nat.le_trans hX9.out.size q8'.out.size) hbx'.out.size)
    have hc1' := Lib.hid hc1; have hc2' := Lib.hid hc2; have hd1' := Lib.hid hd1; have hd2' := Lib.hid hd2
    clear hTw' q8' one8 rx hbx' r2 hT9 hX9 hz9 hg0 hh0 hig hih hgh hc1 hc2 hd1 hd2 hsz hlt5 nA
    obtain ⟨B5, hB5⟩ : ∃ B5, B5 = w5.heap.size := ⟨_, rfl⟩
    rw [← hB5] at hi0 hG hw8
    clear hB5
    go_wp2
    go_loopw [7, 8] (fun v f wr => ∃ k : Nat, k ≤ N ∧ (rnd L A n k).out.length = k ∧ f = .int .i64 ((rnd L A n k).fr : Int) ∧ RunI w B5 g h w8.heap.size w8.heap.size (tkC (.slice (some ⟨g, 0, none⟩) n c) (.slice (some ⟨h, 0, none⟩) n c2)) (tkC (.slice (some ⟨g, 0, none⟩) n c) (.slice (some ⟨h, 0, none⟩) n c2)) A (rnd L A n k).L wr ∧ OwnN B5 3 wr v (rnd L A n k).out) (fun v _ _ => N - (match v with | .slice _ z _ => z | _ => 0))
    case atStart => exact ⟨0, Nat.zero_le _, rfl, rfl, hi0.out, OwnN.nil _ _ _⟩
    case round =>
      obtain ⟨k, hk, hlen0, rfl, hI0, ho⟩ := hrel
      have hI := Lib.hid hI0
      have hdl := rnd_out_length L A n k
      have ho' := Lib.hid ho
      have hfr := rnd_fr L A n k (by omega)
      obtain ⟨va, vc, rfl⟩ := ho.slice
      clear hI0 ho
      have hDl := Lib.hid (show (rnd L A n k).out.length ≤ 300 by omega)
      have hOk := Lib.hid (rnd_ok hO'.out n k)
      have hlk := Lib.hid (show (rnd L A n k).L.length = n by rw [rnd_length, hn'.out])
      have hgo := Lib.hid (fun i h => rnd_go (L := L) (A := A) (n := n) (k := k) (i := i) h)
      have hend := Lib.hid (fun h => rnd_all (L := L) (A := A) (n := n) (k := k) (N := N) h hk)
      have hor := next_or (rnd L A n k).L A n (rnd L A n k).fr (by omega)
      have hsame := Lib.hid (fun h : k = N => (show rnd L A n N = rnd L A n k by rw [h]))
      generalize hRk : rnd L A n k = Rk at *
      obtain ⟨St, fr, Dd⟩ := Rk
      dsimp only at hI hdl hDl ho' hfr hOk hlk hgo hend hor hsame ⊢
      dsimp only at hlen0
      clear hRk
      obtain ⟨z, hz⟩ : ∃ z, Dd.length = z := ⟨_, rfl⟩
      have hz' := Lib.hid hz
      rw [hz] at hdl ho' ⊢
      rw [hz] at hlen0
      obtain rfl : z = k := hlen0
      clear hz
      have hAh := Lib.hid (show ∀ wz, Below wr.heap.size wr wz → HeldN g wz (.slice (some ⟨h, 0, none⟩) n c2) A from fun wz hb => by
        have e := heldN_row (hI.out.aft.below hb) hG.out.gh (by rw [nA'.out]; exact hd1'.out) hd2'.out
        rwa [nA'.out] at e)
      by_cases hlt : z < N
      · have hkI : (z : Int) < (N : Int) := by omega
        have hNx := Lib.hid (show Calls Try.prog 39 #[.agg (tkC (.slice (some ⟨g, 0, none⟩) n c) (.slice (some ⟨h, 0, none⟩) n c2)), .int .i64 (fr : Int)] wr fun e w' => e = .returned (.int .i64 (nextF St A n fr)) ∧ Below wr.heap.size wr w' from by
          have e := hI.out.row.rd2 (by rw [hlk.out]; exact hc1'.out) hc2'.out
          rw [hlk.out] at e
          have e2 := rNext_any St A (.slice (some ⟨g, 0, none⟩) n c) (.slice (some ⟨h, 0, none⟩) n c2) fr wr e (hAh.out wr (Below.refl _ _)).now hOk.out (by omega)
          rwa [hlk.out] at e2)
        generalize nextF St A n fr = y at *
        rcases hor with rfl | ⟨i, rfl, hin, hci⟩
        · have hE := Lib.hid (hend.out rfl)
          go_wp2_with (first
            | (refine wpList_load_row_g rfl 24 _ rfl w8.heap.size rfl 24 (tkC (.slice (some ⟨g, 0, none⟩) n c) (.slice (some ⟨h, 0, none⟩) n c2)) (0, 0) _ hI.out.box Try.underlying24 rfl info_tk ?_)
            | (go_at_call 39; (with_reducible refine hNx.out.mono ?_); rintro e9 w9 ⟨rfl, q9⟩; have hI9 := Lib.hid (hI.out.below q9); have ho9 := Lib.hid (ho'.out.kept q9); clear q9))
          go_ret2
          exact ⟨_, rfl, by rw [hE.out]; exact ho9.out.new.mono hw8.out, hI9.out.b⟩
        · have hR1 := Lib.hid (hgo.out i rfl)
          have hiI : ¬ ((i : Int) < 0) := by omega
          have hinI : (i : Int) < (n : Int) := by omega
          have hst2 := Lib.hid (can_true hci)
          have hx0 := (can_iff.1 hci).1
          have hel8 := (hOk.out.el i (by rw [hlk.out]; exact hin)).1
          clear hci hgo hend
          go_upto_region 11 with (first
            | (refine wpList_load_row_g rfl 24 _ rfl w8.heap.size rfl 24 (tkC (.slice (some ⟨g, 0, none⟩) n c) (.slice (some ⟨h, 0, none⟩) n c2)) (0, 0) _ hI.out.box Try.underlying24 rfl info_tk ?_)
            | (go_at_call 39; (with_reducible refine hNx.out.mono ?_); rintro e9 w9 ⟨rfl, q9⟩; have q9' := Lib.hid q9; have hI9 := Lib.hid (hI.out.below q9); have ho9 := Lib.hid (ho'.out.kept q9); clear q9))
          have c0 : w9.cell? ⟨w8.heap.size, 0, none⟩ = some (.slice (some ⟨g, 0, none⟩) n c) := by rw [cell_of_row _ _ _ _ _ _ hI9.out.box]; rfl
          have d0 := hI9.out.row.cell i (by rw [hlk.out]; exact hin)
          have f0 := hI9.out.row.frozen i
          have hwr : IntKind.i64.wrap (ith St i - 1) = ith St i - 1 := IntWalk.i64_in _ (by omega)
          have hset := Lib.hid (fun x => hI9.out.row.set i (by rw [hlk.out]; exact hin) x)
          generalize ith St i = x at *
          go_upto_region 12 with fail
          have hI6 := Lib.hid (hI9.out.step hG.out (elsN_set g i _ (.int .i64 (x - 1))) (hset.out (x - 1)))
          have ho6 := Lib.hid (ho9.out.els (elsN_set g i _ (.int .i64 (x - 1))) hG.out.g5)
          rw [← hst2.out] at hI6
          clear c0 d0 f0 hset
          generalize w9.setCell ⟨g, i, none⟩ (.int .i64 (x - 1)) = w6 at *
          have hXb := Lib.hid (below_a w6 (.cells #[.int .i64 (i : Int)] 3))
          have hXr := Lib.hid (rdN_one (c := 1) (heap_alloc_new w6 (.cells #[.int .i64 (i : Int)] 3)) (by decide) (by decide))
          go_wp2_with (refine appendN rfl _ _ 22 rfl B5 3 Try.underlying22 (by kernel_rfl) _ rfl Dd (ho6.out.kept hXb.out) _ rfl [(i : Int)] hXr.out (by have := hDl.out; simp; omega) (Nat.le_trans hI6.out.s hXb.out.size) ?_)
          intro v' w7 y1 y2
          have hI7 := Lib.hid ((hI6.out.below hXb.out).app hG.out hw8.out (ho6.out.kept hXb.out) y2)
          have y1' := Lib.hid y1
          obtain ⟨va', vc', hv'⟩ := y1.slice
          clear y1 y2
          refine Stop.go ?_
          have hiw : IntKind.i64.wrap ((i : Int) + 1) = ((i + 1 : Nat) : Int) := by rw [IntWalk.i64_in _ (by omega)]; omega
          go_wp2
          go_roundw
          case rel => exact ⟨z + 1, by omega, by rw [hR1.out, List.length_append, hz'.out]; rfl, by rw [hR1.out]; (first | rfl | (simp; done) | (dsimp only; go_num)), by rw [hR1.out]; exact hI7.out, by rw [hR1.out]; exact y1'.out⟩
          case measure => rw [hv', List.length_append, hz'.out]; simp; omega
      · obtain rfl : z = N := by omega
        go_wp2
        go_ret2
        exact ⟨_, rfl, by rw [hsame.out (by first | rfl | trivial)]; exact ho'.out.new.mono hw8.out, hI.out.b⟩
end Go.Proofs.Ytdebeimognikiaa.con
namespace Go.Proofs.Ytdebeimognikiaa.con
open Go.RowKit Go.Ytdebeimognikiaa
set_option linter.unusedVariables false
set_option maxHeartbeats 4000000 in
set_option maxRecDepth 100000 in
theorem schedRounds_law (L A Q : List Int) (lv av pv : Value) (x y : Int) (w : World) (hL : RdN w lv L) (hA : RdN w av A) (hQ : RdN w pv Q) :
    Calls Try.prog 4 #[.agg (tkC lv av), pv, .int .i64 x, .int .i64 y] w fun e w' => e = .returned (.bool true) ∧ Below w.heap.size w w' := by
  have f1 := hQ.fit
  obtain ⟨pa, pc, rfl⟩ := hQ.slice
  obtain ⟨m, hm⟩ : ∃ m, Q.length = m := ⟨_, rfl⟩
  have hm' := Lib.hid hm
  rw [hm] at hQ f1 ⊢
  obtain ⟨W, hW⟩ : ∃ W, W = w.alloc (.cells (tkC lv av) 24) := ⟨_, rfl⟩
  have hS := Lib.hid (show Below w.heap.size w W by rw [hW]; exact below_a _ _)
  have r0 := Lib.hid (show W.heap[w.heap.size]? = some (.cells (tkC lv av) 24 (0, 0)) by rw [hW]; exact heap_alloc_new w _)
  have hsz := Lib.hid (show W.heap.size = w.heap.size + 1 by rw [hW]; simp)
  have hX := Lib.hid (Below.refl W.heap.size W)
  have hrow := Lib.hid (fun (wz : World) (h : Below W.heap.size W wz) => rowB r0.out h (Array.getElem?_eq_some_iff.1 r0.out).1)
  have kL := Lib.hid (fun (wz : World) (h : Below W.heap.size W wz) => hL.mono (hS.out.trans (h.mono hS.out.size)))
  have kA := Lib.hid (fun (wz : World) (h : Below W.heap.size W wz) => hA.mono (hS.out.trans (h.mono hS.out.size)))
  have kQ := Lib.hid (fun (wz : World) (h : Below W.heap.size W wz) => hQ.mono (hS.out.trans (h.mono hS.out.size)))
  have cG := Lib.hid (fun wz h => great_any L A lv av wz (kL.out wz h) (kA.out wz h))
  have c1 := Lib.hid (fun wz h => sRounds_any L A lv av x wz (kL.out wz h) (kA.out wz h))
  have c2 := Lib.hid (fun wz h => rRounds_any L A lv av x wz (kL.out wz h) (kA.out wz h))
  have c3 := Lib.hid (fun wz h => sFair_any L A Q lv av (.slice pa m pc) y wz (kL.out wz h) (kA.out wz h) (kQ.out wz h))
  have c4 := Lib.hid (fun wz h (hm : Q.length ≤ 1000000) => rFair_any L A Q lv av (.slice pa m pc) y wz (kL.out wz h) (kA.out wz h) (kQ.out wz h) hm)
  have c5 := Lib.hid (fun (l : List Int) v u wz h1 h2 => sameInts_any l l v u wz h1 h2)
  clear hL hA hQ hm kL kA kQ
  generalize rndR L A x = D at *
  generalize rndE L A x = E at *
  generalize fairV L A Q y = V at *
  generalize fairE L A Q y = Z at *
  generalize (decide (100 < L.length) || decide (100 < A.length)) = G at *
  cases G with
  | true =>
    go_enter Try.func4, Try.ntmps4
    go_upto_region 1 with fail
    rw [← hW]
    clear hW
    go_wp2_with (first
        | (refine wpList_load_row_g rfl 24 _ rfl w.heap.size rfl 24 (tkC lv av) (0, 0) _ (hrow.out _ hX.out) Try.underlying24 rfl info_tk ?_)
        | (go_at_call 9; (with_reducible refine (cG.out _ hX.out).mono ?_); rintro e9 w9 ⟨rfl, q9⟩; replace hX := Lib.hid (hX.out.trans (Below.mono q9 hX.out.size)); clear q9))
    go_ret
    exact ⟨rfl, hS.out.trans (hX.out.mono hS.out.size)⟩
  | false =>
    by_cases h4 : 400 < m
    · have h4I : (400 : Int) < (m : Int) := by omega
      go_enter Try.func4, Try.ntmps4
      go_upto_region 1 with fail
      rw [← hW]
      clear hW
      go_wp2_with (first
          | (refine wpList_load_row_g rfl 24 _ rfl w.heap.size rfl 24 (tkC lv av) (0, 0) _ (hrow.out _ hX.out) Try.underlying24 rfl info_tk ?_)
          | (go_at_call 9; (with_reducible refine (cG.out _ hX.out).mono ?_); rintro e9 w9 ⟨rfl, q9⟩; replace hX := Lib.hid (hX.out.trans (Below.mono q9 hX.out.size)); clear q9))
      go_ret
      exact ⟨rfl, hS.out.trans (hX.out.mono hS.out.size)⟩
    have h4I : ¬ (400 : Int) < (m : Int) := by omega
    have c6 := Lib.hid (fun wz h => c4.out wz h (by have := hm'.out; omega))
    clear c4
    go_enter Try.func4, Try.ntmps4
    go_upto_region 1 with fail
    rw [← hW]
    clear hW
    go_wp2_with (first
        | (refine wpList_load_row_g rfl 24 _ rfl w.heap.size rfl 24 (tkC lv av) (0, 0) _ (hrow.out _ hX.out) Try.underlying24 rfl info_tk ?_)
        | (go_at_call 9; (with_reducible refine (cG.out _ hX.out).mono ?_); rintro e9 w9 ⟨rfl, q9⟩; replace hX := Lib.hid (hX.out.trans (Below.mono q9 hX.out.size)); clear q9)
        | (go_at_call 23; (with_reducible refine (c1.out _ hX.out).mono ?_); rintro e9 w9 ⟨v1, rfl, q8, q9⟩; have hb9 := Lib.hid hX.out.size; replace hX := Lib.hid (hX.out.trans (Below.mono q9 hX.out.size)); (try replace n1 := Lib.hid (n1.out.mono q9)); (try replace n2 := Lib.hid (n2.out.mono q9)); have n1 := Lib.hid q8.rd; obtain ⟨va1, vc1, rfl⟩ := q8.slice; clear q8 q9)
        | (go_at_call 24; (with_reducible refine (c2.out _ hX.out).mono ?_); rintro e9 w9 ⟨v2, rfl, q8, q9⟩; have hb9 := Lib.hid hX.out.size; replace hX := Lib.hid (hX.out.trans (Below.mono q9 hX.out.size)); (try replace n1 := Lib.hid (n1.out.mono q9)); (try replace n2 := Lib.hid (n2.out.mono q9)); have n2 := Lib.hid q8.rd; obtain ⟨va2, vc2, rfl⟩ := q8.slice; clear q8 q9)
        | (go_at_call 25; (with_reducible refine (c3.out _ hX.out).mono ?_); rintro e9 w9 ⟨rfl, q9⟩; have hb9 := Lib.hid hX.out.size; replace hX := Lib.hid (hX.out.trans (Below.mono q9 hX.out.size)); (try replace n1 := Lib.hid (n1.out.mono q9)); (try replace n2 := Lib.hid (n2.out.mono q9)); clear q9)
        | (go_at_call 26; (with_reducible refine (c6.out _ hX.out).mono ?_); rintro e9 w9 ⟨rfl, q9⟩; have hb9 := Lib.hid hX.out.size; replace hX := Lib.hid (hX.out.trans (Below.mono q9 hX.out.size)); (try replace n1 := Lib.hid (n1.out.mono q9)); (try replace n2 := Lib.hid (n2.out.mono q9)); clear q9)
        | (go_at_call 18; (with_reducible refine (c5.out D _ _ _ n1.out n2.out).mono ?_); rintro e9 w9 ⟨rfl, q9⟩; have hb9 := Lib.hid hX.out.size; replace hX := Lib.hid (hX.out.trans (Below.mono q9 hX.out.size)); (try replace n1 := Lib.hid (n1.out.mono q9)); (try replace n2 := Lib.hid (n2.out.mono q9)); clear q9))
    go_ret
    exact ⟨ret_bool (by simp), hS.out.trans (hX.out.mono hS.out.size)⟩
end Go.Proofs.Ytdebeimognikiaa.con
namespace Go.Proofs.Ytdebeimognikiaa
open Go.ChangeShapes Go.WideShapes Go.ChangeAt Go.WideMaps Go.WideElems Go.RowKit Go.Ytdebeimognikiaa
set_option linter.unusedVariables false
theorem own : ownKnob Try.prog.godebug = none := by kernel_rfl
theorem laidOut : laidOutB Try.prog = true := by kernel_rfl
section
variable {H : Type} {enc : TypeId × Value → H} {P : Program} {w : World} {base : Nat} {sp : Nat → Bool} {held : Bool}
theorem trodAll_stays (hl : laidOutB P = true) {W W' : World} {sp' : Nat → Bool} : ∀ {ts : List TypeId} {vs : List Value} {ds : List (DataW H)} {ps : List MemPlace}, (∀ t ∈ ts, P.readableRec t = true ∧ t < P.types.size) →
    DataW.TrodAll enc P W base (fun _ => true) true ts vs ds ps → (∀ p ∈ ps, W.sameAt W' p) → (∀ p ∈ ps, sp' p.block = true) → DataW.TrodAll enc P W' base sp' true ts vs ds ps
  | [], [], [], _, _, h, _, _ => h
  | [], [], _ :: _, _, _, h, _, _ => h.elim
  | [], _ :: _, _, _, _, h, _, _ => by cases ‹List (DataW H)› <;> exact h.elim
  | _ :: _, [], _, _, _, h, _, _ => by cases ‹List (DataW H)› <;> exact h.elim
  | _ :: _, _ :: _, [], _, _, h, _, _ => h.elim
  | t :: ts, v :: vs, d :: ds, ps, ht, h, hs, hp => by
    obtain ⟨p, q, h1, h2, rfl⟩ := h
    obtain ⟨r1, r2⟩ := ht t List.mem_cons_self
    exact ⟨p, q, Trod_stays hl r1 r2 h1 (fun x hx => hs x (List.mem_append_left _ hx)) (fun x hx => hp x (List.mem_append_left _ hx)),
      trodAll_stays hl (fun u hu => ht u (List.mem_cons_of_mem _ hu)) h2 (fun x hx => hs x (List.mem_append_right _ hx)) (fun x hx => hp x (List.mem_append_right _ hx)), rfl⟩
/-- A law's end: true, in a world whose old memory is as' it was. -/
theorem law_post {f : Func} {s : ChangeSpec} {apart fresh handsOn : Bool} {W W' : World} {args : Array Value} {v : Value} {ds gs : List (DataW H)} {before : List MemPlace} (hl : laidOutB P = true)
    (hts : ∀ t ∈ f.params.toList, P.readableRec t = true ∧ t < P.types.size) (hvs : varsRowed P s.vars = true)
    (hW : DataW.Whole enc P f.params.toList s.vars apart W args.toList ds gs before) (hb : Below W.heap.size W W')
    (hres : ∀ (b : Nat) (sp : Nat → Bool) (hd : Bool), DataW.TrodAll enc P W' b sp hd f.resultTypes.toList (v.resultList f.resultTypes.size) (s.fn H (ds ++ gs)).results [])
    (hargs : (s.fn H (ds ++ gs)).args = ds) (hvars : (s.fn H (ds ++ gs)).vars = gs) :
    s.post enc P f apart fresh handsOn false W args v W' := by
  have hW2 := hW
  have hlt : ∀ p ∈ before, p.block < W.heap.size := fun p hp => hW.lt p hp
  obtain ⟨p, q, hA, hV, rfl, hfz, hnd⟩ := hW
  refine ⟨ds, gs, p ++ q, [], p, q, hW2, hres _ _ _, ?_, ?_, hb.frame _, fun h => by cases h⟩
  · rw [hargs]
    exact trodAll_stays hl hts hA (fun x hx => hb.same (hlt x (List.mem_append_left _ hx))) (fun x hx => by simpa using hlt x (List.mem_append_left _ hx))
  · rw [hvars]
    exact Below.trodVars hl hb hvs hV
end
section
variable {H : Type} {enc : TypeId × Value → H} {P : Program} {W : World}
end
theorem boundsOf64 (x : Int) (h : (Lit.int .i64 x).wf = true) : -9223372036854775808 ≤ x ∧ x ≤ 9223372036854775807 := by
  simpa [Lit.wf, IntKind.min, IntKind.max, IntKind.signed, IntKind.bits] using h
end Go.Proofs.Ytdebeimognikiaa
namespace Go.Proofs.Ytdebeimognikiaa.con
open Go.ChangeShapes Go.WideShapes Go.ChangeAt Go.WideMaps Go.WideElems Go.RowKit Go.Joins Go.Ytdebeimognikiaa
set_option linter.unusedVariables false
section
variable {H : Type} {enc : TypeId × Value → H} {P : Program} {W : World}
theorem trod_intsN {t e : TypeId} (ht : P.underlying t = some (.slice e)) (he : P.underlying e = some (.int .i64)) (hc : P.cellsOf e = 1) {fuel : Nat} {cs : List Value} {x : DataW H × List MemPlace}
    (h : DataW.trod enc P W 0 (fun _ => true) true fuel t cs = some x) : ∃ v l, cs = [v] ∧ RdN W v l ∧ ∀ k ∈ l, -9223372036854775808 ≤ k ∧ k ≤ 9223372036854775807 := by
  rcases open_ints ht he hc h with ⟨rfl, _⟩ | ⟨a, len, cap, zs, rfl, hb, hl, hm, hz, _, hcell, hwf⟩
  · exact ⟨_, [], rfl, .inl ⟨none, 0, rfl, fun _ => rfl, rfl⟩, fun k hk => by cases hk⟩
  · simp only [if_true] at hz
    refine ⟨_, zs.take len, rfl, ?_, fun k hk => boundsOf64 k (hwf k (List.mem_of_mem_take hk))⟩
    have hln : (zs.take len).length = len := by rw [List.length_take]; omega
    by_cases h0 : len = 0
    · subst h0
      exact .inl ⟨some a, cap, rfl, (fun h => by cases h), rfl⟩
    · obtain ⟨b, o, spot⟩ := a
      have hspot : spot = none := by simpa [Addr.add] using World.cell?_spot (hcell 0 (by omega))
      subst hspot
      refine .inr ⟨b, o, cap, by rw [hln], by rw [hln]; exact hl, hm, World.block_lt_of_cell? _ _ (hcell 0 (by omega)), fun i hi => ?_⟩
      rw [hln] at hi
      have := hcell i (by omega)
      rw [addr_add] at this
      rw [this]
      simp [ith, List.getD, hi]
theorem open_intsN {t e : TypeId} {v : Value} {d : DataW H} {p : List MemPlace} (ht : P.underlying t = some (.slice e)) (he : P.underlying e = some (.int .i64)) (hc : P.cellsOf e = 1) (hct : P.cellsOf t = 1)
    {r : Reach} {b0 : Nat} (hv : Value.okWide P W r b0 t v) (h : DataW.Trod enc P W 0 (fun _ => true) true t v d p) : ∃ l, RdN W v l ∧ ∀ k ∈ l, -9223372036854775808 ≤ k ∧ k ≤ 9223372036854775807 := by
  obtain ⟨fuel, hf⟩ := h
  obtain ⟨v', l, h1, h2, h3⟩ := trod_intsN ht he hc hf
  refine ⟨l, ?_, h3⟩
  unfold Value.okWide at hv
  rw [ht] at hv
  simp only [Cell.okWide, ht] at hv
  cases v <;> simp [Cell.ok, ht] at hv
  simp [Value.cells] at h1
  rw [h1]; exact h2
end
theorem array2 {α : Type} {cs : Array α} (h : cs.size = 2) : ∃ c0 c1, cs = #[c0, c1] := by
  obtain ⟨l⟩ := cs
  match l, h with
  | [c0, c1], _ => exact ⟨c0, c1, rfl⟩
section
variable {H : Type} {enc : TypeId × Value → H} {W : World}
set_option maxRecDepth 10000 in
theorem open_tasks {v : Value} {d : DataW H} {p : List MemPlace} {r : Reach} {b0 : Nat} (hv : Value.okWide Try.prog W r b0 24 v) (h : DataW.Trod enc Try.prog W 0 (fun _ => true) true 24 v d p) :
    ∃ (lv av : Value) (L A : List Int), v = .agg (tkC lv av) ∧ RdN W lv L ∧ RdN W av A := by
  obtain ⟨cs, rfl, hsz⟩ := okWide_struct Try.underlying24 hv
  obtain ⟨c0, c1, rfl⟩ := array2 (hsz.trans (by kernel_rfl))
  obtain ⟨fuel, hf⟩ := h
  obtain ⟨y0, y1, n, _, _, e0, e1⟩ := trod_struct2 Try.underlying24 hf
  have kI : Try.prog.cellsOf 22 = 1 := by kernel_rfl
  dsimp only at e0 e1
  rw [kI] at e0 e1
  simp only [Value.cells, List.drop_zero, List.take_succ_cons, List.take_zero, List.drop_succ_cons] at e0 e1
  obtain ⟨lv, L, a0, hL, _⟩ := trod_intsN Try.underlying22 Try.underlying3 (by kernel_rfl) e0
  obtain ⟨av, A, a1, hA, _⟩ := trod_intsN Try.underlying22 Try.underlying3 (by kernel_rfl) e1
  refine ⟨lv, av, L, A, ?_, hL, hA⟩
  rw [(List.cons.inj a0).1, (List.cons.inj a1).1]
end
end Go.Proofs.Ytdebeimognikiaa.con

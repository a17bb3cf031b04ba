/- Layer 7: contracts of package frame: Parse. -/
import Derived.Test.YtegffpjhdodldaaF08
import Derived.BigQuiet
namespace Go.Proofs.Ytegffpjhdodldaa
open Go.RowKit Go.Ytegffpjhdodldaa
set_option linter.unusedVariables false
theorem quiet_cell {P : Program} {C : World → Prop} {o : Oper} {a : Act} (ty : TypeId) (x : Operand) (ho : o.op = .load ty x) (g k : Nat) (hx : a.eval x = .pointer (some ⟨g, k, none⟩)) (v : Value)
    (hC : ∀ w, C w → w.cell? ⟨g, k, none⟩ = some v) (hu : ∀ w, (isAgg ty).run P w = .ok false w) : ∀ w, C w → o.quietAt P a C w v := by
  intro w hw
  have hc := hC w hw
  unfold Oper.quietAt execOp
  generalize a.eval = ev at *
  simp only [ho]
  simp [go_sem, hx, hu, hc]
theorem parse_short {l : List Int} (h : l.length = 0 ∨ 2000 < l.length) : parseF l = none := if_pos h
theorem parse_none {l : List Int} (h : ¬ (l.length = 0 ∨ 2000 < l.length)) (h2 : readR (ith l 0) (l.drop 1) = none) : parseF l = none := by
  unfold parseF
  rw [if_neg h, h2]
theorem parse_not {l : List Int} (h : ¬ (l.length = 0 ∨ 2000 < l.length)) {f : Fr} {u : Nat} (h2 : readR (ith l 0) (l.drop 1) = some (f, u)) (h3 : u ≠ l.length - 1) : parseF l = none := by
  unfold parseF
  rw [if_neg h, h2]
  exact if_neg h3
theorem parse_some {l : List Int} (h : ¬ (l.length = 0 ∨ 2000 < l.length)) {f : Fr} {u : Nat} (h2 : readR (ith l 0) (l.drop 1) = some (f, u)) (h3 : u = l.length - 1) : parseF l = some f := by
  unfold parseF
  rw [if_neg h, h2]
  exact if_pos h3
def parsePost (w : World) (b : List Int) (e : Ending) (w' : World) : Prop :=
  Below w.heap.size w w' ∧ (parseF b = none → e = .returned (.tuple #[.agg ((kF 0).c (.slice none 0 0) (.slice none 0 0)), .int .i64 12])) ∧
    ∀ f, parseF b = some f → ∃ iv ov, e = .returned (.tuple #[.agg (f.c iv ov), .int .i64 0]) ∧ HeldI w.heap.size w' iv f.n f.F ∧ HeldS w.heap.size w' ov f.L
set_option maxHeartbeats 4000000 in
set_option maxRecDepth 100000 in
theorem parse_any (b : List Int) (bv : Value) (w : World) (hr : RdB w bv b) (hb : Bytes b) :
    Calls Try.prog 19 #[bv] w (parsePost w b) := by
  obtain ⟨W, hW⟩ : ∃ W, W = w.alloc (.cells ((kF 0).c (.slice none 0 0) (.slice none 0 0)) 26) := ⟨_, rfl⟩
  have hr0 : W.heap[w.heap.size]? = some (.cells ((kF 0).c (.slice none 0 0) (.slice none 0 0)) 26 (0, 0)) := by rw [hW]; exact heap_alloc_new w _
  have hb0 : Below w.heap.size w W := by rw [hW]; exact (Below.refl w.heap.size w).alloc (Nat.le_refl _) _
  have hsz : W.heap.size = w.heap.size + 1 := by rw [hW]; simp
  obtain ⟨ba, bc, rfl⟩ := hr.slice
  have hB := Lib.hid hb0
  have hs := Lib.hid hr0
  have hrb := Lib.hid (hr.mono hb0)
  have hszh := Lib.hid hsz
  have hbb := Lib.hid hb
  obtain ⟨NB, hNB⟩ : ∃ NB, b.length = NB := ⟨_, rfl⟩
  have hNBh := Lib.hid hNB
  rw [hNB] at hrb ⊢
  clear hr0 hb0 hsz hr hb
  by_cases hg : NB = 0 ∨ 2000 < NB
  · have hn := Lib.hid (parse_short (l := b) (by rw [hNB]; exact hg))
    clear hNB
    rcases hg with rfl | hg
    all_goals
      go_enter Try.func19, Try.ntmps19
      go_upto_region 1 with fail
      change Code.wp _ _ _ _ (w.alloc (.cells ((kF 0).c (.slice none 0 0) (.slice none 0 0)) 26))
      rw [← hW]
      clear hW
      go_wp2_with (refine wpList_store_row rfl 26 _ _ rfl w.heap.size ((kF 0).c (.slice none 0 0) (.slice none 0 0)) rfl rfl 26 _ hs.out info_frame rfl (fr_one _ _ _ _ _ _ _) ?_)
      refine bodyPost_ret (results_row_tmp rfl _ _ w.heap.size 26 _ _ _ rfl (setRow_heap _ _ _ _ _ _ hs.out) Try.underlying26 rfl info_frame) rfl ?_
      exact ⟨below_setRow' hB.out (Nat.le_refl _) _, (fun _ => rfl), fun f h => by rw [hn.out] at h; cases h⟩
  · have hgn : ¬ (b.length = 0 ∨ 2000 < b.length) := by rw [hNB]; exact hg
    have n1 : ¬ NB = 0 := fun h => hg (.inl h)
    have n2 : ¬ 2000 < NB := fun h => hg (.inr h)
    have d1 : ((NB : Int) == 0) = false := by simpa using n1
    have d2 : decide ((2000 : Int) < (NB : Int)) = false := decide_eq_false (by omega)
    have d3 : ¬ ((2000 : Int) < (NB : Int)) := by omega
    clear hg
    rcases hrb.out with ⟨_, _, hx, _, _⟩ | ⟨bb, o, c, hx, r1, r2, r3, r4⟩
    · obtain ⟨_, e2, _⟩ := Value.slice.inj hx
      exact absurd e2 n1
    obtain ⟨e1, e2, e3⟩ := Value.slice.inj hx
    clear e2 hx
    subst e1 e3
    have hc0 := Lib.hid (r4 0 (by omega))
    rw [Nat.add_zero] at hc0
    have hlen := Lib.hid r1
    have hbd := bytes_drop b 1 hbb.out
    have hrd := rdB_from hrb.out hNB 1 (by omega)
    have hx0 := hbb.out 0
    have hl1 : (b.drop 1).length ≤ 100000 := by rw [List.length_drop]; omega
    have hR := Lib.hid (fun bv wz (h : RdB wz bv (b.drop 1)) => read_any (ith b 0) (b.drop 1) bv wz h hbd hl1)
    have hpn := Lib.hid (fun h => parse_none (l := b) hgn h)
    have hpx := Lib.hid (fun f u h h2 => parse_not (l := b) hgn (f := f) (u := u) h h2)
    have hpy := Lib.hid (fun f u h h2 => parse_some (l := b) hgn (f := f) (u := u) h h2)
    rw [hNB] at hpx hpy
    rw [hNB] at hlen
    have hbu := Lib.hid (fun f u h => (readR_back hx0 hbd hl1 (f := f) (u := u) h).2.2.2.1)
    clear r4 r1 r2 hgn hbd hl1 hNB
    generalize ith b 0 = k at *
    rcases Decidable.em (bc = 1) with rfl | hc1
    · have hr1 := Lib.hid (show RdB W (.slice (some ⟨bb, o, none⟩) (NB - 1) 0) (b.drop 1) by rw [show NB - 1 = 0 by have := hlen.out; omega]; exact hrd.1 rfl)
      go_enter Try.func19, Try.ntmps19
      go_upto_region 1 with fail
      change Code.wp _ _ _ _ (w.alloc (.cells ((kF 0).c (.slice none 0 0) (.slice none 0 0)) 26))
      rw [← hW]
      clear hW
      go_upto_region 3 with fail
      refine wp_region_quiet (C := fun w' => Below W.heap.size W w') (by kernel_rfl) (by kernel_rfl) ((Below.refl _ _).drew) ?_
      simp only []
      (go_big_quiet_want; go_big_quiet_op; first | go_big_quiet_on | (refine ⟨_, fun _ _ => rfl, ?_⟩; go_big_quiet_on))
      (go_big_quiet_want; go_big_quiet_op; first | go_big_quiet_on | (refine ⟨_, fun _ _ => rfl, ?_⟩; go_big_quiet_on))
      refine wpq (.int .u8 k) rfl (quiet_cell 5 _ rfl bb o rfl (.int .u8 k) (fun w h => (h.cell (p := (⟨bb, o, none⟩ : Addr)) r3).trans hc0.out) Try.isAgg5) rfl (fun K hK => ?_); go_simp; refine hK _ ?_; clear hK K
      (go_big_quiet_want; go_big_quiet_op; first | go_big_quiet_on | (refine ⟨_, fun _ _ => rfl, ?_⟩; go_big_quiet_on))
      (go_big_quiet_want; go_big_quiet_op; first | go_big_quiet_on | (refine ⟨_, fun _ _ => rfl, ?_⟩; go_big_quiet_on))
      (go_big_quiet_want; go_big_quiet_op; first | go_big_quiet_on | (refine ⟨_, fun _ _ => rfl, ?_⟩; go_big_quiet_on))
      (go_big_quiet_want; go_big_quiet_op; first | go_big_quiet_on | (refine ⟨_, fun _ _ => rfl, ?_⟩; go_big_quiet_on))
      refine wpQuiet_nil ?_
      intro w2 h2
      replace hs := Lib.hid (rowB hs.out h2 (Array.getElem?_eq_some_iff.1 hs.out).1)
      have hz2 := Lib.hid h2.size
      have hP := Lib.hid (hR.out _ _ (hr1.out.mono h2))
      replace hB := Lib.hid (hB.out.trans (h2.mono hB.out.size))
      clear h2 hr1 hc0 hR hrd
      generalize hD : NB - 1 = D at *
      cases hre : readR k (b.drop 1) with
      | none =>
        have hn := Lib.hid (hpn.out hre)
        have hP2 := Lib.hid (hP.out.mono fun e w' h => (show e = .returned (.tuple #[.agg ((kF k).c (.slice none 0 0) (.slice none 0 0)), .int .i64 0, .int .i64 12]) ∧ Below w2.heap.size w2 w' from ⟨h.2.1 hre, h.1⟩))
        clear hP hpn hpx hpy hbu hre
        go_upto_region 5 with (go_at_call 34; (with_reducible refine (hP2.out).mono ?_); rintro e w3 ⟨rfl, q2⟩; replace hs := Lib.hid (rowB hs.out q2 (Array.getElem?_eq_some_iff.1 hs.out).1); replace hB := Lib.hid (hB.out.trans (q2.mono hB.out.size)); clear q2)
        have q5 := below_a w3 (.cells ((kF k).c (.slice none 0 0) (.slice none 0 0)) 26)
        have hf := Lib.hid (heap_alloc_new w3 (.cells ((kF k).c (.slice none 0 0) (.slice none 0 0)) 26))
        replace hs := Lib.hid (rowB hs.out q5 (Array.getElem?_eq_some_iff.1 hs.out).1)
        replace hB := Lib.hid (hB.out.trans (q5.mono hB.out.size))
        clear q5
        change Code.wp _ _ _ _ (w3.alloc (.cells ((kF k).c (.slice none 0 0) (.slice none 0 0)) 26))
        generalize w3.alloc (.cells ((kF k).c (.slice none 0 0) (.slice none 0 0)) 26) = w4 at *
        generalize w3.heap.size = g4 at *
        go_wp2_with (refine wpList_store_row rfl 26 _ _ rfl w.heap.size ((kF 0).c (.slice none 0 0) (.slice none 0 0)) rfl rfl 26 _ hs.out info_frame rfl (fr_one _ _ _ _ _ _ _) ?_)
        refine bodyPost_ret (results_row_tmp rfl _ _ w.heap.size 26 _ _ _ rfl (setRow_heap _ _ _ _ _ _ hs.out) Try.underlying26 rfl info_frame) rfl ?_
        exact ⟨below_setRow' hB.out (Nat.le_refl _) _, (fun _ => rfl), fun f h => by rw [hn.out] at h; cases h⟩
      | some q =>
        obtain ⟨f, u⟩ := q
        have hP2 := Lib.hid (hP.out.mono fun e w' h => (show ∃ va vc oa oc, e = .returned (.tuple #[.agg (f.c (.slice va f.n vc) (.slice oa f.L.length oc)), .int .i64 ((u : Nat) : Int), .int .i64 0]) ∧ HeldI w2.heap.size w' (.slice va f.n vc) f.n f.F ∧ HeldS w2.heap.size w' (.slice oa f.L.length oc) f.L ∧ Below w2.heap.size w2 w' from by
          obtain ⟨iv, ov, h1, h2, h3⟩ := h.2.2 f u hre
          obtain ⟨va, vc, rfl⟩ := (heldI_rd h2).slice
          obtain ⟨oa, oc, rfl⟩ := (heldS_rd h3).slice
          exact ⟨va, vc, oa, oc, h1, h2, h3, h.1⟩))
        have hx := Lib.hid (hpx.out f u hre)
        have hy := Lib.hid (hpy.out f u hre)
        clear hP hpn hpx hpy hbu hre
        go_upto_region 5 with (go_at_call 34; (with_reducible refine (hP2.out).mono ?_); rintro e w3 ⟨va, vc, oa, oc, rfl, q3, q4, q2⟩; replace hs := Lib.hid (rowB hs.out q2 (Array.getElem?_eq_some_iff.1 hs.out).1); have hz3 := Lib.hid hB.out.size; replace hB := Lib.hid (hB.out.trans (q2.mono hB.out.size)); have hI := Lib.hid q3; have hO := Lib.hid q4; clear q2 q3 q4)
        have q5 := below_a w3 (.cells (f.c (.slice va f.n vc) (.slice oa f.L.length oc)) 26)
        have hf := Lib.hid (heap_alloc_new w3 (.cells (f.c (.slice va f.n vc) (.slice oa f.L.length oc)) 26))
        replace hs := Lib.hid (rowB hs.out q5 (Array.getElem?_eq_some_iff.1 hs.out).1)
        replace hB := Lib.hid (hB.out.trans (q5.mono hB.out.size))
        replace hI := Lib.hid (heldI_mono hI.out q5)
        replace hO := Lib.hid (heldS_mono hO.out q5)
        clear q5
        change Code.wp _ _ _ _ (w3.alloc (.cells (f.c (.slice va f.n vc) (.slice oa f.L.length oc)) 26))
        generalize w3.alloc (.cells (f.c (.slice va f.n vc) (.slice oa f.L.length oc)) 26) = w4 at *
        generalize w3.heap.size = g4 at *
        by_cases hu : u = D
        · subst hu
          have hn := Lib.hid (hy.out rfl)
          clear hx hy
          have d5 : ((u : Int) != (u : Int)) = false := by simp
          go_wp2_with (first
            | (refine wpList_load_row_g rfl 26 _ rfl g4 rfl 26 (f.c (.slice va f.n vc) (.slice oa f.L.length oc)) (0, 0) _ hf.out Try.underlying26 rfl info_frame ?_)
            | (refine wpList_store_row rfl 26 _ _ rfl w.heap.size (f.c (.slice va f.n vc) (.slice oa f.L.length oc)) rfl rfl 26 _ hs.out info_frame rfl (fr_one _ _ _ _ _ _ _) ?_))
          refine bodyPost_ret (results_row_tmp rfl _ _ w.heap.size 26 _ _ _ rfl (setRow_heap _ _ _ _ _ _ hs.out) Try.underlying26 rfl info_frame) rfl ?_
          exact ⟨below_setRow' hB.out (Nat.le_refl _) _, (fun h => by rw [hn.out] at h; cases h), fun f' h => by
            rw [hn.out] at h
            obtain rfl := Option.some.inj h
            exact ⟨_, _, rfl, heldI_lower (held_setRow hI.out (by have := hszh.out; have := hz2.out; omega) _) hz3.out, heldS_lower (heldS_setRow hO.out (by have := hszh.out; have := hz2.out; omega) _) hz3.out⟩⟩
        · have hn := Lib.hid (hx.out hu)
          clear hx hy
          have d5 : ((u : Int) != (D : Int)) = true := by simp only [bne_iff_ne, ne_eq]; omega
          go_wp2_with (refine wpList_store_row rfl 26 _ _ rfl w.heap.size ((kF 0).c (.slice none 0 0) (.slice none 0 0)) rfl rfl 26 _ hs.out info_frame rfl (fr_one _ _ _ _ _ _ _) ?_)
          refine bodyPost_ret (results_row_tmp rfl _ _ w.heap.size 26 _ _ _ rfl (setRow_heap _ _ _ _ _ _ hs.out) Try.underlying26 rfl info_frame) rfl ?_
          exact ⟨below_setRow' hB.out (Nat.le_refl _) _, (fun _ => rfl), fun f h => by rw [hn.out] at h; cases h⟩
    · have hr1 := Lib.hid (hrd.2 hc1)
      go_enter Try.func19, Try.ntmps19
      go_upto_region 1 with fail
      change Code.wp _ _ _ _ (w.alloc (.cells ((kF 0).c (.slice none 0 0) (.slice none 0 0)) 26))
      rw [← hW]
      clear hW
      go_upto_region 3 with fail
      refine wp_region_quiet (C := fun w' => Below W.heap.size W w') (by kernel_rfl) (by kernel_rfl) ((Below.refl _ _).drew) ?_
      simp only []
      (go_big_quiet_want; go_big_quiet_op; first | go_big_quiet_on | (refine ⟨_, fun _ _ => rfl, ?_⟩; go_big_quiet_on))
      (go_big_quiet_want; go_big_quiet_op; first | go_big_quiet_on | (refine ⟨_, fun _ _ => rfl, ?_⟩; go_big_quiet_on))
      refine wpq (.int .u8 k) rfl (quiet_cell 5 _ rfl bb o rfl (.int .u8 k) (fun w h => (h.cell (p := (⟨bb, o, none⟩ : Addr)) r3).trans hc0.out) Try.isAgg5) rfl (fun K hK => ?_); go_simp; refine hK _ ?_; clear hK K
      (go_big_quiet_want; go_big_quiet_op; first | go_big_quiet_on | (refine ⟨_, fun _ _ => rfl, ?_⟩; go_big_quiet_on))
      (go_big_quiet_want; go_big_quiet_op; first | go_big_quiet_on | (refine ⟨_, fun _ _ => rfl, ?_⟩; go_big_quiet_on))
      (go_big_quiet_want; go_big_quiet_op; first | go_big_quiet_on | (refine ⟨_, fun _ _ => rfl, ?_⟩; go_big_quiet_on))
      (go_big_quiet_want; go_big_quiet_op; first | go_big_quiet_on | (refine ⟨_, fun _ _ => rfl, ?_⟩; go_big_quiet_on))
      refine wpQuiet_nil ?_
      intro w2 h2
      replace hs := Lib.hid (rowB hs.out h2 (Array.getElem?_eq_some_iff.1 hs.out).1)
      have hz2 := Lib.hid h2.size
      have hP := Lib.hid (hR.out _ _ (hr1.out.mono h2))
      replace hB := Lib.hid (hB.out.trans (h2.mono hB.out.size))
      clear h2 hr1 hc0 hR hrd
      generalize hD : NB - 1 = D at *
      cases hre : readR k (b.drop 1) with
      | none =>
        have hn := Lib.hid (hpn.out hre)
        have hP2 := Lib.hid (hP.out.mono fun e w' h => (show e = .returned (.tuple #[.agg ((kF k).c (.slice none 0 0) (.slice none 0 0)), .int .i64 0, .int .i64 12]) ∧ Below w2.heap.size w2 w' from ⟨h.2.1 hre, h.1⟩))
        clear hP hpn hpx hpy hbu hre
        go_upto_region 5 with (go_at_call 34; (with_reducible refine (hP2.out).mono ?_); rintro e w3 ⟨rfl, q2⟩; replace hs := Lib.hid (rowB hs.out q2 (Array.getElem?_eq_some_iff.1 hs.out).1); replace hB := Lib.hid (hB.out.trans (q2.mono hB.out.size)); clear q2)
        have q5 := below_a w3 (.cells ((kF k).c (.slice none 0 0) (.slice none 0 0)) 26)
        have hf := Lib.hid (heap_alloc_new w3 (.cells ((kF k).c (.slice none 0 0) (.slice none 0 0)) 26))
        replace hs := Lib.hid (rowB hs.out q5 (Array.getElem?_eq_some_iff.1 hs.out).1)
        replace hB := Lib.hid (hB.out.trans (q5.mono hB.out.size))
        clear q5
        change Code.wp _ _ _ _ (w3.alloc (.cells ((kF k).c (.slice none 0 0) (.slice none 0 0)) 26))
        generalize w3.alloc (.cells ((kF k).c (.slice none 0 0) (.slice none 0 0)) 26) = w4 at *
        generalize w3.heap.size = g4 at *
        go_wp2_with (refine wpList_store_row rfl 26 _ _ rfl w.heap.size ((kF 0).c (.slice none 0 0) (.slice none 0 0)) rfl rfl 26 _ hs.out info_frame rfl (fr_one _ _ _ _ _ _ _) ?_)
        refine bodyPost_ret (results_row_tmp rfl _ _ w.heap.size 26 _ _ _ rfl (setRow_heap _ _ _ _ _ _ hs.out) Try.underlying26 rfl info_frame) rfl ?_
        exact ⟨below_setRow' hB.out (Nat.le_refl _) _, (fun _ => rfl), fun f h => by rw [hn.out] at h; cases h⟩
      | some q =>
        obtain ⟨f, u⟩ := q
        have hP2 := Lib.hid (hP.out.mono fun e w' h => (show ∃ va vc oa oc, e = .returned (.tuple #[.agg (f.c (.slice va f.n vc) (.slice oa f.L.length oc)), .int .i64 ((u : Nat) : Int), .int .i64 0]) ∧ HeldI w2.heap.size w' (.slice va f.n vc) f.n f.F ∧ HeldS w2.heap.size w' (.slice oa f.L.length oc) f.L ∧ Below w2.heap.size w2 w' from by
          obtain ⟨iv, ov, h1, h2, h3⟩ := h.2.2 f u hre
          obtain ⟨va, vc, rfl⟩ := (heldI_rd h2).slice
          obtain ⟨oa, oc, rfl⟩ := (heldS_rd h3).slice
          exact ⟨va, vc, oa, oc, h1, h2, h3, h.1⟩))
        have hx := Lib.hid (hpx.out f u hre)
        have hy := Lib.hid (hpy.out f u hre)
        clear hP hpn hpx hpy hbu hre
        go_upto_region 5 with (go_at_call 34; (with_reducible refine (hP2.out).mono ?_); rintro e w3 ⟨va, vc, oa, oc, rfl, q3, q4, q2⟩; replace hs := Lib.hid (rowB hs.out q2 (Array.getElem?_eq_some_iff.1 hs.out).1); have hz3 := Lib.hid hB.out.size; replace hB := Lib.hid (hB.out.trans (q2.mono hB.out.size)); have hI := Lib.hid q3; have hO := Lib.hid q4; clear q2 q3 q4)
        have q5 := below_a w3 (.cells (f.c (.slice va f.n vc) (.slice oa f.L.length oc)) 26)
        have hf := Lib.hid (heap_alloc_new w3 (.cells (f.c (.slice va f.n vc) (.slice oa f.L.length oc)) 26))
        replace hs := Lib.hid (rowB hs.out q5 (Array.getElem?_eq_some_iff.1 hs.out).1)
        replace hB := Lib.hid (hB.out.trans (q5.mono hB.out.size))
        replace hI := Lib.hid (heldI_mono hI.out q5)
        replace hO := Lib.hid (heldS_mono hO.out q5)
        clear q5
        change Code.wp _ _ _ _ (w3.alloc (.cells (f.c (.slice va f.n vc) (.slice oa f.L.length oc)) 26))
        generalize w3.alloc (.cells (f.c (.slice va f.n vc) (.slice oa f.L.length oc)) 26) = w4 at *
        generalize w3.heap.size = g4 at *
        by_cases hu : u = D
        · subst hu
          have hn := Lib.hid (hy.out rfl)
          clear hx hy
          have d5 : ((u : Int) != (u : Int)) = false := by simp
          go_wp2_with (first
            | (refine wpList_load_row_g rfl 26 _ rfl g4 rfl 26 (f.c (.slice va f.n vc) (.slice oa f.L.length oc)) (0, 0) _ hf.out Try.underlying26 rfl info_frame ?_)
            | (refine wpList_store_row rfl 26 _ _ rfl w.heap.size (f.c (.slice va f.n vc) (.slice oa f.L.length oc)) rfl rfl 26 _ hs.out info_frame rfl (fr_one _ _ _ _ _ _ _) ?_))
          refine bodyPost_ret (results_row_tmp rfl _ _ w.heap.size 26 _ _ _ rfl (setRow_heap _ _ _ _ _ _ hs.out) Try.underlying26 rfl info_frame) rfl ?_
          exact ⟨below_setRow' hB.out (Nat.le_refl _) _, (fun h => by rw [hn.out] at h; cases h), fun f' h => by
            rw [hn.out] at h
            obtain rfl := Option.some.inj h
            exact ⟨_, _, rfl, heldI_lower (held_setRow hI.out (by have := hszh.out; have := hz2.out; omega) _) hz3.out, heldS_lower (heldS_setRow hO.out (by have := hszh.out; have := hz2.out; omega) _) hz3.out⟩⟩
        · have hn := Lib.hid (hx.out hu)
          clear hx hy
          have d5 : ((u : Int) != (D : Int)) = true := by simp only [bne_iff_ne, ne_eq]; omega
          go_wp2_with (refine wpList_store_row rfl 26 _ _ rfl w.heap.size ((kF 0).c (.slice none 0 0) (.slice none 0 0)) rfl rfl 26 _ hs.out info_frame rfl (fr_one _ _ _ _ _ _ _) ?_)
          refine bodyPost_ret (results_row_tmp rfl _ _ w.heap.size 26 _ _ _ rfl (setRow_heap _ _ _ _ _ _ hs.out) Try.underlying26 rfl info_frame) rfl ?_
          exact ⟨below_setRow' hB.out (Nat.le_refl _) _, (fun _ => rfl), fun f h => by rw [hn.out] at h; cases h⟩
end Go.Proofs.Ytegffpjhdodldaa

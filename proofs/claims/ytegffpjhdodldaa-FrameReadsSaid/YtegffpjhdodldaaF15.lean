/- FrameReads' walk. -/
import Derived.Test.YtegffpjhdodldaaF14
import Derived.Test.YtegffpjhdodldaaL04a
namespace Go.Proofs.Ytegffpjhdodldaa
open Go.RowKit Go.Ytegffpjhdodldaa
set_option linter.unusedVariables false
theorem sameFr_self (f : Fr) : sameFr f f = true := sameFr_all rfl rfl (sameF_self _) rfl
/-- What both programs answer to some bytes. -/
structure ParseAns (b : List Int) where
  (f : Fr) (E : Int)
  n : f.n ≤ 100000
  l : f.L.length ≤ 100000
  s : ∀ i, (nthL f.L i).length ≤ 1000000
  one : ∀ v wi, RdB wi v b → Calls Try.prog 19 #[v] wi fun e w' => ∃ ia ic oa oc, e = .returned (.tuple #[.agg (f.c (.slice ia f.n ic) (.slice oa f.L.length oc)), .int .i64 E]) ∧ HeldI wi.heap.size w' (.slice ia f.n ic) f.n f.F ∧ HeldS wi.heap.size w' (.slice oa f.L.length oc) f.L ∧ Below wi.heap.size wi w'
  two : ∀ v wi, RdB wi v b → Calls Try.prog 20 #[v] wi fun e w' => ∃ ia ic oa oc, e = .returned (.tuple #[.agg (f.c (.slice ia f.n ic) (.slice oa f.L.length oc)), .int .i64 E]) ∧ HeldI wi.heap.size w' (.slice ia f.n ic) f.n f.F ∧ HeldS wi.heap.size w' (.slice oa f.L.length oc) f.L ∧ Below wi.heap.size wi w'
theorem post_none {b : List Int} (h : parseF b = none) {w w' : World} {e : Ending} (hp : parsePost w b e w') : ∃ ia ic oa oc, e = .returned (.tuple #[.agg ((kF 0).c (.slice ia (kF 0).n ic) (.slice oa (kF 0).L.length oc)), .int .i64 12]) ∧ HeldI w.heap.size w' (.slice ia (kF 0).n ic) (kF 0).n (kF 0).F ∧ HeldS w.heap.size w' (.slice oa (kF 0).L.length oc) (kF 0).L ∧ Below w.heap.size w w' :=
  ⟨none, 0, none, 0, hp.2.1 h, heldI_nil _ _, heldS_nil _ _, hp.1⟩
theorem post_some {b : List Int} {f : Fr} (h : parseF b = some f) {w w' : World} {e : Ending} (hp : parsePost w b e w') : ∃ ia ic oa oc, e = .returned (.tuple #[.agg (f.c (.slice ia f.n ic) (.slice oa f.L.length oc)), .int .i64 0]) ∧ HeldI w.heap.size w' (.slice ia f.n ic) f.n f.F ∧ HeldS w.heap.size w' (.slice oa f.L.length oc) f.L ∧ Below w.heap.size w w' := by
  obtain ⟨iv, ov, h1, h2, h3⟩ := hp.2.2 f h
  obtain ⟨ia, ic, rfl⟩ := (heldI_rd h2).slice
  obtain ⟨oa, oc, rfl⟩ := (heldS_rd h3).slice
  exact ⟨ia, ic, oa, oc, h1, h2, h3, hp.1⟩
theorem parse_ans (b : List Int) (hb : Bytes b) (hl : b.length ≤ 100000) : Nonempty (ParseAns b) := by
  cases h : parseF b with
  | none =>
    exact ⟨{ f := kF 0, E := 12, n := Nat.zero_le _, l := Nat.zero_le _, s := fun i => by rw [show (kF 0).L = [] from rfl, num_nil]; simp
             one := fun v wi hr => (parse_any b v wi hr hb).mono fun e w' hp => post_none h hp
             two := fun v wi hr => (rParse_any b v wi hr hb hl).mono fun e w' hp => post_none h hp }⟩
  | some f =>
    have ff := (parse_back hb h).2.2
    exact ⟨{ f := f, E := 0, n := ff.n, l := ff.l, s := ff.s
             one := fun v wi hr => (parse_any b v wi hr hb).mono fun e w' hp => post_some h hp
             two := fun v wi hr => (rParse_any b v wi hr hb hl).mono fun e w' hp => post_some h hp }⟩
set_option maxRecDepth 100000 in
set_option maxHeartbeats 4000000 in
theorem reads_law (bv : Value) (b : List Int) (w : World) (hrb : RdB w bv b) (hb : Bytes b) :
    Calls Try.prog 4 #[bv] w fun e w' => e = .returned (.bool true) ∧ Below w.heap.size w w' := by
  by_cases hg : b.length ≤ 2500
  · obtain ⟨⟨f, E, hfn0, hfl0, hfs0, one, two⟩⟩ := parse_ans b hb (by omega)
    have hfn := Lib.hid hfn0
    have hfl := Lib.hid hfl0
    have hfs := Lib.hid hfs0
    have c1 := Lib.hid one
    have c2 := Lib.hid two
    obtain ⟨LB, hLB⟩ : ∃ LB, b.length = LB := ⟨_, rfl⟩
    have lb := Lib.hid hLB
    obtain ⟨ba, bc, rfl⟩ := hrb.slice
    rw [hLB] at hrb hg ⊢
    have ox := Lib.hid (own_nil w)
    have rb0 := Lib.hid (hrb.mono (below_a1 w (.cells #[] 5)))
    have rbb := Lib.hid hrb
    clear hrb hb hLB one two hfn0 hfl0 hfs0
    go_enter Try.func4, Try.ntmps4
    go_wp2_with (refine appendB rfl _ _ 29 rfl w.heap.size 5 Try.underlying29 (by kernel_rfl) _ rfl [] ox.out _ rfl b rb0.out (by simp; rw [lb.out]; omega) (by simp) ?_)
    intro own w1 h1 h2
    have hB1 := (below_a1 w (.cells #[] 5)).trans (ox.out.below h2 (by simp))
    obtain ⟨oa0, oc0, rfl⟩ := own_slice h1 _ lb.out
    have ow := Lib.hid h1
    have hB := Lib.hid hB1
    have hw1 := Lib.hid (Below.refl w1.heap.size w1)
    have rdo := Lib.hid h1.rd
    have rdb := Lib.hid (rbb.out.mono hB1)
    clear h1 h2 hB1 ox rb0 rbb
    refine Stop.go ?_
    go_upto_region 5 with (go_at_call 19; (with_reducible refine (c1.out _ _ rdo.out).mono ?_); rintro e w3 ⟨ia, ic, oa, oc, rfl, q1, q2, q3⟩; have i4 := Lib.hid (heldI_lower q1 hw1.out.size); have s4 := Lib.hid (heldS_lower q2 hw1.out.size); replace rdb := Lib.hid (rdb.out.mono q3); replace hw1 := Lib.hid (hw1.out.trans (q3.mono hw1.out.size)); clear q1 q2 q3)
    have q5 := below_a w3 (.cells (f.c (.slice ia f.n ic) (.slice oa f.L.length oc)) 26)
    have r4 := Lib.hid (heap_alloc_new w3 (.cells (f.c (.slice ia f.n ic) (.slice oa f.L.length oc)) 26))
    have l4 := Lib.hid hw1.out.size
    replace i4 := Lib.hid (heldI_mono i4.out q5)
    replace s4 := Lib.hid (heldS_mono s4.out q5)
    replace rdb := Lib.hid (rdb.out.mono q5)
    replace hw1 := Lib.hid (hw1.out.trans (q5.mono hw1.out.size))
    clear q5
    change Code.wp _ _ _ _ (w3.alloc (.cells (f.c (.slice ia f.n ic) (.slice oa f.L.length oc)) 26))
    generalize w3.alloc (.cells (f.c (.slice ia f.n ic) (.slice oa f.L.length oc)) 26) = w4 at *
    generalize w3.heap.size = g4 at *
    go_upto_region 6 with (go_at_call 20; (with_reducible refine (c2.out _ _ rdb.out).mono ?_); rintro e w5 ⟨ja, jc, pa, pc, rfl, q1, q2, q3⟩; have i6 := Lib.hid (heldI_lower q1 hw1.out.size); have s6 := Lib.hid (heldS_lower q2 hw1.out.size); replace i4 := Lib.hid (heldI_mono i4.out q3); replace s4 := Lib.hid (heldS_mono s4.out q3); replace r4 := Lib.hid (rowB r4.out q3 (Array.getElem?_eq_some_iff.1 r4.out).1); replace hw1 := Lib.hid (hw1.out.trans (q3.mono hw1.out.size)); clear q1 q2 q3)
    have q5 := below_a w5 (.cells (f.c (.slice ja f.n jc) (.slice pa f.L.length pc)) 26)
    have r6 := Lib.hid (heap_alloc_new w5 (.cells (f.c (.slice ja f.n jc) (.slice pa f.L.length pc)) 26))
    have l6 := Lib.hid hw1.out.size
    replace i4 := Lib.hid (heldI_mono i4.out q5)
    replace s4 := Lib.hid (heldS_mono s4.out q5)
    replace i6 := Lib.hid (heldI_mono i6.out q5)
    replace s6 := Lib.hid (heldS_mono s6.out q5)
    replace r4 := Lib.hid (rowB r4.out q5 (Array.getElem?_eq_some_iff.1 r4.out).1)
    replace hw1 := Lib.hid (hw1.out.trans (q5.mono hw1.out.size))
    clear q5
    change Code.wp _ _ _ _ (w5.alloc (.cells (f.c (.slice ja f.n jc) (.slice pa f.L.length pc)) 26))
    generalize w5.alloc (.cells (f.c (.slice ja f.n jc) (.slice pa f.L.length pc)) 26) = w6 at *
    generalize w5.heap.size = g6 at *
    have hBv := Lib.hid (hB.out.trans (hw1.out.mono hB.out.size))
    clear c1 c2 rdo rdb
    rcases ow.out.2 with ⟨he, h0⟩ | ⟨g, cap, cur, he, hbg, hgr, hcn, hcm, hcs, hct⟩
    · obtain ⟨e1, e2, e3⟩ := Value.slice.inj he
      subst e1 e3
      have hLB0 : LB = 0 := e2
      have hgl := Lib.hid (show 0 ≤ w1.heap.size from Nat.zero_le _)
      clear he h0 e2
      subst hLB0
      go_wp2
      go_loopw [8] (fun i wr => i = .int .i64 0 ∧ w6 = wr) (fun i _ => 0)
      case atStart => exact ⟨rfl, rfl⟩
      case round =>
        obtain ⟨rfl, hwr⟩ := hrel
        subst hwr
        have hbk' := hBv
        have t4 := Lib.hid (r4.out)
        have t6 := Lib.hid (r6.out)
        have q1 := Lib.hid (i4.out w6 (fun j k1 _ => rfl) (Nat.le_refl _))
        have q2 := Lib.hid (s4.out w6 (fun j k1 _ => rfl) (Nat.le_refl _))
        have q3 := Lib.hid (i6.out w6 (fun j k1 _ => rfl) (Nat.le_refl _))
        have q4 := Lib.hid (s6.out w6 (fun j k1 _ => rfl) (Nat.le_refl _))
        have hSm := Lib.hid (fun (wz : World) (h : Below w6.heap.size w6 wz) => (sameFr_any f f hfn.out hfl.out hfs.out _ _ _ _ wz (q1.out.mono h) (q2.out.mono h) (q3.out.mono h) (q4.out.mono h)))
        rw [sameFr_self] at hSm
        have hQ := Lib.hid (Below.refl w6.heap.size w6)
        have hEE : (E == E) = true := by simp
        go_wp2_with (first
          | (refine wpList_load_row_g rfl 26 _ rfl g4 rfl 26 (f.c (.slice ia f.n ic) (.slice oa f.L.length oc)) (0, 0) _ t4.out Try.underlying26 rfl info_frame ?_)
          | (refine wpList_load_row_g rfl 26 _ rfl g6 rfl 26 (f.c (.slice ja f.n jc) (.slice pa f.L.length pc)) (0, 0) _ t6.out Try.underlying26 rfl info_frame ?_)
          | (go_at_call 18; (with_reducible refine (hSm.out _ hQ.out).mono ?_); rintro e w9 ⟨rfl, h9⟩; replace hQ := Lib.hid (hQ.out.trans (Below.mono h9 hQ.out.size)); clear h9))
        go_ret
        exact ⟨rfl, hbk'.out.trans (hQ.out.mono hbk'.out.size)⟩
    · obtain ⟨e1, e2, e3⟩ := Value.slice.inj he
      subst e1 e3
      have hg1 : g < w1.heap.size := (Array.getElem?_eq_some_iff.1 hgr).1
      have hgl := Lib.hid hg1
      have hch0 : Churned g LB 5 w6 w6 := ⟨fun _ _ => rfl, rfl, cur, (hw1.out.block g hg1).trans hgr, fun i hi => ⟨ith b i, by
        have h5 : (cur.toList.take (b.length * 1))[i]? = some (.int .u8 (ith b i)) := by rw [hct]; exact u8v_get _ _ (by rw [lb.out]; exact hi)
        rw [List.getElem?_take, if_pos (by rw [lb.out]; omega), Array.getElem?_toList] at h5
        exact h5⟩⟩
      have hch0' := Lib.hid hch0
      have hLoc : LB ≤ oc0 := by rw [← lb.out]; exact hcn
      clear he e2 hct hcs hch0 hcm hcn
      go_wp2
      go_loopw [8] (fun i wr => ∃ k : Nat, k ≤ LB ∧ i = .int .i64 k ∧ Below w.heap.size w wr ∧ Churned g LB 5 w6 wr) (fun i _ => LB - (intOf i).toNat)
      case atStart => exact ⟨0, Nat.zero_le _, rfl, hBv.out, hch0'.out⟩
      case round =>
        obtain ⟨k, hk, rfl, hbk, hch⟩ := hrel
        have hbk' := Lib.hid hbk; have hch' := Lib.hid hch
        clear hbk hch
        by_cases hlt : k < LB
        · obtain ⟨_, _, cs, hrow, hx⟩ := hch'.out
          obtain ⟨x, hx⟩ := hx k hlt
          have cc : wr.cell? ⟨g, k, none⟩ = some (.int .u8 x) := by rw [cell_of_row _ _ _ _ _ _ hrow]; exact hx
          have ff := frozen_of_row _ _ k _ _ hrow
          clear hrow hx
          go_wp2
          go_roundw
          case rel => exact ⟨k + 1, by omega, by go_num, hbk'.out.setCell (p := ⟨g, k, none⟩) hbg _, churned_set hch'.out k _⟩
          case measure => simp [intOf]; omega
        · obtain rfl : k = LB := by omega
          have t4 := Lib.hid ((hch'.out.1 g4 (by have := l4.out; have := hgl.out; omega)).trans r4.out)
          have t6 := Lib.hid ((hch'.out.1 g6 (by have := l6.out; have := hgl.out; omega)).trans r6.out)
          have q1 := Lib.hid (i4.out wr (fun j k1 _ => hch'.out.1 j (by have := hgl.out; omega)) (Nat.le_of_eq hch'.out.2.1.symm))
          have q2 := Lib.hid (s4.out wr (fun j k1 _ => hch'.out.1 j (by have := hgl.out; omega)) (Nat.le_of_eq hch'.out.2.1.symm))
          have q3 := Lib.hid (i6.out wr (fun j k1 _ => hch'.out.1 j (by have := hgl.out; omega)) (Nat.le_of_eq hch'.out.2.1.symm))
          have q4 := Lib.hid (s6.out wr (fun j k1 _ => hch'.out.1 j (by have := hgl.out; omega)) (Nat.le_of_eq hch'.out.2.1.symm))
          have hSm := Lib.hid (fun (wz : World) (h : Below wr.heap.size wr wz) => (sameFr_any f f hfn.out hfl.out hfs.out _ _ _ _ wz (q1.out.mono h) (q2.out.mono h) (q3.out.mono h) (q4.out.mono h)))
          rw [sameFr_self] at hSm
          have hQ := Lib.hid (Below.refl wr.heap.size wr)
          have hEE : (E == E) = true := by simp
          go_wp2_with (first
            | (refine wpList_load_row_g rfl 26 _ rfl g4 rfl 26 (f.c (.slice ia f.n ic) (.slice oa f.L.length oc)) (0, 0) _ t4.out Try.underlying26 rfl info_frame ?_)
            | (refine wpList_load_row_g rfl 26 _ rfl g6 rfl 26 (f.c (.slice ja f.n jc) (.slice pa f.L.length pc)) (0, 0) _ t6.out Try.underlying26 rfl info_frame ?_)
            | (go_at_call 18; (with_reducible refine (hSm.out _ hQ.out).mono ?_); rintro e w9 ⟨rfl, h9⟩; replace hQ := Lib.hid (hQ.out.trans (Below.mono h9 hQ.out.size)); clear h9))
          go_ret
          exact ⟨rfl, hbk'.out.trans (hQ.out.mono hbk'.out.size)⟩
  · obtain ⟨ba, bc, rfl⟩ := hrb.slice
    clear hrb hb
    generalize b.length = LB at *
    have h2 : (2500 : Int) < (LB : Int) := by omega
    go_enter Try.func4, Try.ntmps4
    go_wp2
    go_ret
    exact ⟨rfl, Below.refl _ _⟩
end Go.Proofs.Ytegffpjhdodldaa

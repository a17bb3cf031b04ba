/- Layer 9: Check and Great: contracts of the reference. Layer 9: Check: contract of the reference. Layer 9: Has and Get: contracts of the reference. Layer 9: checks, finding: the law's walk. -/
import Derived.Test.YtnknkiiikeefgaaGreatDoorG15
namespace Go.Proofs.YtnknkiiikeefgaaGreatDoor.wir.val
open Go.RowKit Go.YtnknkiiikeefgaaGreatDoor
set_option linter.unusedVariables false
/-- What a graph that is not great has. -/
def SmallG (n : Nat) (L : List Od) : Prop := (∀ i, i < L.length → greatB (nthO L i) = false) ∧ (L.length ≤ 16 ∨ 60 < L.length) ∧ L.length ≤ 70 ∧ n ≤ 70
def GrPost (n : Nat) (L : List Od) (w : World) (e : Ending) (w' : World) : Prop := ∃ b : Bool, e = .returned (.bool b) ∧ (b = false → SmallG n L) ∧ Below w.heap.size w w'
theorem gr_t {n : Nat} {L : List Od} {w w' : World} {e : Ending} (he : e = .returned (.bool true)) (hb : Below w.heap.size w w') : GrPost n L w e w' := ⟨true, he, fun h => (by cases h), hb⟩
theorem gr_f {n : Nat} {L : List Od} {w w' : World} {e : Ending} (he : e = .returned (.bool false)) (h : SmallG n L) (hb : Below w.heap.size w w') : GrPost n L w e w' := ⟨false, he, fun _ => h, hb⟩
set_option maxHeartbeats 8000000 in
set_option maxRecDepth 100000 in
theorem rGreatG_any (F : List Int) (n : Nat) (L : List Od) (iv ov : Value) (w : World) (hI : RdI w iv n F) (hO : RdO w ov L) :
    Calls Tryz.prog 25 #[.agg (gC iv ov)] w fun e w' => GrPost n L w e w' := by
  obtain ⟨ia, ic, rfl⟩ := hI.slice
  obtain ⟨oa, oc, rfl⟩ := hO.slice
  obtain ⟨m, hmL⟩ : ∃ m, L.length = m := ⟨_, rfl⟩
  have hm' := Lib.hid hmL
  rw [hmL] at hO ⊢
  obtain ⟨W, hW⟩ : ∃ W, W = w.alloc (.cells (gC (.slice ia n ic) (.slice oa m oc)) 41) := ⟨_, rfl⟩
  have hS := Lib.hid (show Below w.heap.size w W by rw [hW]; exact below_a w _)
  have r0 := Lib.hid (show W.heap[w.heap.size]? = some (.cells (gC (.slice ia n ic) (.slice oa m oc)) 41 (0, 0)) by rw [hW]; exact heap_alloc_new w _)
  have hrw := Lib.hid (fun (wz : World) (h : Below W.heap.size W wz) => rowB r0.out h (Array.getElem?_eq_some_iff.1 r0.out).1)
  have hc0 := Lib.hid (fun (wz : World) (h : Below W.heap.size W wz) => (show wz.cell? ⟨w.heap.size, 0, none⟩ = some (.slice ia n ic) by rw [cell_of_row _ _ _ _ _ _ (hrw.out wz h)]; rfl))
  have hc1 := Lib.hid (fun (wz : World) (h : Below W.heap.size W wz) => (show wz.cell? ⟨w.heap.size, 1, none⟩ = some (.slice oa m oc) by rw [cell_of_row _ _ _ _ _ _ (hrw.out wz h)]; rfl))
  have hO' := Lib.hid hO
  have hI9 : True := trivial
  clear hI hO hmL
  go_enter Tryz.func25, Tryz.ntmps25
  go_upto_region 1 with fail
  rw [← hW]
  clear hW
  go_wp2
  go_loopw [3] (fun i wr => ∃ k : Nat, k ≤ m ∧ k ≤ 71 ∧ i = .int .i64 (k : Int) ∧ Below W.heap.size W wr ∧ ∀ j, j < k → greatB (nthO L j) = false) (fun i _ => m - (intOf i).toNat)
  case atStart => exact ⟨0, Nat.zero_le _, by omega, rfl, Below.refl _ _, fun j hj => absurd hj (Nat.not_lt_zero _)⟩
  case round =>
    obtain ⟨k, hk, hk71, rfl, hb, he⟩ := hrel
    have hng := Lib.hid he; have hb' := Lib.hid hb
    have c1 : wr.cell? ⟨w.heap.size, 1, none⟩ = some (.slice oa m oc) := hc1.out wr hb
    have c0 : wr.cell? ⟨w.heap.size, 0, none⟩ = some (.slice ia n ic) := hc0.out wr hb
    have hbS := Lib.hid (hS.out.trans (hb.mono hS.out.size))
    clear he hb
    by_cases hlt : k < m
    · have hkI : (k : Int) < (m : Int) := by omega
      have hkD := decide_eq_true hkI
      by_cases h70 : k ≤ 70
      · have h7I : (k : Int) ≤ 70 := by omega
        have h7D := decide_eq_true h7I
        obtain ⟨b, o, pa, pc, rfl, hbw, hnc, q1, q2⟩ := rdO_at hO'.out hm'.out hbS.out k hlt
        have q1' := Lib.hid q1
        have hG := Lib.hid (great_any (nthO L k) pa pc wr)
        have hnx := Lib.hid (fun (h : greatB (nthO L k) = false) => (show ∀ j, j < k + 1 → greatB (nthO L j) = false from fun j hj => by
          rcases Nat.lt_or_ge j k with h1 | h1
          · exact hng.out j h1
          · obtain rfl : j = k := by omega
            exact h))
        clear q1 q2
        generalize greatB (nthO L k) = GB at *
        generalize nthO L k = od at *
        have i1 : Hid ((Tryz.prog.info? 35).map (·.size) = some (od.c (.slice pa od.n pc)).toList.length) := Lib.hid info_op
        cases GB with
        | true =>
          go_wp2_with (first
            | (refine wpList_load_mid_g rfl 35 _ rfl b (o + k * 11) rfl (od.c (.slice pa od.n pc)) _ q1'.out Tryz.underlying35 rfl i1.out ?_)
            | (go_at_call 31; (with_reducible refine (hG.out).mono ?_); rintro e9 w4 ⟨rfl, z2⟩; have hB4 := Lib.hid (hb'.out.trans (z2.mono hb'.out.size)); clear z2))
          go_ret
          exact gr_t rfl (hS.out.trans (hB4.out.mono hS.out.size))
        | false =>
          go_wp2_with (first
            | (refine wpList_load_mid_g rfl 35 _ rfl b (o + k * 11) rfl (od.c (.slice pa od.n pc)) _ q1'.out Tryz.underlying35 rfl i1.out ?_)
            | (go_at_call 31; (with_reducible refine (hG.out).mono ?_); rintro e9 w4 ⟨rfl, z2⟩; have hB4 := Lib.hid (hb'.out.trans (z2.mono hb'.out.size)); clear z2))
          go_roundw
          case rel => exact ⟨k + 1, by omega, by omega, by go_num, hB4.out, hnx.out trivial⟩
          case measure => simp [intOf]; omega
      · have h7I : ¬ (k : Int) ≤ 70 := by omega
        have h16 : (16 : Int) < (m : Int) := by omega
        have h60 : ¬ (m : Int) ≤ 60 := by omega
        have h70b : (70 : Int) < (m : Int) := by omega
        have d1 := decide_eq_false h7I
        have d2 := decide_eq_true h16
        have d3 := decide_eq_false h60
        have d4 := decide_eq_true h70b
        go_wp2
        go_ret
        exact gr_t rfl (hS.out.trans (hb'.out.mono hS.out.size))
    · obtain rfl : k = m := by omega
      have hkI : ¬ (k : Int) < (k : Int) := by omega
      have hkD := decide_eq_false hkI
      have hsm := Lib.hid (fun (h1 : L.length ≤ 16 ∨ 60 < L.length) (h2 : L.length ≤ 70) (h3 : n ≤ 70) => (show SmallG n L from ⟨fun i hi => hng.out i (by have := hm'.out; omega), h1, h2, h3⟩))
      rw [hm'.out] at hsm
      by_cases h16 : (16 : Int) < (k : Int)
      · have d2 := decide_eq_true h16
        by_cases h60 : (k : Int) ≤ 60
        · have d3 := decide_eq_true h60
          go_wp2
          go_ret
          exact gr_t rfl (hS.out.trans (hb'.out.mono hS.out.size))
        · have d3 := decide_eq_false h60
          by_cases h70 : (70 : Int) < (k : Int)
          · have d4 := decide_eq_true h70
            go_wp2
            go_ret
            exact gr_t rfl (hS.out.trans (hb'.out.mono hS.out.size))
          · have d4 := decide_eq_false h70
            by_cases hn7 : (70 : Int) < (n : Int)
            · have d5 := decide_eq_true hn7
              go_wp2
              go_ret
              exact gr_t rfl (hS.out.trans (hb'.out.mono hS.out.size))
            · have d5 := decide_eq_false hn7
              have hh := Lib.hid (hsm.out (.inr (by omega)) (by omega) (by omega))
              go_wp2
              go_ret
              exact gr_f rfl hh.out (hS.out.trans (hb'.out.mono hS.out.size))
      · have d2 := decide_eq_false h16
        have h70 : ¬ (70 : Int) < (k : Int) := by omega
        have d4 := decide_eq_false h70
        by_cases hn7 : (70 : Int) < (n : Int)
        · have d5 := decide_eq_true hn7
          go_wp2
          go_ret
          exact gr_t rfl (hS.out.trans (hb'.out.mono hS.out.size))
        · have d5 := decide_eq_false hn7
          have hh := Lib.hid (hsm.out (.inl (by omega)) (by omega) (by omega))
          go_wp2
          go_ret
          exact gr_f rfl hh.out (hS.out.trans (hb'.out.mono hS.out.size))
end Go.Proofs.YtnknkiiikeefgaaGreatDoor.wir.val
namespace Go.Proofs.YtnknkiiikeefgaaGreatDoor.wir.val
open Go.RowKit Go.YtnknkiiikeefgaaGreatDoor
set_option linter.unusedVariables false
theorem qa_load_midS {P : Program} {C : World → Prop} {o : Oper} {a : Act} (ty : TypeId) (x : Operand) (ho : o.op = .load ty x) (b off : Nat) (hx : a.eval x = .pointer (some ⟨b, off, none⟩)) (cs : Array Value) (d : TypeDesc)
    (hu : P.underlying ty = some d) (hd : d.isRow = true) (hi : (P.info? ty).map (·.size) = some cs.toList.length) (hS : ∀ w, C w → w.rangeAt b off cs.toList) : ∀ w, C w → o.quietAt P a C w (.agg cs) := fun w hw => qa_ok (by
  unfold execOp
  simp only [ho, hx, Instr.loadAt, Instr.sureAddr, Sem.run_bind, Sem.run_pure, Result.andThen_ok, run_loadVar_mid w b off ty cs.toList d (hS w hw) hu hd hi])
set_option maxHeartbeats 16000000 in
set_option maxRecDepth 100000 in
theorem rCheckG_any (F : List Int) (n : Nat) (L : List Od) (iv ov : Value) (e0 : Int) (w : World) (hI : RdI w iv n F) (hF : Bytes F) (hO : RdO w ov L) (hn0 : n ≤ 10000) (hm : L.length ≤ 10000)
    (hfit : ∀ i, i < L.length → (nthO L i).Fit) (he0 : ChkG F n L e0) :
    Calls Tryz.prog 29 #[.agg (gC iv ov)] w fun e w' => e = .returned (.int .i64 e0) ∧ Below w.heap.size w w' := by
  have hlen := Lib.hid hI.len
  obtain ⟨ia, ic, rfl⟩ := hI.slice
  obtain ⟨oa, oc, rfl⟩ := hO.slice
  obtain ⟨m, hmL⟩ : ∃ m, L.length = m := ⟨_, rfl⟩
  have hm' := Lib.hid hmL
  obtain ⟨W, hW⟩ : ∃ W, W = w.alloc (.cells (gC (.slice ia n ic) (.slice oa L.length oc)) 41) := ⟨_, rfl⟩
  have hS := Lib.hid (show Below w.heap.size w W by rw [hW]; exact below_a w _)
  have r0 := Lib.hid (show W.heap[w.heap.size]? = some (.cells (gC (.slice ia n ic) (.slice oa L.length oc)) 41 (0, 0)) by rw [hW]; exact heap_alloc_new w _)
  have hsh := Lib.hid (fun (h : LinkG F n L e0) (h2 : L.length = n) (wz : World) (hb : Below W.heap.size W wz) => rshape_any F n L (.slice ia n ic) (.slice oa L.length oc) e0 wz ((hI.mono hS.out).mono hb) hF ((hO.mono hS.out).mono hb) h2 hn0 (fun i hi => (hfit i (by omega)).n) h)
  rw [hmL] at hO r0 hW hfit hm hsh
  rw [hmL]
  have hrw := Lib.hid (fun (wz : World) (h : Below W.heap.size W wz) => rowB r0.out h (Array.getElem?_eq_some_iff.1 r0.out).1)
  have hc0 := Lib.hid (fun (wz : World) (h : Below W.heap.size W wz) => (show wz.cell? ⟨w.heap.size, 0, none⟩ = some (.slice ia n ic) by rw [cell_of_row _ _ _ _ _ _ (hrw.out wz h)]; rfl))
  have hc1 := Lib.hid (fun (wz : World) (h : Below W.heap.size W wz) => (show wz.cell? ⟨w.heap.size, 1, none⟩ = some (.slice oa m oc) by rw [cell_of_row _ _ _ _ _ _ (hrw.out wz h)]; rfl))
  have hI' := Lib.hid hI; have hO' := Lib.hid hO; have hfit' := Lib.hid hfit
  have cW0 : W.cell? ⟨w.heap.size, 0, none⟩ = some (.slice ia n ic) := hc0.out W (Below.refl _ _)
  have cW1 : W.cell? ⟨w.heap.size, 1, none⟩ = some (.slice oa m oc) := hc1.out W (Below.refl _ _)
  unfold ChkG at he0
  rw [hmL] at he0
  have hnf := Lib.hid (fun i hi h => name_false (F := F) (n := n) (L := L) i hi h)
  have hni := Lib.hid (fun h => (name_iff (F := F) (n := n) (L := L)).2 h)
  rw [hmL] at hnf hni
  have he' := Lib.hid he0
  clear hI hO hfit hF he0 hmL
  by_cases h60 : 60 < m
  · have h6I : (60 : Int) < (m : Int) := by omega
    have he4 := Lib.hid (show e0 = 4 by
      rcases he'.out with ⟨_, h⟩ | ⟨h, _⟩ | ⟨h, _⟩
      · exact h
      · omega
      · omega)
    go_enter Tryz.func29, Tryz.ntmps29
    go_upto_region 1 with fail
    rw [← hW]
    clear hW
    go_wp2
    go_ret
    exact ⟨by rw [he4.out]; try rfl, hS.out⟩
  · have h6I : ¬ (60 : Int) < (m : Int) := by omega
    have he8 := Lib.hid (fun (h : nameB F n L = false) => (show e0 = 8 by
      rcases he'.out with ⟨h1, _⟩ | ⟨_, _, h1⟩ | ⟨_, h1, _⟩
      · omega
      · exact h1
      · rw [h] at h1; cases h1))
    by_cases hnm : n = m
    · subst hnm
      have hnI : ((n : Int) != (n : Int)) = false := by simp
      go_enter Tryz.func29, Tryz.ntmps29
      go_upto_region 1 with fail
      rw [← hW]
      clear hW
      go_wp2
      clear cW0 cW1
      go_loopw [3] (fun i wr => ∃ k : Nat, k ≤ n ∧ i = .int .i64 (k : Int) ∧ Below W.heap.size W wr ∧ ∀ j, j < k → goodB (nthO L j) (idF F j) = true) (fun i _ => n - (intOf i).toNat)
      case atStart => exact ⟨0, Nat.zero_le _, rfl, Below.refl _ _, fun j hj => absurd hj (Nat.not_lt_zero _)⟩
      case round =>
        obtain ⟨k, hk, rfl, hb, he⟩ := hrel
        have hgd := Lib.hid he; have hb' := Lib.hid hb
        have c1 : wr.cell? ⟨w.heap.size, 1, none⟩ = some (.slice oa n oc) := hc1.out wr hb
        clear he hb
        by_cases hlt : k < n
        · have hbS := Lib.hid (hS.out.trans (hb'.out.mono hS.out.size))
          obtain ⟨b, o, pa, pc, rfl, hbw, hnc, q1, q2⟩ := rdO_at hO'.out hm'.out hbS.out k hlt
          obtain ⟨b2, o2, rfl, hbw2, hnc2, q3, _⟩ := rdI_at hI'.out hbS.out k hlt
          have hbl := Lib.hid (Nat.lt_of_lt_of_le hbw hbS.out.size)
          have hbl2 := Lib.hid (Nat.lt_of_lt_of_le hbw2 hbS.out.size)
          have k0 := Lib.hid (fun (wz : World) (h : Below wr.heap.size wr wz) => hc0.out wz (hb'.out.trans (h.mono hb'.out.size)))
          have k1 := Lib.hid (fun (wz : World) (h : Below wr.heap.size wr wz) => hc1.out wz (hb'.out.trans (h.mono hb'.out.size)))
          have l1 := Lib.hid (idF_length F n k hlen.out hlt)
          have hft := Lib.hid (hfit'.out k hlt)
          have hno := Lib.hid (fun (h : goodB (nthO L k) (idF F k) = false) => he8.out (hnf.out k hlt h))
          have hyes := Lib.hid (fun (h : goodB (nthO L k) (idF F k) = true) => (show ∀ j, j < k + 1 → goodB (nthO L j) (idF F j) = true from fun j hj => by
            rcases Nat.lt_or_ge j k with h1 | h1
            · exact hgd.out j h1
            · obtain rfl : j = k := by omega
              exact h))
          have hkI : (k : Int) < (n : Int) := by omega
          have q1' := Lib.hid (fun (wz : World) (h : Below wr.heap.size wr wz) => range_below q1 hbl.out h)
          have q3' := Lib.hid (fun (wz : World) (h : Below wr.heap.size wr wz) => range_below q3 hbl2.out h)
          have q2' := Lib.hid (fun (wz : World) (h : Below wr.heap.size wr wz) => q2.mono h)
          clear q1 q2 q3 hnf hfit' he8
          generalize idF F k = A at *
          generalize nthO L k = od at *
          have hv := Lib.hid (fun (wz : World) (h : Below wr.heap.size wr wz) => rVerify_any od hft.out (.slice pa od.n pc) wz (q2'.out wz h))
          have hof := Lib.hid (fun (h0 : verO od = 0) (wz : World) (h : Below wr.heap.size wr wz) => rOfO_any od hft.out (chk_zero (ver_chk h0)).1 (chk_zero (ver_chk h0)).2.2 (.slice pa od.n pc) wz (q2'.out wz h))
          have hgood : goodB od A = (decide (verO od = 0) && decide (shaF (encO od) = A)) := rfl
          rw [hgood] at hno hyes
          have hD := Lib.hid (shaF_length (encO od))
          have i1 : Hid ((Tryz.prog.info? 35).map (·.size) = some (od.c (.slice pa od.n pc)).toList.length) := Lib.hid info_op
          have iA : Hid ((Tryz.prog.info? 24).map (·.size) = some (idV A).length) := Lib.hid (by rw [idV_length, l1.out]; kernel_rfl)
          clear hgood hft
          generalize shaF (encO od) = D at *
          by_cases hv0 : verO od = 0
          · have hof2 := Lib.hid (hof.out hv0)
            rw [hv0] at hv
            rw [decide_eq_true hv0, Bool.true_and] at hno hyes
            clear hof
            obtain ⟨R, hR0⟩ : ∃ R, decide (D = A) = R := ⟨_, rfl⟩
            have hR := Lib.hid (show (!decide (D = A)) = !R by rw [hR0])
            rw [hR0] at hno hyes
            clear hR0 hv0
            cases R with
            | true =>
              go_upto_region 8 with fail
              refine wp_region_quiet (C := fun w' => Below wr.heap.size wr w') (by kernel_rfl) (by kernel_rfl) ((Below.refl _ _).drew) ?_
              simp only []
              (go_big_quiet_want; go_big_quiet_op; first | go_big_quiet_on | (refine ⟨_, fun _ _ => rfl, ?_⟩; go_big_quiet_on))
              refine wpq (.slice (some ⟨b, o, none⟩) n oc) rfl (quiet_cell 22 _ rfl w.heap.size 1 rfl (.slice (some ⟨b, o, none⟩) n oc) k1.out Tryz.isAgg22) rfl (fun K hK => ?_); go_simp; refine hK _ ?_; clear hK K
              iterate 2 (go_big_quiet_want; go_big_quiet_op; first | go_big_quiet_on | (refine ⟨_, fun _ _ => rfl, ?_⟩; go_big_quiet_on))
              refine wpq (.agg (od.c (.slice pa od.n pc))) rfl (qa_load_midS 35 _ rfl b (o + k * 11) rfl (od.c (.slice pa od.n pc)) _ Tryz.underlying35 rfl i1.out q1'.out) rfl (fun K hK => ?_); go_simp; refine hK _ ?_; clear hK K
              refine wpq (.int .i64 0) rfl (qa_call1 (.agg (od.c (.slice pa od.n pc))) rfl Tryz.func77 (by kernel_rfl) rfl rfl rfl (fun w9 h => (hv.out w9 h).mono fun e w' ⟨he, hd⟩ => ⟨he, h.trans (hd.mono h.size)⟩)) rfl (fun K hK => ?_); go_simp; refine hK _ ?_; clear hK K
              iterate 3 (go_big_quiet_want; go_big_quiet_op; first | go_big_quiet_on | (refine ⟨_, fun _ _ => rfl, ?_⟩; go_big_quiet_on))
              refine wpq (.slice (some ⟨b, o, none⟩) n oc) rfl (quiet_cell 22 _ rfl w.heap.size 1 rfl (.slice (some ⟨b, o, none⟩) n oc) k1.out Tryz.isAgg22) rfl (fun K hK => ?_); go_simp; refine hK _ ?_; clear hK K
              iterate 2 (go_big_quiet_want; go_big_quiet_op; first | go_big_quiet_on | (refine ⟨_, fun _ _ => rfl, ?_⟩; go_big_quiet_on))
              refine wpq (.agg (od.c (.slice pa od.n pc))) rfl (qa_load_midS 35 _ rfl b (o + k * 11) rfl (od.c (.slice pa od.n pc)) _ Tryz.underlying35 rfl i1.out q1'.out) rfl (fun K hK => ?_); go_simp; refine hK _ ?_; clear hK K
              refine wpq (.agg (u8s D)) rfl (qa_call1 (.agg (od.c (.slice pa od.n pc))) rfl Tryz.func78 (by kernel_rfl) rfl rfl rfl (fun w9 h => (hof2.out w9 h).mono fun e w' ⟨he, hd⟩ => ⟨he, h.trans (hd.mono h.size)⟩)) rfl (fun K hK => ?_); go_simp; refine hK _ ?_; clear hK K
              (go_big_quiet_want; go_big_quiet_op; first | go_big_quiet_on | (refine ⟨_, fun _ _ => rfl, ?_⟩; go_big_quiet_on))
              refine wpq (.slice (some ⟨b2, o2, none⟩) n ic) rfl (quiet_cell 26 _ rfl w.heap.size 0 rfl (.slice (some ⟨b2, o2, none⟩) n ic) k0.out Tryz.isAgg26) rfl (fun K hK => ?_); go_simp; refine hK _ ?_; clear hK K
              iterate 2 (go_big_quiet_want; go_big_quiet_op; first | go_big_quiet_on | (refine ⟨_, fun _ _ => rfl, ?_⟩; go_big_quiet_on))
              refine wpq (.agg (u8s A)) rfl (qa_load_mid 24 _ rfl b2 (o2 + k * 32) rfl A _ Tryz.underlying24 rfl iA.out q3'.out) rfl (fun K hK => ?_); go_simp; refine hK _ ?_; clear hK K
              refine wpq (.bool false) rfl (qa_neqI _ _ D A hD.out l1.out false hR.out rfl rfl rfl) rfl (fun K hK => ?_); go_simp; refine hK _ ?_; clear hK K
              (go_big_quiet_want; go_big_quiet_op; first | go_big_quiet_on | (refine ⟨_, fun _ _ => rfl, ?_⟩; go_big_quiet_on))
              refine wpQuiet_nil ?_
              intro w2 h2
              have hB2 := Lib.hid (hb'.out.trans (h2.mono hb'.out.size))
              clear h2
              go_wp2
              go_roundw
              case rel => exact ⟨k + 1, by omega, by go_num, hB2.out, hyes.out rfl⟩
              case measure => simp [intOf]; omega
            | false =>
              go_upto_region 8 with fail
              refine wp_region_quiet (C := fun w' => Below wr.heap.size wr w') (by kernel_rfl) (by kernel_rfl) ((Below.refl _ _).drew) ?_
              simp only []
              (go_big_quiet_want; go_big_quiet_op; first | go_big_quiet_on | (refine ⟨_, fun _ _ => rfl, ?_⟩; go_big_quiet_on))
              refine wpq (.slice (some ⟨b, o, none⟩) n oc) rfl (quiet_cell 22 _ rfl w.heap.size 1 rfl (.slice (some ⟨b, o, none⟩) n oc) k1.out Tryz.isAgg22) rfl (fun K hK => ?_); go_simp; refine hK _ ?_; clear hK K
              iterate 2 (go_big_quiet_want; go_big_quiet_op; first | go_big_quiet_on | (refine ⟨_, fun _ _ => rfl, ?_⟩; go_big_quiet_on))
              refine wpq (.agg (od.c (.slice pa od.n pc))) rfl (qa_load_midS 35 _ rfl b (o + k * 11) rfl (od.c (.slice pa od.n pc)) _ Tryz.underlying35 rfl i1.out q1'.out) rfl (fun K hK => ?_); go_simp; refine hK _ ?_; clear hK K
              refine wpq (.int .i64 0) rfl (qa_call1 (.agg (od.c (.slice pa od.n pc))) rfl Tryz.func77 (by kernel_rfl) rfl rfl rfl (fun w9 h => (hv.out w9 h).mono fun e w' ⟨he, hd⟩ => ⟨he, h.trans (hd.mono h.size)⟩)) rfl (fun K hK => ?_); go_simp; refine hK _ ?_; clear hK K
              iterate 3 (go_big_quiet_want; go_big_quiet_op; first | go_big_quiet_on | (refine ⟨_, fun _ _ => rfl, ?_⟩; go_big_quiet_on))
              refine wpq (.slice (some ⟨b, o, none⟩) n oc) rfl (quiet_cell 22 _ rfl w.heap.size 1 rfl (.slice (some ⟨b, o, none⟩) n oc) k1.out Tryz.isAgg22) rfl (fun K hK => ?_); go_simp; refine hK _ ?_; clear hK K
              iterate 2 (go_big_quiet_want; go_big_quiet_op; first | go_big_quiet_on | (refine ⟨_, fun _ _ => rfl, ?_⟩; go_big_quiet_on))
              refine wpq (.agg (od.c (.slice pa od.n pc))) rfl (qa_load_midS 35 _ rfl b (o + k * 11) rfl (od.c (.slice pa od.n pc)) _ Tryz.underlying35 rfl i1.out q1'.out) rfl (fun K hK => ?_); go_simp; refine hK _ ?_; clear hK K
              refine wpq (.agg (u8s D)) rfl (qa_call1 (.agg (od.c (.slice pa od.n pc))) rfl Tryz.func78 (by kernel_rfl) rfl rfl rfl (fun w9 h => (hof2.out w9 h).mono fun e w' ⟨he, hd⟩ => ⟨he, h.trans (hd.mono h.size)⟩)) rfl (fun K hK => ?_); go_simp; refine hK _ ?_; clear hK K
              (go_big_quiet_want; go_big_quiet_op; first | go_big_quiet_on | (refine ⟨_, fun _ _ => rfl, ?_⟩; go_big_quiet_on))
              refine wpq (.slice (some ⟨b2, o2, none⟩) n ic) rfl (quiet_cell 26 _ rfl w.heap.size 0 rfl (.slice (some ⟨b2, o2, none⟩) n ic) k0.out Tryz.isAgg26) rfl (fun K hK => ?_); go_simp; refine hK _ ?_; clear hK K
              iterate 2 (go_big_quiet_want; go_big_quiet_op; first | go_big_quiet_on | (refine ⟨_, fun _ _ => rfl, ?_⟩; go_big_quiet_on))
              refine wpq (.agg (u8s A)) rfl (qa_load_mid 24 _ rfl b2 (o2 + k * 32) rfl A _ Tryz.underlying24 rfl iA.out q3'.out) rfl (fun K hK => ?_); go_simp; refine hK _ ?_; clear hK K
              refine wpq (.bool true) rfl (qa_neqI _ _ D A hD.out l1.out true hR.out rfl rfl rfl) rfl (fun K hK => ?_); go_simp; refine hK _ ?_; clear hK K
              (go_big_quiet_want; go_big_quiet_op; first | go_big_quiet_on | (refine ⟨_, fun _ _ => rfl, ?_⟩; go_big_quiet_on))
              refine wpQuiet_nil ?_
              intro w2 h2
              have hB2 := Lib.hid (hb'.out.trans (h2.mono hb'.out.size))
              clear h2
              go_wp2
              have hh := Lib.hid (hno.out trivial)
              go_ret
              exact ⟨by rw [hh.out]; try rfl, hS.out.trans (hB2.out.mono hS.out.size)⟩
          · have hh := Lib.hid (hno.out (by rw [decide_eq_false hv0]; rfl))
            have hv1 : (verO od != 0) = true := by simpa using hv0
            clear hno hyes hof
            generalize verO od = VE at *
            go_upto_region 8 with fail
            refine wp_region_quiet (C := fun w' => Below wr.heap.size wr w') (by kernel_rfl) (by kernel_rfl) ((Below.refl _ _).drew) ?_
            simp only []
            (go_big_quiet_want; go_big_quiet_op; first | go_big_quiet_on | (refine ⟨_, fun _ _ => rfl, ?_⟩; go_big_quiet_on))
            refine wpq (.slice (some ⟨b, o, none⟩) n oc) rfl (quiet_cell 22 _ rfl w.heap.size 1 rfl (.slice (some ⟨b, o, none⟩) n oc) k1.out Tryz.isAgg22) rfl (fun K hK => ?_); go_simp; refine hK _ ?_; clear hK K
            iterate 2 (go_big_quiet_want; go_big_quiet_op; first | go_big_quiet_on | (refine ⟨_, fun _ _ => rfl, ?_⟩; go_big_quiet_on))
            refine wpq (.agg (od.c (.slice pa od.n pc))) rfl (qa_load_midS 35 _ rfl b (o + k * 11) rfl (od.c (.slice pa od.n pc)) _ Tryz.underlying35 rfl i1.out q1'.out) rfl (fun K hK => ?_); go_simp; refine hK _ ?_; clear hK K
            refine wpq (.int .i64 VE) rfl (qa_call1 (.agg (od.c (.slice pa od.n pc))) rfl Tryz.func77 (by kernel_rfl) rfl rfl rfl (fun w9 h => (hv.out w9 h).mono fun e w' ⟨he, hd⟩ => ⟨he, h.trans (hd.mono h.size)⟩)) rfl (fun K hK => ?_); go_simp; refine hK _ ?_; clear hK K
            iterate 2 (go_big_quiet_want; go_big_quiet_op; first | go_big_quiet_on | (refine ⟨_, fun _ _ => rfl, ?_⟩; go_big_quiet_on))
            iterate 12 go_big_quiet_skip
            (go_big_quiet_want; go_big_quiet_op; first | go_big_quiet_on | (refine ⟨_, fun _ _ => rfl, ?_⟩; go_big_quiet_on))
            refine wpQuiet_nil ?_
            intro w2 h2
            have hB2 := Lib.hid (hb'.out.trans (h2.mono hb'.out.size))
            clear h2
            go_wp2
            go_ret
            exact ⟨by rw [hh.out]; try rfl, hS.out.trans (hB2.out.mono hS.out.size)⟩
        · obtain rfl : k = n := by omega
          have hname := hni.out ⟨trivial, hgd.out⟩
          have hlk : LinkG F k L e0 := by
            rcases he'.out with ⟨h1, _⟩ | ⟨_, h1, _⟩ | ⟨_, _, h1⟩
            · omega
            · rw [hname] at h1; cases h1
            · exact h1
          have hsh2 := Lib.hid (hsh.out hlk trivial wr hb'.out)
          have rg := Lib.hid (hrw.out wr hb'.out)
          clear hname hlk
          go_wp2_with (first
            | (refine wpList_load_row_g rfl 41 _ rfl w.heap.size rfl 41 (gC (.slice ia k ic) (.slice oa k oc)) (0, 0) _ rg.out Tryz.underlying41 rfl info_g ?_)
            | (go_at_call 79; (with_reducible refine (hsh2.out).mono ?_); rintro e9 w5 ⟨rfl, z2⟩; have hB5 := Lib.hid (hb'.out.trans (z2.mono hb'.out.size)); clear z2))
          go_ret
          exact ⟨rfl, hS.out.trans (hB5.out.mono hS.out.size)⟩
    · have hnI : ((n : Int) != (m : Int)) = true := by simp; omega
      have hh := Lib.hid (he8.out (name_size (by have := hm'.out; omega)))
      go_enter Tryz.func29, Tryz.ntmps29
      go_upto_region 1 with fail
      rw [← hW]
      clear hW
      go_wp2
      go_ret
      exact ⟨by rw [hh.out]; try rfl, hS.out⟩
end Go.Proofs.YtnknkiiikeefgaaGreatDoor.wir.val
namespace Go.Proofs.YtnknkiiikeefgaaGreatDoor.wir.val
open Go.RowKit Go.YtnknkiiikeefgaaGreatDoor
set_option linter.unusedVariables false
theorem rAt_mem (F : List Int) (n : Nat) (v : Value) (x : List Int) (w : World) (hr : RdI w v n F) (hn : n ≤ 100000) (hx : x.length = 32) :
    Calls Tryz.prog 39 #[v, .agg (u8s x)] w fun e w' => ∃ r : Int, decide (0 ≤ r) = memF F n x ∧ decide (r < 0) = (!memF F n x) ∧ e = .returned (.int .i64 r) ∧ Below w.heap.size w w' := by
  refine (rAt_any F n v x w hr hn hx).mono ?_
  rintro e w' ⟨r, h1, h2, h3⟩
  refine ⟨r, ?_, ?_, h2, h3⟩
  · cases hm : memF F n x with
    | false => rw [atIs_neg h1 hm]; rfl
    | true => obtain ⟨k, hk, _⟩ := atIs_pos h1 hm; rw [hk]; simp
  · cases hm : memF F n x with
    | false => rw [atIs_neg h1 hm]; rfl
    | true => obtain ⟨k, hk, _⟩ := atIs_pos h1 hm; rw [hk]; simp
theorem rAt_pos (F : List Int) (n : Nat) (v : Value) (x : List Int) (p : Nat) (w : World) (hr : RdI w v n F) (hn : n ≤ 100000) (hx : x.length = 32) (hri : riseF F n = true) (hp : p < n) (hpx : idF F p = x) :
    Calls Tryz.prog 39 #[v, .agg (u8s x)] w fun e w' => e = .returned (.int .i64 (p : Int)) ∧ Below w.heap.size w w' := by
  refine (rAt_any F n v x w hr hn hx).mono ?_
  rintro e w' ⟨r, h1, h2, h3⟩
  obtain ⟨k, hk, hkn, hke⟩ := atIs_pos h1 (mem_iff.2 ⟨p, hp, hpx⟩)
  have : k = p := rise_inj hri hkn hp (hke.trans hpx.symm)
  subst this
  exact ⟨by rw [h2, hk], h3⟩
set_option maxHeartbeats 4000000 in
set_option maxRecDepth 100000 in
theorem twin_ownG (o : Od) (hn : o.n ≤ 20) (pv : Value) (w : World) (hp : RdI w pv o.n o.F) :
    Calls Tryz.prog 72 #[.agg (o.c pv)] w fun e w' => ∃ qv, e = .returned (.agg (o.c qv)) ∧ OwnI w.heap.size 24 w' qv o.n o.F ∧ Below w.heap.size w w' := by
  obtain ⟨W, hW⟩ : ∃ W, W = (w.alloc (.cells (o.c pv) 35)).alloc (.cells (zO.c (.slice none 0 0)) 35) := ⟨_, rfl⟩
  have hr0 : W.heap[w.heap.size]? = some (.cells (o.c pv) 35 (0, 0)) := by rw [hW]; exact rowB (heap_alloc_new w _) (below_a _ _) (by simp)
  have hr1 : W.heap[w.heap.size + 1]? = some (.cells (zO.c (.slice none 0 0)) 35 (0, 0)) := by rw [hW]; exact hn2 w _ _
  have hb0 : Below w.heap.size w W := by rw [hW]; exact ((Below.refl w.heap.size w).alloc (Nat.le_refl _) _).alloc (by simp) _
  obtain ⟨pa, pc, rfl⟩ := hp.slice
  have hb1 := Lib.hid hb0
  have hrow := Lib.hid hr0
  have hres := Lib.hid hr1
  have hlt := Lib.hid (Array.getElem?_eq_some_iff.1 hr0).1
  have hlt1 := Lib.hid (Array.getElem?_eq_some_iff.1 hr1).1
  have hp1 := Lib.hid (hp.mono hb0)
  have hc1 : (W.alloc (.cells #[] 24)).cell? ⟨w.heap.size, 1, none⟩ = some (.slice pa o.n pc) := by rw [cell_of_row _ _ _ _ _ _ (rowB hr0 (below_a W _) hlt.out)]; rfl
  clear hr0 hr1 hb0 hp
  go_enter Tryz.func72, Tryz.ntmps72
  go_upto_region 1 with fail
  change Code.wp _ _ _ _ ((w.alloc (.cells (o.c (.slice pa o.n pc)) 35)).alloc (.cells (zO.c (.slice none 0 0)) 35))
  rw [← hW]
  clear hW
  go_wp2_with (refine appendIs rfl _ _ 26 rfl W.heap.size 24 Tryz.underlying26 (by kernel_rfl) _ rfl 0 [] (own_litI W) _ rfl o.n o.F (hp1.out.mono (below_a W _)) (by omega) (by simp) ?_)
  intro v2 w2 h1 h2
  have hB2 := Lib.hid ((below_a W (.cells #[] 24)).trans ((own_litI W).below h2 (by simp)))
  have hq := Lib.hid (show OwnI W.heap.size 24 w2 v2 o.n o.F by have h := h1; simpa using h)
  have hq3 := Lib.hid (fun cs cs2 => show OwnI W.heap.size 24 ((w2.setRow w.heap.size cs).setRow (w.heap.size + 1) cs2) v2 o.n o.F by have h := (ownI_setRow (ownI_setRow h1 hlt.out cs) hlt1.out cs2); simpa using h)
  obtain ⟨qa, qc, rfl⟩ := hq.out.rd.slice
  have hr2 := Lib.hid (rowB hrow.out hB2.out hlt.out)
  have hs2 := Lib.hid (rowB hres.out hB2.out hlt1.out)
  have f1 := frozen_of_row w2 w.heap.size 1 _ _ hr2.out
  have k1 : w2.cell? ⟨w.heap.size, 1, none⟩ = some (.slice pa o.n pc) := by rw [cell_of_row _ _ _ _ _ _ hr2.out]; rfl
  have hset := Lib.hid (show w2.setCell ⟨w.heap.size, 1, none⟩ (.slice qa o.n qc) = w2.setRow w.heap.size (o.c (.slice qa o.n qc)) from setCell_eq hr2.out 1 (.slice qa o.n qc))
  clear h1 h2
  refine Stop.go ?_
  go_upto_region 2 with fail
  rw [hset.out]
  have hr3 := Lib.hid (setRow_heap w2 w.heap.size _ (o.c (.slice qa o.n qc)) _ _ hr2.out)
  have hs3 := Lib.hid ((setRow_other w2 w.heap.size (w.heap.size + 1) (o.c (.slice qa o.n qc)) (by omega)).trans hs2.out)
  have hB3 := Lib.hid (show Below w.heap.size w (w2.setRow w.heap.size (o.c (.slice qa o.n qc))) from below_setRow' (hb1.out.trans (hB2.out.mono hb1.out.size)) (Nat.le_refl _) _)
  have hq4 := Lib.hid (hq3.out (o.c (.slice qa o.n qc)) (o.c (.slice qa o.n qc)))
  clear hset hq3 hq f1 k1 hr2 hs2 hB2 hc1 hp1 hrow hres
  generalize w2.setRow w.heap.size (o.c (.slice qa o.n qc)) = w3 at *
  go_wp2_with (first
    | (refine wpList_load_row_g rfl 35 _ rfl w.heap.size rfl 35 (o.c (.slice qa o.n qc)) (0, 0) _ hr3.out Tryz.underlying35 rfl info_op ?_)
    | (refine wpList_store_row rfl 35 _ _ rfl (w.heap.size + 1) (o.c (.slice qa o.n qc)) rfl rfl 35 _ hs3.out info_op rfl (op_one _ _ _ _) ?_))
  exact bodyPost_ret (results_cell_row rfl _ _ (w.heap.size + 1) 35 _ _ _ rfl (setRow_heap _ _ _ _ _ _ hs3.out) Tryz.underlying35 rfl info_op) rfl ⟨_, rfl, hq4.out.mono hb1.out.size, below_setRow' hB3.out (by omega) _⟩
set_option maxHeartbeats 4000000 in
set_option maxRecDepth 100000 in
theorem rHas_any (F : List Int) (n : Nat) (L : List Od) (iv ov : Value) (x : List Int) (e0 : Int) (w : World) (hI : RdI w iv n F) (hF : Bytes F) (hO : RdO w ov L) (hn0 : n ≤ 10000) (hm : L.length ≤ 10000)
    (hfit : ∀ i, i < L.length → (nthO L i).Fit) (he0 : ChkG F n L e0) (hx : x.length = 32) :
    Calls Tryz.prog 27 #[.agg (gC iv ov), .agg (u8s x)] w fun e w' => e = .returned (.tuple #[.bool (decide (e0 = 0) && memF F n x), .int .i64 e0]) ∧ Below w.heap.size w w' := by
  obtain ⟨W, hW⟩ : ∃ W, W = (w.alloc (.cells (gC iv ov) 41)).alloc (.cells (u8s x) 24) := ⟨_, rfl⟩
  have hS := Lib.hid (show Below w.heap.size w W by rw [hW]; exact ((Below.refl w.heap.size w).alloc (Nat.le_refl _) _).alloc (by simp) _)
  have r0 := Lib.hid (show W.heap[w.heap.size]? = some (.cells (gC iv ov) 41 (0, 0)) by rw [hW]; exact rowB (heap_alloc_new w _) (below_a _ _) (by simp))
  have r1 := Lib.hid (show W.heap[w.heap.size + 1]? = some (.cells (u8s x) 24 (0, 0)) by rw [hW]; exact hn2 w _ _)
  have hck := Lib.hid (fun (wz : World) (hb : Below W.heap.size W wz) => rCheckG_any F n L iv ov e0 wz ((hI.mono hS.out).mono hb) hF ((hO.mono hS.out).mono hb) hn0 hm hfit he0)
  have hat := Lib.hid (fun (wz : World) (hb : Below W.heap.size W wz) => rAt_mem F n iv x wz ((hI.mono hS.out).mono hb) (by omega) hx)
  have ix := Lib.hid (show (Tryz.prog.info? 24).map (·.size) = some (u8s x).size by rw [u8s_size, hx]; kernel_rfl)
  obtain ⟨ia, ic, rfl⟩ := hI.slice
  obtain ⟨oa, oc, rfl⟩ := hO.slice
  clear hI hO hF hfit hx he0
  generalize L.length = m at *
  by_cases h0 : e0 = 0
  · subst h0
    rw [decide_eq_true rfl, Bool.true_and]
    generalize memF F n x = MB at *
    go_enter Tryz.func27, Tryz.ntmps27
    go_upto_region 1 with fail
    rw [← hW]
    clear hW
    go_wp2_with (first
      | (refine wpList_load_row_g rfl 41 _ rfl w.heap.size rfl 41 (gC (.slice ia n ic) (.slice oa m oc)) (0, 0) _ r0.out Tryz.underlying41 rfl info_g ?_)
      | (refine wpList_load_row_g rfl 24 _ rfl (w.heap.size + 1) rfl 24 (u8s x) (0, 0) _ r1.out Tryz.underlying24 rfl ix.out ?_)
      | (go_at_call 29; (with_reducible refine (hck.out _ (Below.refl _ _)).mono ?_); rintro e9 w4 ⟨rfl, z2⟩; have hB4 := Lib.hid z2; replace r0 := Lib.hid (rowB r0.out z2 (Array.getElem?_eq_some_iff.1 r0.out).1); replace r1 := Lib.hid (rowB r1.out z2 (Array.getElem?_eq_some_iff.1 r1.out).1); have cI : w4.cell? ⟨w.heap.size, 0, none⟩ = some (.slice ia n ic) := (by rw [cell_of_row _ _ _ _ _ _ r0.out]; rfl); clear z2)
      | (go_at_call 39; (with_reducible refine (hat.out _ hB4.out).mono ?_); rintro e9 w5 ⟨r, hr, hr2, rfl, z2⟩; have hr' := Lib.hid hr; have hB5 := Lib.hid (hB4.out.trans (z2.mono hB4.out.size)); clear z2 cI hr hr2))
    go_ret2
    exact ⟨by rw [← hr'.out]; try rfl, hS.out.trans (hB5.out.mono hS.out.size)⟩
  · have hx0 : (e0 != 0) = true := by simpa using h0
    rw [decide_eq_false h0, Bool.false_and]
    clear hat h0
    go_enter Tryz.func27, Tryz.ntmps27
    go_upto_region 1 with fail
    rw [← hW]
    clear hW
    go_upto_region 2 with (first
      | (refine wpList_load_row_g rfl 41 _ rfl w.heap.size rfl 41 (gC (.slice ia n ic) (.slice oa m oc)) (0, 0) _ r0.out Tryz.underlying41 rfl info_g ?_)
      | (go_at_call 29; (with_reducible refine (hck.out _ (Below.refl _ _)).mono ?_); rintro e9 w4 ⟨rfl, z2⟩; have hB4 := Lib.hid z2; replace r0 := Lib.hid (rowB r0.out z2 (Array.getElem?_eq_some_iff.1 r0.out).1); replace r1 := Lib.hid (rowB r1.out z2 (Array.getElem?_eq_some_iff.1 r1.out).1); clear z2))
    go_wp2_with (first
      | (refine wpList_load_row_g rfl 41 _ rfl w.heap.size rfl 41 (gC (.slice ia n ic) (.slice oa m oc)) (0, 0) _ r0.out Tryz.underlying41 rfl info_g ?_)
      | (go_at_call 29; (with_reducible refine (hck.out _ hB4.out).mono ?_); rintro e9 w5 ⟨rfl, z2⟩; have hB5 := Lib.hid (hB4.out.trans (z2.mono hB4.out.size)); clear z2))
    go_ret2
    exact ⟨rfl, hS.out.trans (hB5.out.mono hS.out.size)⟩
def getA : List (List Nat) := [[], [0], [], [2], [], [2, 3, 4], [0, 1, 2, 3, 4, 5], [0, 1, 2, 3, 4, 5, 6], [0, 1, 2, 3, 4, 5, 6, 7], [0, 1, 2, 3, 4, 5, 6, 7, 8], [0, 1, 2, 3, 4, 5, 6, 7, 8, 9]]
def getΦ (g0 : Nat) (iv ov : Value) (x : List Int) (p b o : Nat) (oc : Array Value) : Nat → Value → Prop
  | 0, v => v = .pointer (some ⟨g0, 1, none⟩)
  | 1, v => v = ov
  | 2, v => v = .pointer (some ⟨g0, 0, none⟩)
  | 3, v => v = iv
  | 4, v => v = .agg (u8s x)
  | 5, v => v = .int .i64 (p : Int)
  | 6, v => v = .pointer (some ⟨b, o + p * 11, none⟩)
  | 7, v => v = .agg oc
  | _, _ => True
set_option maxHeartbeats 8000000 in
set_option maxRecDepth 100000 in
theorem rGet_any (F : List Int) (n : Nat) (L : List Od) (iv ov : Value) (x : List Int) (e0 : Int) (w : World) (hI : RdI w iv n F) (hF : Bytes F) (hO : RdO w ov L) (hn0 : n ≤ 10000) (hm : L.length ≤ 10000)
    (hfit : ∀ i, i < L.length → (nthO L i).Fit) (hsm : ∀ i, i < L.length → (nthO L i).n ≤ 20) (he0 : ChkG F n L e0) (hx : x.length = 32) :
    Calls Tryz.prog 28 #[.agg (gC iv ov), .agg (u8s x)] w fun e w' => getD F n L x e0 e w w' ∧ Below w.heap.size w w' := by
  obtain ⟨W, hW⟩ : ∃ W, W = ((w.alloc (.cells (gC iv ov) 41)).alloc (.cells (u8s x) 24)).alloc (.cells (zO.c (.slice none 0 0)) 35) := ⟨_, rfl⟩
  have hS := Lib.hid (show Below w.heap.size w W by rw [hW]; exact (((Below.refl w.heap.size w).alloc (Nat.le_refl _) _).alloc (by simp) _).alloc (by simp; omega) _)
  have r0 := Lib.hid (show W.heap[w.heap.size]? = some (.cells (gC iv ov) 41 (0, 0)) by rw [hW]; exact rowB (rowB (heap_alloc_new w _) (below_a _ _) (by simp)) (below_a _ _) (by simp; omega))
  have r1 := Lib.hid (show W.heap[w.heap.size + 1]? = some (.cells (u8s x) 24 (0, 0)) by rw [hW]; exact rowB (hn2 w _ _) (below_a _ _) (by simp))
  have r2 := Lib.hid (show W.heap[w.heap.size + 1 + 1]? = some (.cells (zO.c (.slice none 0 0)) 35 (0, 0)) by rw [hW]; exact hn3 w _ _ _)
  have hr2W := Lib.hid r2.out
  have hck := Lib.hid (fun (wz : World) (hb : Below W.heap.size W wz) => rCheckG_any F n L iv ov e0 wz ((hI.mono hS.out).mono hb) hF ((hO.mono hS.out).mono hb) hn0 hm hfit he0)
  have hat := Lib.hid (fun (wz : World) (hb : Below W.heap.size W wz) => rAt_mem F n iv x wz ((hI.mono hS.out).mono hb) (by omega) hx)
  have hap := Lib.hid (fun (p : Nat) (h1 : riseF F n = true) (h2 : p < n) (h3 : idF F p = x) (wz : World) (hb : Below W.heap.size W wz) => rAt_pos F n iv x p wz ((hI.mono hS.out).mono hb) (by omega) hx h1 h2 h3)
  have ix := Lib.hid (show (Tryz.prog.info? 24).map (·.size) = some (u8s x).size by rw [u8s_size, hx]; kernel_rfl)
  have hz := Lib.hid (fun h : e0 = 0 => (chkG_zero (show ChkG F n L 0 by rw [← h]; exact he0)))
  obtain ⟨ia, ic, rfl⟩ := hI.slice
  obtain ⟨oa, oc, rfl⟩ := hO.slice
  have hO' := Lib.hid hO
  have htw := Lib.hid (fun (i : Nat) (hi : i < L.length) (wz : World) (v : Value) (h : RdI wz v (nthO L i).n (nthO L i).F) => twin_ownG (nthO L i) (hsm i hi) v wz h)
  clear hI hO hF hfit hx he0
  obtain ⟨m, hmL⟩ : ∃ m, L.length = m := ⟨_, rfl⟩
  have hm' := Lib.hid hmL
  rw [hmL] at r0 hck hO' htw hW hz
  rw [hmL] at hm
  clear hmL
  by_cases h0 : e0 = 0
  · subst h0
    have hnm := Lib.hid (name_iff.1 (hz.out rfl).2.1).1
    have hri := Lib.hid (hz.out rfl).2.2.1
    clear hz
    obtain ⟨MB, hMB⟩ : ∃ MB, memF F n x = MB := ⟨_, rfl⟩
    have hMB' := Lib.hid hMB
    rw [hMB] at hat
    clear hMB
    cases MB with
    | false =>
      go_enter Tryz.func28, Tryz.ntmps28
      go_upto_region 1 with fail
      change Code.wp _ _ _ _ (((w.alloc (.cells (gC (.slice ia n ic) (.slice oa L.length oc)) 41)).alloc (.cells (u8s x) 24)).alloc (.cells (zO.c (.slice none 0 0)) 35))
      rw [hm'.out, ← hW]
      clear hW
      go_wp2_with (first
        | (refine wpList_load_row_g rfl 41 _ rfl w.heap.size rfl 41 (gC (.slice ia n ic) (.slice oa m oc)) (0, 0) _ r0.out Tryz.underlying41 rfl info_g ?_)
        | (refine wpList_load_row_g rfl 24 _ rfl (w.heap.size + 1) rfl 24 (u8s x) (0, 0) _ r1.out Tryz.underlying24 rfl ix.out ?_)
        | (go_at_call 29; (with_reducible refine (hck.out _ (Below.refl _ _)).mono ?_); rintro e9 w4 ⟨rfl, z2⟩; have hB4 := Lib.hid z2; replace r0 := Lib.hid (rowB r0.out z2 (Array.getElem?_eq_some_iff.1 r0.out).1); replace r1 := Lib.hid (rowB r1.out z2 (Array.getElem?_eq_some_iff.1 r1.out).1); replace r2 := Lib.hid (rowB r2.out z2 (Array.getElem?_eq_some_iff.1 r2.out).1); have cI : w4.cell? ⟨w.heap.size, 0, none⟩ = some (.slice ia n ic) := (by rw [cell_of_row _ _ _ _ _ _ r0.out]; rfl); clear z2)
        | (go_at_call 39; (with_reducible refine (hat.out _ hB4.out).mono ?_); rintro e9 w5 ⟨r, _, hr2, rfl, z2⟩; have hB5 := Lib.hid (hB4.out.trans (z2.mono hB4.out.size)); replace r2 := Lib.hid (rowB r2.out z2 (Array.getElem?_eq_some_iff.1 r2.out).1); clear z2 cI)
        | (refine storeOver _ (w.heap.size + 1 + 1) _ rfl 35 _ _ rfl (zO.c (.slice none 0 0)) 35 r2.out rfl rfl info_op rfl (op_one zO none 0 0) ?_; intro w9 hr9 hb9; have hr9' := Lib.hid hr9; have hb9' := Lib.hid hb9; clear hr9 hb9))
      exact bodyPost_ret (results_row_tmp rfl _ _ (w.heap.size + 1 + 1) 35 _ _ _ rfl hr9'.out Tryz.underlying35 rfl info_op) rfl ⟨.inr (.inl ⟨rfl, hMB'.out, rfl⟩), hS.out.trans (hB5.out.mono hS.out.size) |>.trans (hb9'.out.mono (by omega))⟩
    | true =>
      obtain ⟨p, hpn, hpx0⟩ := mem_iff.1 hMB'.out
      have hpx := Lib.hid hpx0
      have hap2 := Lib.hid (hap.out p hri.out hpn hpx.out)
      have hpm : p < m := by have := hnm.out; have := hm'.out; omega
      clear hap hpx0
      go_enter Tryz.func28, Tryz.ntmps28
      go_upto_region 1 with fail
      change Code.wp _ _ _ _ (((w.alloc (.cells (gC (.slice ia n ic) (.slice oa L.length oc)) 41)).alloc (.cells (u8s x) 24)).alloc (.cells (zO.c (.slice none 0 0)) 35))
      rw [hm'.out, ← hW]
      clear hW
      go_upto_region 5 with (first
        | (refine wpList_load_row_g rfl 41 _ rfl w.heap.size rfl 41 (gC (.slice ia n ic) (.slice oa m oc)) (0, 0) _ r0.out Tryz.underlying41 rfl info_g ?_)
        | (refine wpList_load_row_g rfl 24 _ rfl (w.heap.size + 1) rfl 24 (u8s x) (0, 0) _ r1.out Tryz.underlying24 rfl ix.out ?_)
        | (go_at_call 29; (with_reducible refine (hck.out _ (Below.refl _ _)).mono ?_); rintro e9 w4 ⟨rfl, z2⟩; have hB4 := Lib.hid z2; replace r0 := Lib.hid (rowB r0.out z2 (Array.getElem?_eq_some_iff.1 r0.out).1); replace r1 := Lib.hid (rowB r1.out z2 (Array.getElem?_eq_some_iff.1 r1.out).1); replace r2 := Lib.hid (rowB r2.out z2 (Array.getElem?_eq_some_iff.1 r2.out).1); have cI : w4.cell? ⟨w.heap.size, 0, none⟩ = some (.slice ia n ic) := (by rw [cell_of_row _ _ _ _ _ _ r0.out]; rfl); clear z2)
        | (go_at_call 39; (with_reducible refine (hap2.out _ hB4.out).mono ?_); rintro e9 w5 ⟨rfl, z2⟩; have hB5 := Lib.hid (hB4.out.trans (z2.mono hB4.out.size)); replace r0 := Lib.hid (rowB r0.out z2 (Array.getElem?_eq_some_iff.1 r0.out).1); replace r1 := Lib.hid (rowB r1.out z2 (Array.getElem?_eq_some_iff.1 r1.out).1); replace r2 := Lib.hid (rowB r2.out z2 (Array.getElem?_eq_some_iff.1 r2.out).1); clear z2 cI))
      have hbS5 := Lib.hid (hS.out.trans (hB5.out.mono hS.out.size))
      obtain ⟨b, o, pa, pc, rfl, hbw, hnc, q1, q2⟩ := rdO_at hO'.out hm'.out hbS5.out p hpm
      have q1' := Lib.hid q1
      have hbl := Lib.hid (Nat.lt_of_lt_of_le hbw hbS5.out.size)
      have htw2 := Lib.hid (fun (wz : World) (h : Below w5.heap.size w5 wz) => htw.out p hpm wz _ (q2.mono h))
      have hget := Lib.hid (fun (w' : World) (qa : Option Addr) (qc : Nat) (h : RdI w' (.slice qa (nthO L p).n qc) (nthO L p).n (nthO L p).F) => (show getD F n L x 0 (.returned (.tuple #[.agg ((nthO L p).c (.slice qa (nthO L p).n qc)), .int .i64 0])) w w' from .inr (.inr ⟨rfl, p, qa, qc, hpn, hpx.out, rfl, h⟩)))
      clear q1 q2 htw
      generalize nthO L p = od at *
      have i1 : Hid ((Tryz.prog.info? 35).map (·.size) = some (od.c (.slice pa od.n pc)).toList.length) := Lib.hid info_op
      have hpI : (p : Int) < (m : Int) := by omega
      have k0 := Lib.hid (fun (wz : World) (h : Below w5.heap.size w5 wz) => (show wz.cell? ⟨w.heap.size, 0, none⟩ = some (.slice ia n ic) by rw [cell_of_row _ _ _ _ _ _ (rowB r0.out h (Array.getElem?_eq_some_iff.1 r0.out).1)]; rfl))
      have k1 := Lib.hid (fun (wz : World) (h : Below w5.heap.size w5 wz) => (show wz.cell? ⟨w.heap.size, 1, none⟩ = some (.slice (some ⟨b, o, none⟩) m oc) by rw [cell_of_row _ _ _ _ _ _ (rowB r0.out h (Array.getElem?_eq_some_iff.1 r0.out).1)]; rfl))
      have k3 := Lib.hid (fun (wz : World) (h : Below w5.heap.size w5 wz) => rowB r1.out h (Array.getElem?_eq_some_iff.1 r1.out).1)
      have hw5 := Lib.hid hB5.out.size
      refine wp_region_fx 8 getA (by kernel_rfl) (by kernel_rfl) (fun i v _ => getΦ w.heap.size (.slice ia n ic) (.slice (some ⟨b, o, none⟩) m oc) x p b o (od.c (.slice pa od.n pc)) i v) (fun i w w' => Below w.heap.size w w') (fun wz => Below w5.heap.size w5 wz) (fun _ _ => True) (Below.refl _ _).drew (fun _ _ => trivial) (fun i w w' hi h hg => h.trans (hg.mono h.size)) (fun i j v w w' hi hj ha hinv h hg => h) (fun _ _ _ _ _ _ _ _ _ _ => trivial) ?hstep ?hdone
      case hstep =>
        intro i op vs wz hi hop hinv hpre hd
        match i, hi with
        | 0, _ =>
          simp only [List.getElem?_toArray, List.getElem?_cons_zero, List.getElem?_cons_succ, Option.some.injEq] at hop
          subst hop
          generalize hfr : fxF _ vs fxT _ 0 = fr
          have e : fr.eval (.tmp 2) = .pointer (some ⟨w.heap.size, 0, none⟩) := by rw [← hfr]; exact fx_old 0 (by kernel_rfl)
          clear hfr
          refine fx_val (v := .pointer (some ⟨w.heap.size, 1, none⟩)) (w' := wz) rfl ?_ ⟨rfl, Below.refl _ _⟩
          unfold execOp
          generalize fr.eval = ev at e ⊢
          simp [go_sem, e]
        | 1, _ =>
          simp only [List.getElem?_toArray, List.getElem?_cons_zero, List.getElem?_cons_succ, Option.some.injEq] at hop
          subst hop
          have h0 : vs 0 = .pointer (some ⟨w.heap.size, 1, none⟩) := hd 0 (by decide)
          generalize hfr : fxF _ vs fxT _ 1 = fr
          have e : fr.eval (.tmp 18) = .pointer (some ⟨w.heap.size, 1, none⟩) := by rw [← hfr]; exact (fx_new (by simp) 1 (by kernel_rfl)).trans h0
          clear hfr
          have c1 := k1.out wz hinv
          refine fx_val (v := (.slice (some ⟨b, o, none⟩) m oc)) (w' := wz) rfl ?_ ⟨rfl, Below.refl _ _⟩
          unfold execOp
          generalize fr.eval = ev at e ⊢
          simp [go_sem, e, c1]
        | 2, _ =>
          simp only [List.getElem?_toArray, List.getElem?_cons_zero, List.getElem?_cons_succ, Option.some.injEq] at hop
          subst hop
          generalize hfr : fxF _ vs fxT _ 2 = fr
          have e : fr.eval (.tmp 2) = .pointer (some ⟨w.heap.size, 0, none⟩) := by rw [← hfr]; exact fx_old 2 (by kernel_rfl)
          clear hfr
          refine fx_val (v := .pointer (some ⟨w.heap.size, 0, none⟩)) (w' := wz) rfl ?_ ⟨rfl, Below.refl _ _⟩
          unfold execOp
          generalize fr.eval = ev at e ⊢
          simp [go_sem, e]
        | 3, _ =>
          simp only [List.getElem?_toArray, List.getElem?_cons_zero, List.getElem?_cons_succ, Option.some.injEq] at hop
          subst hop
          have h2 : vs 2 = .pointer (some ⟨w.heap.size, 0, none⟩) := hd 2 (by decide)
          generalize hfr : fxF _ vs fxT _ 3 = fr
          have e : fr.eval (.tmp 20) = .pointer (some ⟨w.heap.size, 0, none⟩) := by rw [← hfr]; exact (fx_new (by simp) 3 (by kernel_rfl)).trans h2
          clear hfr
          have c0 := k0.out wz hinv
          refine fx_val (v := .slice ia n ic) (w' := wz) rfl ?_ ⟨rfl, Below.refl _ _⟩
          unfold execOp
          generalize fr.eval = ev at e ⊢
          simp [go_sem, e, c0]
        | 4, _ =>
          simp only [List.getElem?_toArray, List.getElem?_cons_zero, List.getElem?_cons_succ, Option.some.injEq] at hop
          subst hop
          generalize hfr : fxF _ vs fxT _ 4 = fr
          have e : fr.eval (.tmp 3) = .pointer (some ⟨w.heap.size + 1, 0, none⟩) := by rw [← hfr]; exact fx_old 4 (by kernel_rfl)
          clear hfr
          refine fx_val (v := .agg (u8s x)) (w' := wz) rfl ?_ ⟨rfl, Below.refl _ _⟩
          unfold execOp
          generalize fr.eval = ev at e ⊢
          simp only [e, Instr.loadAt, Instr.sureAddr, Sem.run_bind, Sem.run_pure, Result.andThen_ok, run_loadVar_row wz (w.heap.size + 1) 24 24 (u8s x) (0, 0) _ (k3.out wz hinv) Tryz.underlying24 rfl ix.out]
        | 5, _ =>
          simp only [List.getElem?_toArray, List.getElem?_cons_zero, List.getElem?_cons_succ, Option.some.injEq] at hop
          subst hop
          have h3 : vs 3 = .slice ia n ic := hd 3 (by decide)
          have h4 : vs 4 = .agg (u8s x) := hd 4 (by decide)
          generalize hfr : fxF _ vs fxT _ 5 = fr
          have e : fr.eval (.tmp 21) = .slice ia n ic := by rw [← hfr]; exact (fx_new (by simp) 5 (by kernel_rfl)).trans h3
          have e2 : fr.eval (.tmp 22) = .agg (u8s x) := by rw [← hfr]; exact (fx_new (by simp) 5 (by kernel_rfl)).trans h4
          clear hfr
          refine fx_call #[.slice ia n ic, .agg (u8s x)] rfl rfl Tryz.func39 (by kernel_rfl) rfl (by simp [e, e2]) rfl ((hap2.out wz (hB5.out.trans (hinv.mono hB5.out.size))).mono ?_)
          rintro e9 w9 ⟨rfl, z5⟩
          exact ⟨_, rfl, rfl, z5⟩
        | 6, _ =>
          simp only [List.getElem?_toArray, List.getElem?_cons_zero, List.getElem?_cons_succ, Option.some.injEq] at hop
          subst hop
          have h1 : vs 1 = (.slice (some ⟨b, o, none⟩) m oc) := hd 1 (by decide)
          have h5 : vs 5 = .int .i64 (p : Int) := hd 5 (by decide)
          generalize hfr : fxF _ vs fxT _ 6 = fr
          have e : fr.eval (.tmp 19) = (.slice (some ⟨b, o, none⟩) m oc) := by rw [← hfr]; exact (fx_new (by simp) 6 (by kernel_rfl)).trans h1
          have e2 : fr.eval (.tmp 23) = .int .i64 (p : Int) := by rw [← hfr]; exact (fx_new (by simp) 6 (by kernel_rfl)).trans h5
          clear hfr
          refine fx_val (v := .pointer (some ⟨b, o + p * 11, none⟩)) (w' := wz) rfl ?_ ⟨rfl, Below.refl _ _⟩
          unfold execOp
          generalize fr.eval = ev at e e2 ⊢
          simp [go_sem, e, e2]
          intro hkn; omega
        | 7, _ =>
          simp only [List.getElem?_toArray, List.getElem?_cons_zero, List.getElem?_cons_succ, Option.some.injEq] at hop
          subst hop
          have h6 : vs 6 = .pointer (some ⟨b, o + p * 11, none⟩) := hd 6 (by decide)
          generalize hfr : fxF _ vs fxT _ 7 = fr
          have e : fr.eval (.tmp 24) = .pointer (some ⟨b, o + p * 11, none⟩) := by rw [← hfr]; exact (fx_new (by simp) 7 (by kernel_rfl)).trans h6
          clear hfr
          refine fx_val (v := .agg (od.c (.slice pa od.n pc))) (w' := wz) rfl ?_ ⟨rfl, Below.refl _ _⟩
          unfold execOp
          generalize fr.eval = ev at e ⊢
          simp only [e, Instr.loadAt, Instr.sureAddr, Sem.run_bind, Sem.run_pure, Result.andThen_ok, run_loadVar_mid wz b (o + p * 11) 35 (od.c (.slice pa od.n pc)).toList _ (range_below q1'.out hbl.out hinv) Tryz.underlying35 rfl i1.out]
        | i' + 8, hi' => exact absurd hi' (by omega)
      case hdone =>
        intro vs w6 hinv hf
        have h7 : vs 7 = .agg (od.c (.slice pa od.n pc)) := hf 7 (by decide)
        simp only [fxF, fxT, if_true, List.drop_succ_cons, List.drop_zero, List.getElem?_toArray, List.getElem?_cons_zero, List.getElem?_cons_succ, Option.bind_some]
        rw [h7]
        have r26 := Lib.hid (rowB r2.out hinv (Array.getElem?_eq_some_iff.1 r2.out).1)
        have hB6 := Lib.hid (hB5.out.trans (hinv.mono hB5.out.size))
        have htw3 := Lib.hid (htw2.out w6 hinv)
        have hw6 := Lib.hid hinv.size
        clear hf h7 hinv
        generalize vs 0 = z0 at *
        generalize vs 1 = z1 at *
        generalize vs 2 = z2 at *
        generalize vs 3 = z3 at *
        generalize vs 4 = z4 at *
        generalize vs 5 = z5 at *
        generalize vs 6 = z6 at *
        go_wp2_with (first
          | (go_at_call 72; (with_reducible refine (htw3.out).mono ?_); rintro e9 w7 ⟨qv, rfl, y1, y2⟩; have hq7 := Lib.hid y1; have hB7 := Lib.hid (hB6.out.trans (y2.mono hB6.out.size)); have r27 := Lib.hid (rowB r26.out y2 (Array.getElem?_eq_some_iff.1 r26.out).1); clear y1 y2; obtain ⟨qa, qc, rfl⟩ := hq7.out.rd.slice)
          | (refine wpList_store_row rfl 35 _ _ rfl (w.heap.size + 1 + 1) (od.c (.slice qa od.n qc)) rfl rfl 35 _ r27.out info_op rfl (op_one od qa od.n qc) ?_))
        have hlt2 : w.heap.size + 1 + 1 < w6.heap.size := by
          have := (Array.getElem?_eq_some_iff.1 hr2W.out).1
          have := hw5.out
          have := hw6.out
          omega
        have hq9 := ownI_setRow hq7.out hlt2 (od.c (.slice qa od.n qc))
        exact bodyPost_ret (results_row_tmp rfl _ _ (w.heap.size + 1 + 1) 35 _ _ _ rfl (setRow_heap w7 _ _ (od.c (.slice qa od.n qc)) _ _ r27.out) Tryz.underlying35 rfl info_op) rfl ⟨getD_eq (hget.out _ qa qc hq9.rd) rfl, below_setRow' (hS.out.trans (hB7.out.mono hS.out.size)) (by omega) _⟩
  · have hx0 : (e0 != 0) = true := by simpa using h0
    have h0' := Lib.hid h0
    go_enter Tryz.func28, Tryz.ntmps28
    go_upto_region 1 with fail
    change Code.wp _ _ _ _ (((w.alloc (.cells (gC (.slice ia n ic) (.slice oa L.length oc)) 41)).alloc (.cells (u8s x) 24)).alloc (.cells (zO.c (.slice none 0 0)) 35))
    rw [hm'.out, ← hW]
    clear hW hat hap hz h0
    go_upto_region 2 with (first
      | (refine wpList_load_row_g rfl 41 _ rfl w.heap.size rfl 41 (gC (.slice ia n ic) (.slice oa m oc)) (0, 0) _ r0.out Tryz.underlying41 rfl info_g ?_)
      | (go_at_call 29; (with_reducible refine (hck.out _ (Below.refl _ _)).mono ?_); rintro e9 w4 ⟨rfl, z2⟩; have hB4 := Lib.hid z2; replace r0 := Lib.hid (rowB r0.out z2 (Array.getElem?_eq_some_iff.1 r0.out).1); replace r1 := Lib.hid (rowB r1.out z2 (Array.getElem?_eq_some_iff.1 r1.out).1); replace r2 := Lib.hid (rowB r2.out z2 (Array.getElem?_eq_some_iff.1 r2.out).1); clear z2))
    go_wp2_with (first
      | (refine wpList_load_row_g rfl 41 _ rfl w.heap.size rfl 41 (gC (.slice ia n ic) (.slice oa m oc)) (0, 0) _ r0.out Tryz.underlying41 rfl info_g ?_)
      | (go_at_call 29; (with_reducible refine (hck.out _ hB4.out).mono ?_); rintro e9 w5 ⟨rfl, z2⟩; have hB5 := Lib.hid (hB4.out.trans (z2.mono hB4.out.size)); replace r0 := Lib.hid (rowB r0.out z2 (Array.getElem?_eq_some_iff.1 r0.out).1); replace r1 := Lib.hid (rowB r1.out z2 (Array.getElem?_eq_some_iff.1 r1.out).1); replace r2 := Lib.hid (rowB r2.out z2 (Array.getElem?_eq_some_iff.1 r2.out).1); clear z2)
      | (refine storeOver _ (w.heap.size + 1 + 1) _ rfl 35 _ _ rfl (zO.c (.slice none 0 0)) 35 r2.out rfl rfl info_op rfl (op_one zO none 0 0) ?_; intro w9 hr9 hb9; have hr9' := Lib.hid hr9; have hb9' := Lib.hid hb9; clear hr9 hb9))
    exact bodyPost_ret (results_row_tmp rfl _ _ (w.heap.size + 1 + 1) 35 _ _ _ rfl hr9'.out Tryz.underlying35 rfl info_op) rfl ⟨.inl ⟨h0'.out, rfl⟩, hS.out.trans (hB5.out.mono hS.out.size) |>.trans (hb9'.out.mono (by omega))⟩
end Go.Proofs.YtnknkiiikeefgaaGreatDoor.wir.val
namespace Go.Proofs.YtnknkiiikeefgaaGreatDoor.wir.val
open Go.RowKit Go.YtnknkiiikeefgaaGreatDoor
set_option linter.unusedVariables false
theorem small_n {o : Od} (h : greatB o = false) : o.n ≤ 20 := by
  unfold greatB at h
  rw [Bool.or_eq_false_iff, decide_eq_false_iff_not] at h
  omega
theorem qa_field {P : Program} {C : World → Prop} {o : Oper} {a : Act} {t : TypeId} {k : Nat} {x : Operand} {u v : Value} (ho : o.op = .field t x k) (hx : a.eval x = u) (hr : ∀ w, (Instr.field t u k).run P w = .ok v w) : ∀ w, C w → o.quietAt P a C w v := fun w _ => qa_ok (by
  unfold execOp
  simp only [ho, hx, Sem.run_bind, hr, Sem.run_pure, Result.andThen_ok])
/-- Both Gets answer the same operation. -/
theorem getD_ans (F : List Int) (n : Nat) (L : List Od) (x : List Int) (e0 : Int) (hn : e0 = 0 → n = L.length ∧ riseF F n = true) (hs : ∀ i, i < L.length → (nthO L i).n ≤ 20) :
    ∃ (o : Od) (c : Int), o.n ≤ 20 ∧ ∀ e w w', getD F n L x e0 e w w' → ∃ qa qc, e = .returned (.tuple #[.agg (o.c (.slice qa o.n qc)), .int .i64 c]) ∧ RdI w' (.slice qa o.n qc) o.n o.F := by
  have hz : ∀ w' : World, RdI w' (.slice none zO.n 0) zO.n zO.F := fun w' => .inl ⟨none, 0, rfl, fun _ => rfl, rfl, rfl⟩
  by_cases h0 : e0 = 0
  · obtain ⟨hnl, hri⟩ := hn h0
    cases hm : memF F n x with
    | false =>
      refine ⟨zO, 6, by decide, fun e w w' h => ?_⟩
      rcases h with ⟨h, _⟩ | ⟨_, _, h⟩ | ⟨_, p, qa, qc, h1, h2, _⟩
      · exact absurd h0 h
      · exact ⟨none, 0, h, hz w'⟩
      · rw [mem_iff.2 ⟨p, h1, h2⟩] at hm; cases hm
    | true =>
      obtain ⟨p0, hp0, hx0⟩ := mem_iff.1 hm
      refine ⟨nthO L p0, 0, hs p0 (by omega), fun e w w' h => ?_⟩
      rcases h with ⟨h, _⟩ | ⟨_, h, _⟩ | ⟨_, p, qa, qc, h1, h2, h3, h4⟩
      · exact absurd h0 h
      · rw [hm] at h; cases h
      · have : p = p0 := rise_inj hri h1 hp0 (h2.trans hx0.symm)
        subst this
        exact ⟨qa, qc, h3, h4⟩
  · refine ⟨zO, e0, by decide, fun e w w' h => ?_⟩
    rcases h with ⟨_, h⟩ | ⟨h, _⟩ | ⟨h, _⟩
    · exact ⟨none, 0, h, hz w'⟩
    · exact absurd h h0
    · exact absurd h h0
theorem run_fieldG0 (w : World) : (Instr.field 41 (.agg #[.slice none 0 0, .slice none 0 0]) 0).run Tryz.prog w = .ok (.slice none 0 0) w := by
  simp [Instr.field, run_underlying Tryz.underlying41, part, isAgg, run_underlying Tryz.underlying26, asAgg]
theorem run_fieldG1 (w : World) : (Instr.field 41 (.agg #[.slice none 0 0, .slice none 0 0]) 1).run Tryz.prog w = .ok (.slice none 0 0) w := by
  simp [Instr.field, run_underlying Tryz.underlying41, part, isAgg, run_underlying Tryz.underlying22, asAgg]
set_option maxHeartbeats 2000000 in
set_option maxRecDepth 100000 in
theorem dagNew_any (w : World) : Calls Tryz.prog 16 #[] w fun e w' => e = .returned (.agg #[.slice none 0 0, .slice none 0 0]) ∧ Below w.heap.size w w' := by
  go_enter Tryz.func16, Tryz.ntmps16
  go_wp2
  exact bodyPost_ret (results_cell_row rfl _ _ w.heap.size 41 _ _ _ rfl (heap_alloc_new w _) Tryz.underlying41 rfl info_g) rfl ⟨rfl, below_a w _⟩
set_option maxHeartbeats 16000000 in
set_option maxRecDepth 100000 in
theorem dagFinds_law (F : List Int) (n : Nat) (L : List Od) (iv ov : Value) (x : List Int) (w : World) (hI : RdI w iv n F) (hF : Bytes F) (hO : RdO w ov L) (hraw : ∀ i, i < L.length → (nthO L i).Raw) (hG0 : GlobW w) (hx : x.length = 32) (hxb : Bytes x) :
    Calls Tryz.prog 4 #[.agg (gC iv ov), .agg (u8s x)] w fun e w' => e = .returned (.bool true) ∧ Below w.heap.size w w' := by
  obtain ⟨W, hW⟩ : ∃ W, W = (w.alloc (.cells (gC iv ov) 41)).alloc (.cells (u8s x) 24) := ⟨_, rfl⟩
  have hS := Lib.hid (show Below w.heap.size w W by rw [hW]; exact ((Below.refl w.heap.size w).alloc (Nat.le_refl _) _).alloc (by simp) _)
  have r0 := Lib.hid (show W.heap[w.heap.size]? = some (.cells (gC iv ov) 41 (0, 0)) by rw [hW]; exact rowB (heap_alloc_new w _) (below_a _ _) (by simp))
  have r1 := Lib.hid (show W.heap[w.heap.size + 1]? = some (.cells (u8s x) 24 (0, 0)) by rw [hW]; exact hn2 w _ _)
  have ix := Lib.hid (show (Tryz.prog.info? 24).map (·.size) = some (u8s x).size by rw [u8s_size, hx]; kernel_rfl)
  have hgr := Lib.hid (rGreatG_any F n L iv ov W (hI.mono hS.out) (hO.mono hS.out))
  obtain ⟨e0, he0⟩ := chkG_ex F n L
  have hall := Lib.hid (fun (hsm : SmallG n L) => (show (∀ i, i < L.length → (nthO L i).Fit) ∧ (∀ i, i < L.length → (nthO L i).n ≤ 20) ∧ n ≤ 10000 ∧ L.length ≤ 10000 from ⟨fun i hi => raw_fit (hraw i hi) (hsm.1 i hi), fun i hi => small_n (hsm.1 i hi), by have := hsm.2.2.2; omega, by have := hsm.2.2.1; omega⟩))
  have hck := Lib.hid (fun (hsm : SmallG n L) (wz : World) (hb : Below W.heap.size W wz) => dagCheck_any F n L iv ov e0 wz ((hI.mono hS.out).mono hb) hF ((hO.mono hS.out).mono hb) (Nat.le_trans (hall.out hsm).2.2.1 (by decide)) (Nat.le_trans (hall.out hsm).2.2.2 (by decide)) (hall.out hsm).1 ((hG0.mono hS.out).mono hb) he0)
  have hrk := Lib.hid (fun (hsm : SmallG n L) (wz : World) (hb : Below W.heap.size W wz) => rCheckG_any F n L iv ov e0 wz ((hI.mono hS.out).mono hb) hF ((hO.mono hS.out).mono hb) (hall.out hsm).2.2.1 (hall.out hsm).2.2.2 (hall.out hsm).1 he0)
  have hha := Lib.hid (fun (hsm : SmallG n L) (wz : World) (hb : Below W.heap.size W wz) => dagHas_any F n L iv ov x e0 wz ((hI.mono hS.out).mono hb) hF ((hO.mono hS.out).mono hb) (Nat.le_trans (hall.out hsm).2.2.1 (by decide)) (Nat.le_trans (hall.out hsm).2.2.2 (by decide)) (hall.out hsm).1 ((hG0.mono hS.out).mono hb) he0 hx hxb)
  have hrh := Lib.hid (fun (hsm : SmallG n L) (wz : World) (hb : Below W.heap.size W wz) => rHas_any F n L iv ov x e0 wz ((hI.mono hS.out).mono hb) hF ((hO.mono hS.out).mono hb) (hall.out hsm).2.2.1 (hall.out hsm).2.2.2 (hall.out hsm).1 he0 hx)
  have hge := Lib.hid (fun (hsm : SmallG n L) (wz : World) (hb : Below W.heap.size W wz) => dagGet_any F n L iv ov x e0 wz ((hI.mono hS.out).mono hb) hF ((hO.mono hS.out).mono hb) (Nat.le_trans (hall.out hsm).2.2.1 (by decide)) (Nat.le_trans (hall.out hsm).2.2.2 (by decide)) (hall.out hsm).1 (hall.out hsm).2.1 ((hG0.mono hS.out).mono hb) he0 hx hxb)
  have hrg := Lib.hid (fun (hsm : SmallG n L) (wz : World) (hb : Below W.heap.size W wz) => rGet_any F n L iv ov x e0 wz ((hI.mono hS.out).mono hb) hF ((hO.mono hS.out).mono hb) (hall.out hsm).2.2.1 (hall.out hsm).2.2.2 (hall.out hsm).1 (hall.out hsm).2.1 he0 hx)
  have hzz := Lib.hid (fun (hsm : SmallG n L) => getD_ans F n L x e0 (fun h => by
    have hz := chkG_zero (show ChkG F n L 0 by rw [← h]; exact he0)
    exact ⟨(name_iff.1 hz.2.1).1, hz.2.2.1⟩) (hall.out hsm).2.1)
  obtain ⟨ia, ic, rfl⟩ := hI.slice
  obtain ⟨oa, oc, rfl⟩ := hO.slice
  clear hI hO hF hraw hG0 hx hxb he0 hall
  generalize L.length = m at *
  generalize (decide (e0 = 0) && memF F n x) = HB at *
  go_enter Tryz.func4, Tryz.ntmps4
  go_upto_region 1 with fail
  rw [← hW]
  clear hW
  go_upto_if 14 with (first
    | (refine wpList_load_row_g rfl 41 _ rfl w.heap.size rfl 41 (gC (.slice ia n ic) (.slice oa m oc)) (0, 0) _ r0.out Tryz.underlying41 rfl info_g ?_)
    | (go_at_call 25; (with_reducible refine (hgr.out).mono ?_); rintro e9 w4 ⟨gb, rfl, hsm, z2⟩; have hsm := Lib.hid hsm; have hB := Lib.hid z2; replace r0 := Lib.hid (rowB r0.out z2 (Array.getElem?_eq_some_iff.1 r0.out).1); replace r1 := Lib.hid (rowB r1.out z2 (Array.getElem?_eq_some_iff.1 r1.out).1); clear z2))
  cases gb with
  | true =>
    go_wp2
    go_ret
    exact ⟨rfl, hS.out.trans (hB.out.mono hS.out.size)⟩
  | false =>
    have hs := hsm.out rfl
    obtain ⟨od, cd, hod, hans⟩ := hzz.out hs
    have hans := Lib.hid hans
    have hck := Lib.hid (hck.out hs); have hrk := Lib.hid (hrk.out hs); have hha := Lib.hid (hha.out hs); have hrh := Lib.hid (hrh.out hs); have hge := Lib.hid (hge.out hs); have hrg := Lib.hid (hrg.out hs)
    have hod' := Lib.hid hod
    clear hs hsm hzz hod hgr
    go_upto_region 4 with (first
      | (refine wpList_load_row_g rfl 41 _ rfl w.heap.size rfl 41 (gC (.slice ia n ic) (.slice oa m oc)) (0, 0) _ r0.out Tryz.underlying41 rfl info_g ?_)
      | (refine wpList_load_row_g rfl 24 _ rfl (w.heap.size + 1) rfl 24 (u8s x) (0, 0) _ r1.out Tryz.underlying24 rfl ix.out ?_)
      | (go_at_call 26; (with_reducible refine (hha.out _ hB.out).mono ?_); rintro e9 w4 ⟨rfl, z2⟩; (try replace r0 := Lib.hid (rowB r0.out z2 (Array.getElem?_eq_some_iff.1 r0.out).1)); (try replace r1 := Lib.hid (rowB r1.out z2 (Array.getElem?_eq_some_iff.1 r1.out).1)); (try replace rG := Lib.hid (rowB rG.out z2 (Array.getElem?_eq_some_iff.1 rG.out).1)); (try replace rH := Lib.hid (rowB rH.out z2 (Array.getElem?_eq_some_iff.1 rH.out).1)); (try replace hG := Lib.hid (hG.out.mono z2)); (try replace hH := Lib.hid (hH.out.mono z2)); replace hB := Lib.hid (hB.out.trans (Below.mono z2 hB.out.size)); clear z2))
    go_upto_region 5 with (first
      | (refine wpList_load_row_g rfl 41 _ rfl w.heap.size rfl 41 (gC (.slice ia n ic) (.slice oa m oc)) (0, 0) _ r0.out Tryz.underlying41 rfl info_g ?_)
      | (refine wpList_load_row_g rfl 24 _ rfl (w.heap.size + 1) rfl 24 (u8s x) (0, 0) _ r1.out Tryz.underlying24 rfl ix.out ?_)
      | (go_at_call 27; (with_reducible refine (hrh.out _ hB.out).mono ?_); rintro e9 w4 ⟨rfl, z2⟩; (try replace r0 := Lib.hid (rowB r0.out z2 (Array.getElem?_eq_some_iff.1 r0.out).1)); (try replace r1 := Lib.hid (rowB r1.out z2 (Array.getElem?_eq_some_iff.1 r1.out).1)); (try replace rG := Lib.hid (rowB rG.out z2 (Array.getElem?_eq_some_iff.1 rG.out).1)); (try replace rH := Lib.hid (rowB rH.out z2 (Array.getElem?_eq_some_iff.1 rH.out).1)); (try replace hG := Lib.hid (hG.out.mono z2)); (try replace hH := Lib.hid (hH.out.mono z2)); replace hB := Lib.hid (hB.out.trans (Below.mono z2 hB.out.size)); clear z2))
    go_upto_region 6 with (first
      | (refine wpList_load_row_g rfl 41 _ rfl w.heap.size rfl 41 (gC (.slice ia n ic) (.slice oa m oc)) (0, 0) _ r0.out Tryz.underlying41 rfl info_g ?_)
      | (refine wpList_load_row_g rfl 24 _ rfl (w.heap.size + 1) rfl 24 (u8s x) (0, 0) _ r1.out Tryz.underlying24 rfl ix.out ?_)
      | (go_at_call 17; (with_reducible refine (hge.out _ hB.out).mono ?_); rintro e9 w4 ⟨y1, z2⟩; obtain ⟨ga, gc, rfl, y2⟩ := hans.out _ _ _ y1; (try replace r0 := Lib.hid (rowB r0.out z2 (Array.getElem?_eq_some_iff.1 r0.out).1)); (try replace r1 := Lib.hid (rowB r1.out z2 (Array.getElem?_eq_some_iff.1 r1.out).1)); (try replace rG := Lib.hid (rowB rG.out z2 (Array.getElem?_eq_some_iff.1 rG.out).1)); (try replace rH := Lib.hid (rowB rH.out z2 (Array.getElem?_eq_some_iff.1 rH.out).1)); (try replace hG := Lib.hid (hG.out.mono z2)); (try replace hH := Lib.hid (hH.out.mono z2)); replace hB := Lib.hid (hB.out.trans (Below.mono z2 hB.out.size)); have hG := Lib.hid y2; clear z2 y1 y2)
      | (refine storeNew _ rfl 35 _ _ rfl (od.c (.slice ga od.n gc)) 35 rfl rfl info_op rfl (op_one od ga od.n gc) ?_; intro wx hrx hbx; (try replace r0 := Lib.hid (rowB r0.out hbx (Array.getElem?_eq_some_iff.1 r0.out).1)); (try replace r1 := Lib.hid (rowB r1.out hbx (Array.getElem?_eq_some_iff.1 r1.out).1)); (try replace rG := Lib.hid (rowB rG.out hbx (Array.getElem?_eq_some_iff.1 rG.out).1)); (try replace rH := Lib.hid (rowB rH.out hbx (Array.getElem?_eq_some_iff.1 rH.out).1)); (try replace hG := Lib.hid (hG.out.mono hbx)); (try replace hH := Lib.hid (hH.out.mono hbx)); replace hB := Lib.hid (hB.out.trans (Below.mono hbx hB.out.size)); have rG := Lib.hid hrx; clear hrx hbx))
    obtain ⟨X1, hX1⟩ : ∃ g, g = w4.heap.size := ⟨_, rfl⟩
    rw [← hX1] at rG ⊢
    clear hX1
    go_upto_region 7 with (first
      | (refine wpList_load_row_g rfl 41 _ rfl w.heap.size rfl 41 (gC (.slice ia n ic) (.slice oa m oc)) (0, 0) _ r0.out Tryz.underlying41 rfl info_g ?_)
      | (refine wpList_load_row_g rfl 24 _ rfl (w.heap.size + 1) rfl 24 (u8s x) (0, 0) _ r1.out Tryz.underlying24 rfl ix.out ?_)
      | (go_at_call 28; (with_reducible refine (hrg.out _ hB.out).mono ?_); rintro e9 w4 ⟨y1, z2⟩; obtain ⟨ha, hc, rfl, y2⟩ := hans.out _ _ _ y1; (try replace r0 := Lib.hid (rowB r0.out z2 (Array.getElem?_eq_some_iff.1 r0.out).1)); (try replace r1 := Lib.hid (rowB r1.out z2 (Array.getElem?_eq_some_iff.1 r1.out).1)); (try replace rG := Lib.hid (rowB rG.out z2 (Array.getElem?_eq_some_iff.1 rG.out).1)); (try replace rH := Lib.hid (rowB rH.out z2 (Array.getElem?_eq_some_iff.1 rH.out).1)); (try replace hG := Lib.hid (hG.out.mono z2)); (try replace hH := Lib.hid (hH.out.mono z2)); replace hB := Lib.hid (hB.out.trans (Below.mono z2 hB.out.size)); have hH := Lib.hid y2; clear z2 y1 y2)
      | (refine storeNew _ rfl 35 _ _ rfl (od.c (.slice ha od.n hc)) 35 rfl rfl info_op rfl (op_one od ha od.n hc) ?_; intro wx hrx hbx; (try replace r0 := Lib.hid (rowB r0.out hbx (Array.getElem?_eq_some_iff.1 r0.out).1)); (try replace r1 := Lib.hid (rowB r1.out hbx (Array.getElem?_eq_some_iff.1 r1.out).1)); (try replace rG := Lib.hid (rowB rG.out hbx (Array.getElem?_eq_some_iff.1 rG.out).1)); (try replace rH := Lib.hid (rowB rH.out hbx (Array.getElem?_eq_some_iff.1 rH.out).1)); (try replace hG := Lib.hid (hG.out.mono hbx)); (try replace hH := Lib.hid (hH.out.mono hbx)); replace hB := Lib.hid (hB.out.trans (Below.mono hbx hB.out.size)); have rH := Lib.hid hrx; clear hrx hbx))
    obtain ⟨X2, hX2⟩ : ∃ g, g = w4.heap.size := ⟨_, rfl⟩
    rw [← hX2] at rH ⊢
    clear hX2
    have x1 : (e0 == e0) = true := by simp
    have x2 : (HB == HB) = true := by simp
    have x3 : (cd == cd) = true := by simp
    have y0 := Lib.hid (fun (wz : World) (h : Below wx.heap.size wx wz) => rowB r0.out h (Array.getElem?_eq_some_iff.1 r0.out).1)
    have yG := Lib.hid (fun (wz : World) (h : Below wx.heap.size wx wz) => rowB rG.out h (Array.getElem?_eq_some_iff.1 rG.out).1)
    have yH := Lib.hid (fun (wz : World) (h : Below wx.heap.size wx wz) => rowB rH.out h (Array.getElem?_eq_some_iff.1 rH.out).1)
    have yc := Lib.hid (fun (wz : World) (h : Below wx.heap.size wx wz) => hck.out wz (hB.out.trans (h.mono hB.out.size)))
    have yr := Lib.hid (fun (wz : World) (h : Below wx.heap.size wx wz) => hrk.out wz (hB.out.trans (h.mono hB.out.size)))
    have ys := Lib.hid (fun (wz : World) (h : Below wx.heap.size wx wz) => sameO_yes od hod'.out (.slice ga od.n gc) (.slice ha od.n hc) wz (hG.out.mono h) (hH.out.mono h))
    refine wp_region_quiet (C := fun w' => Below wx.heap.size wx w') (by kernel_rfl) (by kernel_rfl) ((Below.refl _ _).drew) ?_
    simp only []
    refine wpq (.agg (gC (.slice ia n ic) (.slice oa m oc))) rfl (quiet_row 41 _ rfl w.heap.size rfl 41 (gC (.slice ia n ic) (.slice oa m oc)) (0, 0) _ y0.out Tryz.underlying41 rfl info_g) rfl (fun K hK => ?_); go_simp; refine hK _ ?_; clear hK K
    refine wpq (.int .i64 e0) rfl (qa_call1 (.agg (gC (.slice ia n ic) (.slice oa m oc))) rfl Tryz.func21 (by kernel_rfl) rfl rfl rfl (fun w9 h => (yc.out w9 h).mono fun e w' ⟨he, hd⟩ => ⟨he, h.trans (hd.mono h.size)⟩)) rfl (fun K hK => ?_); go_simp; refine hK _ ?_; clear hK K
    refine wpq (.agg (gC (.slice ia n ic) (.slice oa m oc))) rfl (quiet_row 41 _ rfl w.heap.size rfl 41 (gC (.slice ia n ic) (.slice oa m oc)) (0, 0) _ y0.out Tryz.underlying41 rfl info_g) rfl (fun K hK => ?_); go_simp; refine hK _ ?_; clear hK K
    refine wpq (.int .i64 e0) rfl (qa_call1 (.agg (gC (.slice ia n ic) (.slice oa m oc))) rfl Tryz.func29 (by kernel_rfl) rfl rfl rfl (fun w9 h => (yr.out w9 h).mono fun e w' ⟨he, hd⟩ => ⟨he, h.trans (hd.mono h.size)⟩)) rfl (fun K hK => ?_); go_simp; refine hK _ ?_; clear hK K
    iterate 12 (go_big_quiet_want; go_big_quiet_op; first | go_big_quiet_on | (refine ⟨_, fun _ _ => rfl, ?_⟩; go_big_quiet_on))
    refine wpq (.agg (od.c (.slice ga od.n gc))) rfl (quiet_row 35 _ rfl X1 rfl 35 (od.c (.slice ga od.n gc)) (0, 0) _ yG.out Tryz.underlying35 rfl info_op) rfl (fun K hK => ?_); go_simp; refine hK _ ?_; clear hK K
    refine wpq (.agg (od.c (.slice ha od.n hc))) rfl (quiet_row 35 _ rfl X2 rfl 35 (od.c (.slice ha od.n hc)) (0, 0) _ yH.out Tryz.underlying35 rfl info_op) rfl (fun K hK => ?_); go_simp; refine hK _ ?_; clear hK K
    refine wpq (.bool true) rfl (quiet_call2 rfl Tryz.func30 (by kernel_rfl) rfl (.agg (od.c (.slice ga od.n gc))) (.agg (od.c (.slice ha od.n hc))) (.bool true) rfl rfl rfl (fun w9 h => (ys.out w9 h).mono fun e w' ⟨he, hd⟩ => ⟨he, h.trans (hd.mono h.size)⟩)) rfl (fun K hK => ?_); go_simp; refine hK _ ?_; clear hK K
    iterate 7 (go_big_quiet_want; go_big_quiet_op; first | go_big_quiet_on | (refine ⟨_, fun _ _ => rfl, ?_⟩; go_big_quiet_on))
    refine wpq (.agg #[.slice none 0 0, .slice none 0 0]) rfl (qa_call0 rfl Tryz.func16 (by kernel_rfl) rfl rfl (fun w9 h => (dagNew_any w9).mono fun e w' ⟨he, hd⟩ => ⟨he, h.trans (hd.mono h.size)⟩)) rfl (fun K hK => ?_); go_simp; refine hK _ ?_; clear hK K
    refine wpq (.slice none 0 0) rfl (qa_field rfl rfl run_fieldG0) rfl (fun K hK => ?_); go_simp; refine hK _ ?_; clear hK K
    iterate 4 (go_big_quiet_want; go_big_quiet_op; first | go_big_quiet_on | (refine ⟨_, fun _ _ => rfl, ?_⟩; go_big_quiet_on))
    refine wpq (.agg #[.slice none 0 0, .slice none 0 0]) rfl (qa_call0 rfl Tryz.func16 (by kernel_rfl) rfl rfl (fun w9 h => (dagNew_any w9).mono fun e w' ⟨he, hd⟩ => ⟨he, h.trans (hd.mono h.size)⟩)) rfl (fun K hK => ?_); go_simp; refine hK _ ?_; clear hK K
    refine wpq (.slice none 0 0) rfl (qa_field rfl rfl run_fieldG1) rfl (fun K hK => ?_); go_simp; refine hK _ ?_; clear hK K
    iterate 4 (go_big_quiet_want; go_big_quiet_op; first | go_big_quiet_on | (refine ⟨_, fun _ _ => rfl, ?_⟩; go_big_quiet_on))
    refine wpQuiet_nil ?_
    intro w2 h2
    have hB2 := Lib.hid (hB.out.trans (h2.mono hB.out.size))
    clear h2
    go_wp2
    go_ret
    exact ⟨rfl, hS.out.trans (hB2.out.mono hS.out.size)⟩
end Go.Proofs.YtnknkiiikeefgaaGreatDoor.wir.val

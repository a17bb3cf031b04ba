/- Layer 7: FrameOne's walk. -/
import Derived.Test.YtegffpjhdodldaaF20
import Derived.Test.YtegffpjhdodldaaF21
import Derived.Test.YtegffpjhdodldaaRowF
namespace Go.Proofs.Ytegffpjhdodldaa
open Go.RowKit Go.Ytegffpjhdodldaa
set_option linter.unusedVariables false
theorem txts_bytes (L : List (List Int)) (h : ∀ i, Bytes (nthL L i)) (h2 : ∀ i, (nthL L i).length ≤ 1000000) : ∀ k, Bytes (txts L k)
  | 0 => bytes_nil
  | k + 1 => bytes_append _ _ (txts_bytes L h h2 k) (text_bytes _ (h k) (h2 k))
theorem frB_bytes {f : Fr} (ff : f.Fit) : Bytes (frB f) := by
  unfold frB
  refine bytes_append _ _ (bytes_one _ ff.k) ?_
  split
  · exact numB_bytes _ ff.N
  · split
    · exact bytes_append _ _ (numB_bytes _ (by have := ff.n; omega)) ff.F
    · exact bytes_append _ _ (numB_bytes _ (by have := ff.l; omega)) (txts_bytes _ ff.L ff.s _)
theorem rdS_slice {w : World} {v : Value} {l : List Int} (h : RdB w v l) (k : Nat) (hk : l.length = k) : ∃ a c, v = .slice a k c := by
  subst hk
  exact h.slice
theorem rdB_some {w : World} {a : Option Addr} {n c : Nat} {l : List Int} (h : RdB w (.slice a n c) l) (hn : l.length ≠ 0) : ∃ b o, a = some ⟨b, o, none⟩ ∧ n ≤ c ∧ b < w.heap.size ∧ w.cell? ⟨b, o, none⟩ = some (.int .u8 (ith l 0)) := by
  rcases h with ⟨_, _, e, h1, h2⟩ | ⟨b, o, c', e, h1, h2, h3, h4⟩
  · rw [h2] at hn; exact absurd rfl hn
  · cases e
    have h5 := h4 0 (by omega)
    rw [Nat.add_zero] at h5
    exact ⟨b, o, rfl, h1, h3, h5⟩
set_option maxHeartbeats 8000000 in
set_option maxRecDepth 100000 in
theorem one_f (f : Fr) (rf : f.Raw) (iv ov : Value) (b : List Int) (hb : Bytes b) (bv : Value) (w : World) (hi : RdI w iv f.n f.F) (ho : RdS w ov f.L) (hr : RdB w bv b) :
    Calls Try.prog 5 #[.agg (f.c iv ov), bv] w fun e w' => e = .returned (.bool true) ∧ Below w.heap.size w w' := by
  obtain ⟨W, hW⟩ : ∃ W, W = w.alloc (.cells (f.c iv ov) 26) := ⟨_, rfl⟩
  have hr0 := heap_alloc_new w (.cells (f.c iv ov) 26)
  have hb0 := (Below.refl w.heap.size w).alloc (Nat.le_refl _) (.cells (f.c iv ov) 26)
  rw [← hW] at hr0 hb0
  have lf := hi.len
  obtain ⟨ia, ic, rfl⟩ := hi.slice
  obtain ⟨oa, oc, rfl⟩ := ho.slice
  obtain ⟨LB, hLB⟩ : ∃ LB, b.length = LB := ⟨_, rfl⟩
  obtain ⟨ba, bc, rfl⟩ := rdS_slice hr _ hLB
  have hlt := Lib.hid (Array.getElem?_eq_some_iff.1 hr0).1
  have hb1 := Lib.hid hb0
  have lB := Lib.hid hLB
  have hrow := Lib.hid (fun (wz : World) (h : Below W.heap.size W wz) => rowB hr0 h hlt.out)
  have hI := Lib.hid (fun (wz : World) (h : Below W.heap.size W wz) => (hi.mono hb0).mono h)
  have hO := Lib.hid (fun (wz : World) (h : Below W.heap.size W wz) => (ho.mono hb0).mono h)
  have hBr := Lib.hid (fun (wz : World) (h : Below W.heap.size W wz) => (hr.mono hb0).mono h)
  have hB := Lib.hid (Below.refl W.heap.size W)
  have gF := Lib.hid (fun (R : Bool) (hy : f.Small → R = false) (hn : ¬ f.Small → R = true) (wz : World) (h : Below W.heap.size W wz) => great_any f R hy hn _ _ wz (hI.out wz h) (hO.out wz h))
  have hPb := Lib.hid (fun (wz : World) (h : Below W.heap.size W wz) => parse_any b _ wz (hBr.out wz h) hb)
  have hbp := Lib.hid (fun g (h : parseF b = some g) => parse_back hb h)
  clear hr0 hb0 hi ho hr hb hLB
  by_cases sf : f.Small
  · replace gF := Lib.hid (gF.out false (fun _ => rfl) (fun h => absurd sf h))
    by_cases hl : LB ≤ 2500
    · have ff := small_fit rf.k rf.N rf.F rf.L lf sf
      have cF := Lib.hid (fun (wz : World) (h : Below W.heap.size W wz) => rCheckF_any f ff _ _ wz (hI.out wz h) (hO.out wz h))
      cases h0 : frOk f
      · rw [chkR_not h0] at cF
        have eF := Lib.hid (fun (wz : World) (h : Below W.heap.size W wz) => frEncode_bad f ff h0 _ _ wz (hI.out wz h) (hO.out wz h))
        clear rf lf sf ff h0 hI hO
        go_enter Try.func5, Try.ntmps5
        go_upto_region 1 with fail
        rw [← hW]
        clear hW
        go_upto_region 14 with (first | (refine wpList_load_row_g rfl 26 _ rfl w.heap.size rfl 26 (f.c (.slice ia f.n ic) (.slice oa f.L.length oc)) (0, 0) _ (hrow.out _ hB.out) Try.underlying26 rfl info_frame ?_) | (go_at_call 9; (first | (with_reducible refine (gF.out _ hB.out).mono ?_)); rintro e w4 ⟨rfl, q2⟩; replace hB := Lib.hid (hB.out.trans (Below.mono q2 hB.out.size)); clear q2) | (go_at_call 16; (first | (with_reducible refine (cF.out _ hB.out).mono ?_)); rintro e w4 ⟨rfl, q2⟩; replace hB := Lib.hid (hB.out.trans (Below.mono q2 hB.out.size)); clear q2) | (go_at_call 11; (first | (with_reducible refine (eF.out _ hB.out).mono ?_)); rintro e w4 ⟨rfl, q2⟩; replace hB := Lib.hid (hB.out.trans (Below.mono q2 hB.out.size)); clear q2))
        cases hp : parseF b with
        | none =>
          have hPn := Lib.hid (fun (wz : World) (h : Below W.heap.size W wz) => (hPb.out wz h).mono fun e w' q => ans_none hp q)
          clear hPb hbp hp gF cF eF
          go_upto_region 15 with (go_at_call 19; (with_reducible refine (hPn.out _ hB.out).mono ?_); rintro e w4 ⟨rfl, q2⟩; replace hB := Lib.hid (hB.out.trans (Below.mono q2 hB.out.size)); clear q2)
          have q5 := below_a w4 (.cells ((kF 0).c (.slice none 0 0) (.slice none 0 0)) 26)
          have r_g4 := Lib.hid (heap_alloc_new w4 (.cells ((kF 0).c (.slice none 0 0) (.slice none 0 0)) 26))
          replace hB := Lib.hid (hB.out.trans (q5.mono hB.out.size))
          clear q5
          change Code.wp _ _ _ _ (w4.alloc (.cells ((kF 0).c (.slice none 0 0) (.slice none 0 0)) 26))
          generalize w4.alloc (.cells ((kF 0).c (.slice none 0 0) (.slice none 0 0)) 26) = w6 at *
          generalize w4.heap.size = g4 at *
          go_wp2_with (first | (go_at_call 21; (first | (with_reducible refine (alive7 _).mono ?_)); rintro e w4 ⟨rfl, q2⟩; replace hB := Lib.hid (hB.out.trans (Below.mono q2 hB.out.size)); clear q2))
          go_ret
          exact ⟨rfl, hb1.out.trans (hB.out.mono hb1.out.size)⟩
        | some g =>
          obtain ⟨hgb, hgo, hgf⟩ := hbp.out g hp
          have hPs := Lib.hid (fun (wz : World) (h : Below W.heap.size W wz) => (hPb.out wz h).mono fun e w' q => ans_some hp q)
          have hgl : b.length ≤ 140737488355328 := by have := (frOk_parts hgo).2; rw [← hgb]; omega
          have hsb := Lib.hid (fun (va : Value) (wx : World) (ha : RdB wx va b) (h : Below W.heap.size W wx) => (same_any va _ b b wx hgl ha (hBr.out wx h)).mono fun e w' ⟨q1, q2⟩ => (show e = Ending.returned (.bool true) ∧ Below wx.heap.size wx w' from ⟨by rw [q1, sameF_self], q2.below (Below.refl _ _)⟩))
          have hEg := Lib.hid (fun (iv ov : Value) (wz : World) (h1 : RdI wz iv g.n g.F) (h2 : RdS wz ov g.L) => (frEncode_ok g hgf hgo iv ov wz h1 h2).mono fun e w' q => (show ∃ sv, e = .returned (.tuple #[sv, .int .i64 0]) ∧ RdB w' sv b ∧ Below wz.heap.size wz w' from by obtain ⟨sv, q1, q2, q3⟩ := q; exact ⟨sv, q1, by rw [← hgb]; exact q2.rd, q3⟩))
          have hCg := Lib.hid (fun (iv ov : Value) (wz : World) (h1 : RdI wz iv g.n g.F) (h2 : RdS wz ov g.L) => rCheckF_any g hgf iv ov wz h1 h2)
          rw [chkR_yes hgo] at hCg
          clear hPb hbp hp hgb hgo hgf hgl gF cF eF
          go_upto_region 15 with (go_at_call 19; (with_reducible refine (hPs.out _ hB.out).mono ?_); rintro e w4 ⟨ja, jc, pa, pc, rfl, q3, q4, q2⟩; have jI := Lib.hid (heldI_rd q3); have jO := Lib.hid (heldS_rd q4); clear q3 q4; replace hB := Lib.hid (hB.out.trans (Below.mono q2 hB.out.size)); clear q2)
          have q5 := below_a w4 (.cells (g.c (.slice ja g.n jc) (.slice pa g.L.length pc)) 26)
          have r_g4 := Lib.hid (heap_alloc_new w4 (.cells (g.c (.slice ja g.n jc) (.slice pa g.L.length pc)) 26))
          replace jI := Lib.hid (jI.out.mono q5)
          replace jO := Lib.hid (jO.out.mono q5)
          replace hB := Lib.hid (hB.out.trans (q5.mono hB.out.size))
          clear q5
          change Code.wp _ _ _ _ (w4.alloc (.cells (g.c (.slice ja g.n jc) (.slice pa g.L.length pc)) 26))
          generalize w4.alloc (.cells (g.c (.slice ja g.n jc) (.slice pa g.L.length pc)) 26) = w6 at *
          generalize w4.heap.size = g4 at *
          go_wp2_with (first | (refine wpList_load_row_g rfl 26 _ rfl g4 rfl 26 (g.c (.slice ja g.n jc) (.slice pa g.L.length pc)) (0, 0) _ r_g4.out Try.underlying26 rfl info_frame ?_) | (go_at_call 11; (with_reducible refine (hEg.out _ _ _ jI.out jO.out).mono ?_); rintro e w7 ⟨sv, rfl, q3, q2⟩; have sR := Lib.hid q3; clear q3; replace r_g4 := Lib.hid (rowB r_g4.out q2 (Array.getElem?_eq_some_iff.1 r_g4.out).1); replace jI := Lib.hid (jI.out.mono q2); replace jO := Lib.hid (jO.out.mono q2); replace hB := Lib.hid (hB.out.trans (Below.mono q2 hB.out.size)); clear q2) | (go_at_call 17; (with_reducible refine (hsb.out _ _ sR.out hB.out).mono ?_); rintro e w8 ⟨rfl, q2⟩; replace r_g4 := Lib.hid (rowB r_g4.out q2 (Array.getElem?_eq_some_iff.1 r_g4.out).1); replace jI := Lib.hid (jI.out.mono q2); replace jO := Lib.hid (jO.out.mono q2); replace hB := Lib.hid (hB.out.trans (Below.mono q2 hB.out.size)); clear q2) | (go_at_call 16; (with_reducible refine (hCg.out _ _ _ jI.out jO.out).mono ?_); rintro e w9 ⟨rfl, q2⟩; replace r_g4 := Lib.hid (rowB r_g4.out q2 (Array.getElem?_eq_some_iff.1 r_g4.out).1); replace jI := Lib.hid (jI.out.mono q2); replace jO := Lib.hid (jO.out.mono q2); replace hB := Lib.hid (hB.out.trans (Below.mono q2 hB.out.size)); clear q2) | (go_at_call 21; (first | (with_reducible refine (alive7 _).mono ?_)); rintro e w4 ⟨rfl, q2⟩; replace hB := Lib.hid (hB.out.trans (Below.mono q2 hB.out.size)); clear q2))
          go_ret
          exact ⟨rfl, hb1.out.trans (hB.out.mono hb1.out.size)⟩
      · rw [chkR_yes h0] at cF
        have hXb := frB_bytes ff
        have eF := Lib.hid (fun (wz : World) (h : Below W.heap.size W wz) => frEncode_ok f ff h0 _ _ wz (hI.out wz h) (hO.out wz h))
        have sm := Lib.hid (fun (ja : Option Addr) (jc : Nat) (pa : Option Addr) (pc : Nat) (wz : World) (h : Below W.heap.size W wz) (h1 : RdI wz (.slice ja f.n jc) f.n f.F) (h2 : RdS wz (.slice pa f.L.length pc) f.L) => (sameFr_any f f ff.n ff.l ff.s _ _ _ _ wz (hI.out wz h) (hO.out wz h) h1 h2).mono fun e w' ⟨q1, q2⟩ => (show e = Ending.returned (.bool true) ∧ Below wz.heap.size wz w' from ⟨by rw [q1, sameFr_me], q2⟩))
        have hZ := (frOk_parts h0).2
        have hPos := frB_pos f
        have hFirst := Lib.hid (frB_first f)
        have hpf := Lib.hid (fun (v : Value) (wz : World) (h : RdB wz v (frB f)) => (parse_any (frB f) v wz h hXb).mono fun e w' q => ans_some (parse_fr ff h0) q)
        have hpl := Lib.hid (fun (v : Value) (wz : World) (h : RdB wz v (frB f ++ [0])) => (parse_any (frB f ++ [0]) v wz h (bytes_append _ _ hXb (bytes_one 0 (by decide)))).mono fun e w' q => ans_none (parse_long ff h0 0) q)
        have hpc := Lib.hid (fun (v : Value) (wz : World) (h : RdB wz v ((frB f).take ((frB f).length - 1))) => (parse_any ((frB f).take ((frB f).length - 1)) v wz h (bytes_take _ _ hXb)).mono fun e w' q => ans_none (parse_cut ff h0 hXb) q)
        obtain ⟨D, hD⟩ : ∃ D, (frB f).length = D + 1 := ⟨(frB f).length - 1, by omega⟩
        have lA := Lib.hid hD
        have hD2 : D + 1 ≤ 2000 := by omega
        rw [show (frB f).length - 1 = D by omega] at hpc
        clear rf lf sf ff h0 hI hO hXb hZ hPos hD
        generalize hXA : frB f = XA at *
        clear hXA
        have hd1 : decide ((2000 : Int) < ((D + 1 : Nat) : Int)) = false := by rw [decide_eq_false]; omega
        have hd2 : (((D + 1 : Nat) : Int) == 0) = false := by rw [beq_eq_false_iff_ne]; omega
        have hd3 : decide ((2000 : Int) < (D : Int) + 1) = false := by rw [decide_eq_false]; omega
        have hd4 : (((D : Int) + 1) == 0) = false := by rw [beq_eq_false_iff_ne]; omega
        have hkk : (f.k != f.k) = false := by simp
        go_enter Try.func5, Try.ntmps5
        go_upto_region 1 with fail
        rw [← hW]
        clear hW
        go_upto_region 8 with (first | (refine wpList_load_row_g rfl 26 _ rfl w.heap.size rfl 26 (f.c (.slice ia f.n ic) (.slice oa f.L.length oc)) (0, 0) _ (hrow.out _ hB.out) Try.underlying26 rfl info_frame ?_) | (go_at_call 9; (first | (with_reducible refine (gF.out _ hB.out).mono ?_)); rintro e w4 ⟨rfl, q2⟩; replace hB := Lib.hid (hB.out.trans (Below.mono q2 hB.out.size)); clear q2) | (go_at_call 11; (with_reducible refine (eF.out _ hB.out).mono ?_); rintro e w4 ⟨sv, rfl, q1, q2⟩; have sB := Lib.hid q1.rd; clear q1; obtain ⟨sa, sc, hz⟩ := rdS_slice sB.out _ lA.out; subst hz; replace hB := Lib.hid (hB.out.trans (Below.mono q2 hB.out.size)); clear q2) | (go_at_call 16; (with_reducible refine (cF.out _ hB.out).mono ?_); rintro e w4 ⟨rfl, q2⟩; replace sB := Lib.hid (sB.out.mono q2); replace hB := Lib.hid (hB.out.trans (Below.mono q2 hB.out.size)); clear q2) | (go_at_call 19; (with_reducible refine (hpf.out _ _ sB.out).mono ?_); rintro e w5 ⟨ja, jc, pa, pc, rfl, q3, q4, q2⟩; have jI := Lib.hid (heldI_rd q3); have jO := Lib.hid (heldS_rd q4); clear q3 q4; replace sB := Lib.hid (sB.out.mono q2); replace hB := Lib.hid (hB.out.trans (Below.mono q2 hB.out.size)); clear q2))
        have q5 := below_a w5 (.cells (f.c (.slice ja f.n jc) (.slice pa f.L.length pc)) 26)
        have r_g4 := Lib.hid (heap_alloc_new w5 (.cells (f.c (.slice ja f.n jc) (.slice pa f.L.length pc)) 26))
        replace jI := Lib.hid (jI.out.mono q5)
        replace jO := Lib.hid (jO.out.mono q5)
        replace sB := Lib.hid (sB.out.mono q5)
        replace hB := Lib.hid (hB.out.trans (q5.mono hB.out.size))
        clear q5
        change Code.wp _ _ _ _ (w5.alloc (.cells (f.c (.slice ja f.n jc) (.slice pa f.L.length pc)) 26))
        generalize w5.alloc (.cells (f.c (.slice ja f.n jc) (.slice pa f.L.length pc)) 26) = w6 at *
        generalize w5.heap.size = g4 at *
        obtain ⟨cb, co, rfl, hcap, hcb, hcc⟩ := rdB_some sB.out (by rw [lA.out]; omega)
        rw [hFirst.out] at hcc
        have k0 := Lib.hid (fun (w' : World) (h : Below w6.heap.size w6 w') => hrow.out w' (hB.out.trans (h.mono hB.out.size)))
        have k1 := Lib.hid (fun (w' : World) (h : Below w6.heap.size w6 w') => rowB r_g4.out h (Array.getElem?_eq_some_iff.1 r_g4.out).1)
        have kc := Lib.hid (fun (w' : World) (h : Below w6.heap.size w6 w') => (h.cell (p := (⟨cb, co, none⟩ : Addr)) hcb).trans hcc)
        have kf := Lib.hid (fun (w' : World) (h : Below w6.heap.size w6 w') => (cellsF (k0.out w' h)).1)
        have kS := Lib.hid (fun (w' : World) (h : Below w6.heap.size w6 w') => sm.out _ _ _ _ w' (hB.out.trans (h.mono hB.out.size)) (jI.out.mono h) (jO.out.mono h))
        clear gF cF eF sm hpf jI jO hcc hcb r_g4
        refine wp_region_quiet (C := fun w' => Below w6.heap.size w6 w') (by kernel_rfl) (by kernel_rfl) ((Below.refl _ _).drew) ?_
        simp only []
        (go_big_quiet_want; go_big_quiet_op; first | go_big_quiet_on | (refine ⟨_, fun _ _ => rfl, ?_⟩; go_big_quiet_on))
        (go_big_quiet_want; go_big_quiet_op; first | go_big_quiet_on | (refine ⟨_, fun _ _ => rfl, ?_⟩; go_big_quiet_on))
        (go_big_quiet_want; go_big_quiet_op; first | go_big_quiet_on | (refine ⟨_, fun _ _ => rfl, ?_⟩; go_big_quiet_on))
        refine wpq (.agg (f.c (.slice ia f.n ic) (.slice oa f.L.length oc))) rfl (quiet_row 26 _ rfl w.heap.size rfl 26 (f.c (.slice ia f.n ic) (.slice oa f.L.length oc)) (0, 0) _ k0.out Try.underlying26 rfl info_frame) rfl (fun K hK => ?_); go_simp; refine hK _ ?_; clear hK K
        refine wpq (.agg (f.c (.slice ja f.n jc) (.slice pa f.L.length pc))) rfl (quiet_row 26 _ rfl g4 rfl 26 (f.c (.slice ja f.n jc) (.slice pa f.L.length pc)) (0, 0) _ k1.out Try.underlying26 rfl info_frame) rfl (fun K hK => ?_); go_simp; refine hK _ ?_; clear hK K
        refine wpq (.bool true) rfl (quiet_call2 rfl Try.func18 (by kernel_rfl) rfl (.agg (f.c (.slice ia f.n ic) (.slice oa f.L.length oc))) (.agg (f.c (.slice ja f.n jc) (.slice pa f.L.length pc))) (.bool true) rfl rfl rfl (fun w h => (kS.out w h).mono fun e w' ⟨he, hb⟩ => ⟨he, h.trans (hb.mono h.size)⟩)) rfl (fun K hK => ?_); go_simp; refine hK _ ?_; clear hK K
        (go_big_quiet_want; go_big_quiet_op; first | go_big_quiet_on | (refine ⟨_, fun _ _ => rfl, ?_⟩; go_big_quiet_on))
        (go_big_quiet_want; go_big_quiet_op; first | go_big_quiet_on | (refine ⟨_, fun _ _ => rfl, ?_⟩; go_big_quiet_on))
        (go_big_quiet_want; go_big_quiet_op; first | go_big_quiet_on | (refine ⟨_, fun _ _ => rfl, ?_⟩; go_big_quiet_on))
        (go_big_quiet_want; go_big_quiet_op; first | go_big_quiet_on | (refine ⟨_, fun _ _ => rfl, ?_⟩; go_big_quiet_on))
        (go_big_quiet_want; go_big_quiet_op; first | go_big_quiet_on | (refine ⟨_, fun _ _ => rfl, ?_⟩; go_big_quiet_on))
        (go_big_quiet_want; go_big_quiet_op; first | go_big_quiet_on | (refine ⟨_, fun _ _ => rfl, ?_⟩; go_big_quiet_on))
        (go_big_quiet_want; go_big_quiet_op; first | go_big_quiet_on | (refine ⟨_, fun _ _ => rfl, ?_⟩; go_big_quiet_on))
        (go_big_quiet_want; go_big_quiet_op; first | go_big_quiet_on | (refine ⟨_, fun _ _ => rfl, ?_⟩; go_big_quiet_on))
        (go_big_quiet_want; go_big_quiet_op; first | go_big_quiet_on | (refine ⟨_, fun _ _ => rfl, ?_⟩; go_big_quiet_on))
        (go_big_quiet_want; go_big_quiet_op; first | go_big_quiet_on | (refine ⟨_, fun _ _ => rfl, ?_⟩; go_big_quiet_on))
        (go_big_quiet_want; go_big_quiet_op; first | go_big_quiet_on | (refine ⟨_, fun _ _ => rfl, ?_⟩; go_big_quiet_on))
        (go_big_quiet_want; go_big_quiet_op; first | go_big_quiet_on | (refine ⟨_, fun _ _ => rfl, ?_⟩; go_big_quiet_on))
        (go_big_quiet_want; go_big_quiet_op; first | go_big_quiet_on | (refine ⟨_, fun _ _ => rfl, ?_⟩; go_big_quiet_on))
        (go_big_quiet_want; go_big_quiet_op; first | go_big_quiet_on | (refine ⟨_, fun _ _ => rfl, ?_⟩; go_big_quiet_on))
        (go_big_quiet_want; go_big_quiet_op; first | go_big_quiet_on | (refine ⟨_, fun _ _ => rfl, ?_⟩; go_big_quiet_on))
        refine wpq (.int .u8 f.k) rfl (quiet_cell 5 _ rfl cb co rfl (.int .u8 f.k) kc.out Try.isAgg5) rfl (fun K hK => ?_); go_simp; refine hK _ ?_; clear hK K
        (go_big_quiet_want; go_big_quiet_op; first | go_big_quiet_on | (refine ⟨_, fun _ _ => rfl, ?_⟩; go_big_quiet_on))
        refine wpq (.int .u8 f.k) rfl (quiet_cell 5 _ rfl w.heap.size 0 rfl (.int .u8 f.k) kf.out Try.isAgg5) rfl (fun K hK => ?_); go_simp; refine hK _ ?_; clear hK K
        (go_big_quiet_want; go_big_quiet_op; first | go_big_quiet_on | (refine ⟨_, fun _ _ => rfl, ?_⟩; go_big_quiet_on))
        (go_big_quiet_want; go_big_quiet_op; first | go_big_quiet_on | (refine ⟨_, fun _ _ => rfl, ?_⟩; go_big_quiet_on))
        refine wpQuiet_nil ?_
        intro w9 h9
        replace hB := Lib.hid (hB.out.trans (h9.mono hB.out.size))
        replace sB := Lib.hid (sB.out.mono h9)
        clear h9 k0 k1 kc kf kS
        have ox := Lib.hid (own_nil w9)
        have sb0 := Lib.hid (sB.out.mono (below_a1 w9 (.cells #[] 5)))
        go_wp2_with (refine appendB rfl _ _ 29 rfl w9.heap.size 5 Try.underlying29 (by kernel_rfl) _ rfl [] ox.out _ rfl XA sb0.out (by rw [List.length_nil, lA.out]; omega) (by simp) ?_)
        intro own w10 h1 h2
        have hB10 := (below_a1 w9 (.cells #[] 5)).trans (ox.out.below h2 (by simp))
        have ow := Lib.hid h1
        have hq := Lib.hid hB10
        clear h1 h2 hB10 ox sb0
        refine Stop.go ?_
        go_wp2_with (refine appendB rfl _ _ 29 rfl w9.heap.size 5 Try.underlying29 (by kernel_rfl) _ rfl XA (ow.out.kept (below_a1 w10 (.cells #[.int .u8 0] 5))) _ rfl [0] (rdB_row (cs := [0]) (heap_alloc_new w10 _) 1 rfl (by decide)) (by rw [lA.out, List.length_singleton]; omega) (by have := hq.out.size; simp; omega) ?_)
        intro own2 w11 h1 h2
        have hq2 := (hq.out.alloc hq.out.size (.cells #[.int .u8 0] 5)).trans ((ow.out.kept (below_a1 w10 (.cells #[.int .u8 0] 5))).below h2 (by have := hq.out.size; simp; omega))
        have oR := Lib.hid h1.rd
        replace hB := Lib.hid (hB.out.trans (hq2.mono hB.out.size))
        replace sB := Lib.hid (sB.out.mono hq2)
        clear h1 h2 hq2 ow hq
        refine Stop.go ?_
        go_upto_region 11 with (go_at_call 19; (with_reducible refine (hpl.out _ _ oR.out).mono ?_); rintro e w4 ⟨rfl, q2⟩; replace sB := Lib.hid (sB.out.mono q2); replace hB := Lib.hid (hB.out.trans (Below.mono q2 hB.out.size)); clear q2)
        have q5 := below_a w4 (.cells ((kF 0).c (.slice none 0 0) (.slice none 0 0)) 26)
        have r_g7 := Lib.hid (heap_alloc_new w4 (.cells ((kF 0).c (.slice none 0 0) (.slice none 0 0)) 26))
        replace sB := Lib.hid (sB.out.mono q5)
        replace hB := Lib.hid (hB.out.trans (q5.mono hB.out.size))
        clear q5
        change Code.wp _ _ _ _ (w4.alloc (.cells ((kF 0).c (.slice none 0 0) (.slice none 0 0)) 26))
        generalize w4.alloc (.cells ((kF 0).c (.slice none 0 0) (.slice none 0 0)) 26) = w6 at *
        generalize w4.heap.size = g7 at *
        have sT := Lib.hid (rdB_take sB.out D (by omega))
        clear oR hpl sB
        rename_i w6a
        go_upto_region 12 with (go_at_call 19; (with_reducible refine (hpc.out _ _ sT.out).mono ?_); rintro e w4 ⟨rfl, q2⟩; replace hB := Lib.hid (hB.out.trans (Below.mono q2 hB.out.size)); clear q2)
        have q5 := below_a w4 (.cells ((kF 0).c (.slice none 0 0) (.slice none 0 0)) 26)
        have r_g8 := Lib.hid (heap_alloc_new w4 (.cells ((kF 0).c (.slice none 0 0) (.slice none 0 0)) 26))
        replace hB := Lib.hid (hB.out.trans (q5.mono hB.out.size))
        clear q5
        change Code.wp _ _ _ _ (w4.alloc (.cells ((kF 0).c (.slice none 0 0) (.slice none 0 0)) 26))
        generalize w4.alloc (.cells ((kF 0).c (.slice none 0 0) (.slice none 0 0)) 26) = w6 at *
        generalize w4.heap.size = g8 at *
        go_upto_region 14 with fail
        clear sT hpc lA hd1 hd2 hd3 hd4 hD2
        cases hp : parseF b with
        | none =>
          have hPn := Lib.hid (fun (wz : World) (h : Below W.heap.size W wz) => (hPb.out wz h).mono fun e w' q => ans_none hp q)
          clear hPb hbp hp 
          go_upto_region 15 with (go_at_call 19; (with_reducible refine (hPn.out _ hB.out).mono ?_); rintro e w4 ⟨rfl, q2⟩; replace hB := Lib.hid (hB.out.trans (Below.mono q2 hB.out.size)); clear q2)
          have q5 := below_a w4 (.cells ((kF 0).c (.slice none 0 0) (.slice none 0 0)) 26)
          have r_g4 := Lib.hid (heap_alloc_new w4 (.cells ((kF 0).c (.slice none 0 0) (.slice none 0 0)) 26))
          replace hB := Lib.hid (hB.out.trans (q5.mono hB.out.size))
          clear q5
          change Code.wp _ _ _ _ (w4.alloc (.cells ((kF 0).c (.slice none 0 0) (.slice none 0 0)) 26))
          generalize w4.alloc (.cells ((kF 0).c (.slice none 0 0) (.slice none 0 0)) 26) = w6 at *
          generalize w4.heap.size = g4 at *
          go_wp2_with (first | (go_at_call 21; (first | (with_reducible refine (alive7 _).mono ?_)); rintro e w4 ⟨rfl, q2⟩; replace hB := Lib.hid (hB.out.trans (Below.mono q2 hB.out.size)); clear q2))
          go_ret
          exact ⟨rfl, hb1.out.trans (hB.out.mono hb1.out.size)⟩
        | some g =>
          obtain ⟨hgb, hgo, hgf⟩ := hbp.out g hp
          have hPs := Lib.hid (fun (wz : World) (h : Below W.heap.size W wz) => (hPb.out wz h).mono fun e w' q => ans_some hp q)
          have hgl : b.length ≤ 140737488355328 := by have := (frOk_parts hgo).2; rw [← hgb]; omega
          have hsb := Lib.hid (fun (va : Value) (wx : World) (ha : RdB wx va b) (h : Below W.heap.size W wx) => (same_any va _ b b wx hgl ha (hBr.out wx h)).mono fun e w' ⟨q1, q2⟩ => (show e = Ending.returned (.bool true) ∧ Below wx.heap.size wx w' from ⟨by rw [q1, sameF_self], q2.below (Below.refl _ _)⟩))
          have hEg := Lib.hid (fun (iv ov : Value) (wz : World) (h1 : RdI wz iv g.n g.F) (h2 : RdS wz ov g.L) => (frEncode_ok g hgf hgo iv ov wz h1 h2).mono fun e w' q => (show ∃ sv, e = .returned (.tuple #[sv, .int .i64 0]) ∧ RdB w' sv b ∧ Below wz.heap.size wz w' from by obtain ⟨sv, q1, q2, q3⟩ := q; exact ⟨sv, q1, by rw [← hgb]; exact q2.rd, q3⟩))
          have hCg := Lib.hid (fun (iv ov : Value) (wz : World) (h1 : RdI wz iv g.n g.F) (h2 : RdS wz ov g.L) => rCheckF_any g hgf iv ov wz h1 h2)
          rw [chkR_yes hgo] at hCg
          clear hPb hbp hp hgb hgo hgf hgl 
          go_upto_region 15 with (go_at_call 19; (with_reducible refine (hPs.out _ hB.out).mono ?_); rintro e w4 ⟨ja, jc, pa, pc, rfl, q3, q4, q2⟩; have jI := Lib.hid (heldI_rd q3); have jO := Lib.hid (heldS_rd q4); clear q3 q4; replace hB := Lib.hid (hB.out.trans (Below.mono q2 hB.out.size)); clear q2)
          have q5 := below_a w4 (.cells (g.c (.slice ja g.n jc) (.slice pa g.L.length pc)) 26)
          have r_g4 := Lib.hid (heap_alloc_new w4 (.cells (g.c (.slice ja g.n jc) (.slice pa g.L.length pc)) 26))
          replace jI := Lib.hid (jI.out.mono q5)
          replace jO := Lib.hid (jO.out.mono q5)
          replace hB := Lib.hid (hB.out.trans (q5.mono hB.out.size))
          clear q5
          change Code.wp _ _ _ _ (w4.alloc (.cells (g.c (.slice ja g.n jc) (.slice pa g.L.length pc)) 26))
          generalize w4.alloc (.cells (g.c (.slice ja g.n jc) (.slice pa g.L.length pc)) 26) = w6 at *
          generalize w4.heap.size = g4 at *
          go_wp2_with (first | (refine wpList_load_row_g rfl 26 _ rfl g4 rfl 26 (g.c (.slice ja g.n jc) (.slice pa g.L.length pc)) (0, 0) _ r_g4.out Try.underlying26 rfl info_frame ?_) | (go_at_call 11; (with_reducible refine (hEg.out _ _ _ jI.out jO.out).mono ?_); rintro e w7 ⟨sv, rfl, q3, q2⟩; have sR := Lib.hid q3; clear q3; replace r_g4 := Lib.hid (rowB r_g4.out q2 (Array.getElem?_eq_some_iff.1 r_g4.out).1); replace jI := Lib.hid (jI.out.mono q2); replace jO := Lib.hid (jO.out.mono q2); replace hB := Lib.hid (hB.out.trans (Below.mono q2 hB.out.size)); clear q2) | (go_at_call 17; (with_reducible refine (hsb.out _ _ sR.out hB.out).mono ?_); rintro e w8 ⟨rfl, q2⟩; replace r_g4 := Lib.hid (rowB r_g4.out q2 (Array.getElem?_eq_some_iff.1 r_g4.out).1); replace jI := Lib.hid (jI.out.mono q2); replace jO := Lib.hid (jO.out.mono q2); replace hB := Lib.hid (hB.out.trans (Below.mono q2 hB.out.size)); clear q2) | (go_at_call 16; (with_reducible refine (hCg.out _ _ _ jI.out jO.out).mono ?_); rintro e w9 ⟨rfl, q2⟩; replace r_g4 := Lib.hid (rowB r_g4.out q2 (Array.getElem?_eq_some_iff.1 r_g4.out).1); replace jI := Lib.hid (jI.out.mono q2); replace jO := Lib.hid (jO.out.mono q2); replace hB := Lib.hid (hB.out.trans (Below.mono q2 hB.out.size)); clear q2) | (go_at_call 21; (first | (with_reducible refine (alive7 _).mono ?_)); rintro e w4 ⟨rfl, q2⟩; replace hB := Lib.hid (hB.out.trans (Below.mono q2 hB.out.size)); clear q2))
          go_ret
          exact ⟨rfl, hb1.out.trans (hB.out.mono hb1.out.size)⟩
    · have h25 : (2500 : Int) < (LB : Int) := by omega
      clear rf lf sf hl hPb hbp hBr hI hO lB
      go_enter Try.func5, Try.ntmps5
      go_upto_region 1 with fail
      rw [← hW]
      clear hW
      go_wp2_with (first | (refine wpList_load_row_g rfl 26 _ rfl w.heap.size rfl 26 (f.c (.slice ia f.n ic) (.slice oa f.L.length oc)) (0, 0) _ (hrow.out _ hB.out) Try.underlying26 rfl info_frame ?_) | (go_at_call 9; (first | (with_reducible refine (gF.out _ hB.out).mono ?_)); rintro e w4 ⟨rfl, q2⟩; replace hB := Lib.hid (hB.out.trans (Below.mono q2 hB.out.size)); clear q2) | (go_at_call 21; (first | (with_reducible refine (alive7 _).mono ?_)); rintro e w4 ⟨rfl, q2⟩; replace hB := Lib.hid (hB.out.trans (Below.mono q2 hB.out.size)); clear q2))
      go_ret
      exact ⟨rfl, hb1.out.trans (hB.out.mono hb1.out.size)⟩
  · replace gF := Lib.hid (gF.out true (fun h => absurd h sf) (fun _ => rfl))
    clear rf lf sf hPb hbp hBr hI hO lB
    go_enter Try.func5, Try.ntmps5
    go_upto_region 1 with fail
    rw [← hW]
    clear hW
    go_wp2_with (first | (refine wpList_load_row_g rfl 26 _ rfl w.heap.size rfl 26 (f.c (.slice ia f.n ic) (.slice oa f.L.length oc)) (0, 0) _ (hrow.out _ hB.out) Try.underlying26 rfl info_frame ?_) | (go_at_call 9; (first | (with_reducible refine (gF.out _ hB.out).mono ?_)); rintro e w4 ⟨rfl, q2⟩; replace hB := Lib.hid (hB.out.trans (Below.mono q2 hB.out.size)); clear q2) | (go_at_call 21; (first | (with_reducible refine (alive7 _).mono ?_)); rintro e w4 ⟨rfl, q2⟩; replace hB := Lib.hid (hB.out.trans (Below.mono q2 hB.out.size)); clear q2))
    go_ret
    exact ⟨rfl, hb1.out.trans (hB.out.mono hb1.out.size)⟩
end Go.Proofs.Ytegffpjhdodldaa

/- Texts that the row stands on, part 3. -/
import Derived.Test.YtfaojjleapenaabDoorROnDq02
import Derived.Test.YtfaojjleapenaabDoorTie
import Derived.ProofKit
import Derived.LaidMore
import Derived.OpenShut
import Derived.OpenVars
import Derived.Stop.Joined
import Derived.ChangeSlices
namespace Go.Proofs.YtfaojjleapenaabDoor
open Go.RowKit Go.YtfaojjleapenaabDoor
set_option linter.unusedVariables false
set_option maxHeartbeats 8000000 in
set_option maxRecDepth 100000 in
theorem on_near {Tg Tf : TypeId} (V : V8) (K M : Nat) (la lb : List Int) (av bv : Value) (w : World) (ha : RdB w av la) (hb : RdB w bv lb) (hG : GlO Tg Tf w) (hK : K ≤ 3000) (hM : M = 64 * K) (na : la.length ≤ 500) (nb : lb.length ≤ 500)
    (G1 G2 : V8) (M1 M2 : Nat) (R1 R2 D : List Int) (P : OnP Tg Tf V M la lb G1 G2 M1 M2 R1 R2 D) :
    Calls Tryd.prog 3 #[.agg V.cells, .int .i64 (K : Int), av, bv] w fun e w' => e = .returned (.bool true) ∧ Below w.heap.size w w' := by
  obtain ⟨a, c, rfl⟩ := ha.slice
  obtain ⟨b, d, rfl⟩ := hb.slice
  obtain ⟨w9, hw9⟩ : ∃ x, x = w.alloc (.cells V.cells 23) := ⟨_, rfl⟩
  have hS0 := below_aD w (.cells V.cells 23)
  have h0 := heap_alloc_new w (.cells V.cells 23)
  rw [← hw9] at hS0 h0
  have hs9 := Lib.hid (show w9.heap.size = w.heap.size + 1 by rw [hw9]; simp)
  have hr0 := Lib.hid (show w9.heap[w.heap.size]? = some (.cells #[.int .u32 V.a, .int .u32 V.b, .int .u32 V.c, .int .u32 V.d, .int .u32 V.e, .int .u32 V.f, .int .u32 V.g, .int .u32 V.h] 23 (0, 0)) from h0)
  have hra := Lib.hid (ha.mono hS0)
  have hrb := Lib.hid (hb.mono hS0)
  have hGw := Lib.hid (hG.mono hS0)
  have hS := Lib.hid hS0
  have i1 : (0 : Int) ≤ (K : Int) := by omega
  have i2 : (K : Int) ≤ 3000 := by omega
  have i3 : (la.length : Int) ≤ 500 := by omega
  have i4 : (lb.length : Int) ≤ 500 := by omega
  have hm := Lib.hid (show ((64 : Int) * (K : Int)) = (M : Int) by omega)
  have hp := Lib.hid P
  clear P hS0 h0 ha hb hG
  generalize hA : la.length = A at *
  generalize hB : lb.length = B at *
  have hA' := Lib.hid hA
  have hB' := Lib.hid hB
  clear hA hB na nb hK hM
  go_enter Tryd.func3, Tryd.ntmps3
  go_upto_region 1 with fail
  rw [← hw9]
  clear hw9
  go_upto_region 4 with (first | (refine wpList_load_row_g rfl 23 _ rfl w.heap.size rfl 23 #[.int .u32 V.a, .int .u32 V.b, .int .u32 V.c, .int .u32 V.d, .int .u32 V.e, .int .u32 V.f, .int .u32 V.g, .int .u32 V.h] (0, 0) _ hr0.out Tryd.underlying23 rfl (by kernel_rfl) ?_))
  rw [hm.out]
  have h9 := below_aD w9 (.cells #[.int .u32 V.a, .int .u32 V.b, .int .u32 V.c, .int .u32 V.d, .int .u32 V.e, .int .u32 V.f, .int .u32 V.g, .int .u32 V.h, (.slice none 0 0), .int .i64 (M : Int)] 27)
  have hr9 := Lib.hid (heap_alloc_new w9 (.cells #[.int .u32 V.a, .int .u32 V.b, .int .u32 V.c, .int .u32 V.d, .int .u32 V.e, .int .u32 V.f, .int .u32 V.g, .int .u32 V.h, (.slice none 0 0), .int .i64 (M : Int)] 27))
  replace hS := Lib.hid (hS.out.trans (h9.mono hS.out.size))
  replace hr0 := Lib.hid (rowD hr0.out h9)
  replace hra := Lib.hid (hra.out.mono h9)
  replace hrb := Lib.hid (hrb.out.mono h9)
  replace hGw := Lib.hid (hGw.out.mono h9)
  clear h9
  generalize w9.heap.size = g9 at *
  generalize w9.alloc (.cells #[.int .u32 V.a, .int .u32 V.b, .int .u32 V.c, .int .u32 V.d, .int .u32 V.e, .int .u32 V.f, .int .u32 V.g, .int .u32 V.h, (.slice none 0 0), .int .i64 (M : Int)] 27) = w3 at *
  clear hs9
  have q1 := hp.out.a1 _ w3 hra.out hGw.out
  unfold millV at q1
  replace q1 := Lib.hid q1
  go_wp2_with (first | (refine wpList_load_row_g rfl 27 _ rfl g9 rfl 27 #[.int .u32 V.a, .int .u32 V.b, .int .u32 V.c, .int .u32 V.d, .int .u32 V.e, .int .u32 V.f, .int .u32 V.g, .int .u32 V.h, (.slice none 0 0), .int .i64 (M : Int)] (0, 0) _ hr9.out Tryd.underlying27 rfl (by kernel_rfl) ?_) | (go_at_call 7; (with_reducible refine (q1.out).mono ?_); rintro e w4 ⟨x1, rfl, h8, h9⟩; replace hS := Lib.hid (hS.out.trans (h9.mono hS.out.size)); replace hr0 := Lib.hid (rowD hr0.out h9); replace hra := Lib.hid (hra.out.mono h9); replace hrb := Lib.hid (hrb.out.mono h9); replace hGw := Lib.hid (hGw.out.mono h9); replace hr9 := Lib.hid (rowD hr9.out h9); have hox1 := Lib.hid h8.rd; obtain ⟨ax1, cx1, rfl⟩ := hox1.out.slice; clear h8; clear h9; refine Stop.go'' _ ?_))
  refine StopP.go ?_
  clear q1
  go_upto_region 5 with fail
  have h9 := below_aD w4 (.cells #[.int .u32 G1.a, .int .u32 G1.b, .int .u32 G1.c, .int .u32 G1.d, .int .u32 G1.e, .int .u32 G1.f, .int .u32 G1.g, .int .u32 G1.h, (.slice ax1 R1.length cx1), .int .i64 (M1 : Int)] 27)
  have hr10 := Lib.hid (heap_alloc_new w4 (.cells #[.int .u32 G1.a, .int .u32 G1.b, .int .u32 G1.c, .int .u32 G1.d, .int .u32 G1.e, .int .u32 G1.f, .int .u32 G1.g, .int .u32 G1.h, (.slice ax1 R1.length cx1), .int .i64 (M1 : Int)] 27))
  replace hS := Lib.hid (hS.out.trans (h9.mono hS.out.size))
  replace hr0 := Lib.hid (rowD hr0.out h9)
  replace hra := Lib.hid (hra.out.mono h9)
  replace hrb := Lib.hid (hrb.out.mono h9)
  replace hGw := Lib.hid (hGw.out.mono h9)
  replace hr9 := Lib.hid (rowD hr9.out h9)
  replace hox1 := Lib.hid (hox1.out.mono h9)
  clear h9
  generalize w4.heap.size = g10 at *
  generalize w4.alloc (.cells #[.int .u32 G1.a, .int .u32 G1.b, .int .u32 G1.c, .int .u32 G1.d, .int .u32 G1.e, .int .u32 G1.f, .int .u32 G1.g, .int .u32 G1.h, (.slice ax1 R1.length cx1), .int .i64 (M1 : Int)] 27) = w5 at *
  have q1 := hp.out.a2 _ _ w5 hox1.out hrb.out hGw.out
  unfold millV at q1
  replace q1 := Lib.hid q1
  go_wp2_with (first | (refine wpList_load_row_g rfl 27 _ rfl g10 rfl 27 #[.int .u32 G1.a, .int .u32 G1.b, .int .u32 G1.c, .int .u32 G1.d, .int .u32 G1.e, .int .u32 G1.f, .int .u32 G1.g, .int .u32 G1.h, (.slice ax1 R1.length cx1), .int .i64 (M1 : Int)] (0, 0) _ hr10.out Tryd.underlying27 rfl (by kernel_rfl) ?_) | (go_at_call 7; (with_reducible refine (q1.out).mono ?_); rintro e w6 ⟨x2, rfl, h8, h9⟩; replace hS := Lib.hid (hS.out.trans (h9.mono hS.out.size)); replace hr0 := Lib.hid (rowD hr0.out h9); replace hra := Lib.hid (hra.out.mono h9); replace hrb := Lib.hid (hrb.out.mono h9); replace hGw := Lib.hid (hGw.out.mono h9); replace hr9 := Lib.hid (rowD hr9.out h9); replace hox1 := Lib.hid (hox1.out.mono h9); replace hr10 := Lib.hid (rowD hr10.out h9); have hox2 := Lib.hid h8.rd; obtain ⟨ax2, cx2, rfl⟩ := hox2.out.slice; clear h8; clear h9; refine Stop.go'' _ ?_))
  refine StopP.go ?_
  clear q1
  go_upto_region 6 with fail
  have h9 := below_aD w6 (.cells #[.int .u32 G2.a, .int .u32 G2.b, .int .u32 G2.c, .int .u32 G2.d, .int .u32 G2.e, .int .u32 G2.f, .int .u32 G2.g, .int .u32 G2.h, (.slice ax2 R2.length cx2), .int .i64 (M2 : Int)] 27)
  have hr12 := Lib.hid (heap_alloc_new w6 (.cells #[.int .u32 G2.a, .int .u32 G2.b, .int .u32 G2.c, .int .u32 G2.d, .int .u32 G2.e, .int .u32 G2.f, .int .u32 G2.g, .int .u32 G2.h, (.slice ax2 R2.length cx2), .int .i64 (M2 : Int)] 27))
  replace hS := Lib.hid (hS.out.trans (h9.mono hS.out.size))
  replace hr0 := Lib.hid (rowD hr0.out h9)
  replace hra := Lib.hid (hra.out.mono h9)
  replace hrb := Lib.hid (hrb.out.mono h9)
  replace hGw := Lib.hid (hGw.out.mono h9)
  replace hr9 := Lib.hid (rowD hr9.out h9)
  replace hox1 := Lib.hid (hox1.out.mono h9)
  replace hr10 := Lib.hid (rowD hr10.out h9)
  replace hox2 := Lib.hid (hox2.out.mono h9)
  clear h9
  generalize w6.heap.size = g12 at *
  generalize w6.alloc (.cells #[.int .u32 G2.a, .int .u32 G2.b, .int .u32 G2.c, .int .u32 G2.d, .int .u32 G2.e, .int .u32 G2.f, .int .u32 G2.g, .int .u32 G2.h, (.slice ax2 R2.length cx2), .int .i64 (M2 : Int)] 27) = w7 at *
  go_cut [14, 15] (fun p e wz => ∃ (g14 : Nat) (y3 : Option Addr) (d3 : Nat), p = .pointer (some ⟨g14, 0, none⟩) ∧ e = .int .i64 0 ∧ wz.heap[g14]? = some (.cells #[.int .u32 G2.a, .int .u32 G2.b, .int .u32 G2.c, .int .u32 G2.d, .int .u32 G2.e, .int .u32 G2.f, .int .u32 G2.g, .int .u32 G2.h, (.slice y3 R2.length d3), .int .i64 (M2 : Int)] 27 (0, 0)) ∧ RdB wz (.slice y3 R2.length d3) R2 ∧ Below w7.heap.size w7 wz)
  case first =>
    refine wp_region_fxu 12 onA onU onF (by kernel_rfl) (by kernel_rfl) (by kernel_rfl) (onΦ w7.heap.size V G2 M M2 la lb R2 (.slice a A c) (.slice b B d)) (onG w7.heap.size) (fun wz => Below w7.heap.size w7 wz) (fun _ _ => True) ((Below.refl _ _).drew) (fun _ _ => trivial) (fun i w w' hi h hg => h.trans hg.1) (fun j vs vs' w hj he h => on_congr j vs vs' w hj he h) (fun i j vs w w' hi hj ha hn hinv h hg => on_keep i j vs w w' hi hj ha hn h hg) (fun _ _ _ _ _ _ _ _ _ _ => trivial) ?hstep ?hdone
    case hstep =>
      intro i op vs wz hi hop hinv hpre hd
      match i, hi with
      | 0, _ =>
        simp only [List.getElem?_toArray, List.getElem?_cons_zero, List.getElem?_cons_succ, Option.some.injEq] at hop
        subst hop
        generalize hfr : fxF _ vs fxT _ 0 = fr
        have e : fr.eval (.tmp 9) = .pointer (some ⟨g9, 0, none⟩) := by rw [← hfr]; exact fx_old 0 (by kernel_rfl)
        clear hfr
        refine fx_val (v := (millV V (.slice none 0 0) M)) (w' := wz) rfl ?_ ⟨rfl, onG_same _ _ _⟩
        unfold execOp
        generalize fr.eval = ev at e ⊢
        simp only [e, Instr.loadAt, Instr.sureAddr, Sem.run_bind, Sem.run_pure, Result.andThen_ok, run_loadVar_row wz g9 27 27 #[.int .u32 V.a, .int .u32 V.b, .int .u32 V.c, .int .u32 V.d, .int .u32 V.e, .int .u32 V.f, .int .u32 V.g, .int .u32 V.h, (.slice none 0 0), .int .i64 (M : Int)] (0, 0) _ (rowD hr9.out hinv) Tryd.underlying27 rfl (by kernel_rfl)]
        rfl
      | 1, _ =>
        simp only [List.getElem?_toArray, List.getElem?_cons_zero, List.getElem?_cons_succ, Option.some.injEq] at hop
        subst hop
        refine fx_val (v := .slice (some ⟨wz.heap.size, 0, none⟩) 0 0) (w' := wz.alloc (.cells #[] 5)) rfl ?_ ⟨own_lit0 (heap_alloc_new wz _) hinv.size, onG_below hinv.size (below_aD _ _)⟩
        generalize fxF _ vs fxT _ 1 = fr
        unfold execOp
        generalize fr.eval = ev
        simp [go_sem]
      | 2, _ =>
        simp only [List.getElem?_toArray, List.getElem?_cons_zero, List.getElem?_cons_succ, Option.some.injEq] at hop
        subst hop
        generalize hfr : fxF _ vs fxT _ 2 = fr
        have e : fr.eval (.tmp 2) = .slice a A c := by rw [← hfr]; exact fx_old 2 (by kernel_rfl)
        clear hfr
        refine fx_move (.tmp 2) rfl rfl ⟨e, onG_same _ _ _⟩
      | 3, _ =>
        simp only [List.getElem?_toArray, List.getElem?_cons_zero, List.getElem?_cons_succ, Option.some.injEq] at hop
        subst hop
        have h1 : OwnB w7.heap.size 5 wz (vs 1) [] := hd 1 (by decide)
        have h2 : vs 2 = .slice a A c := hd 2 (by decide)
        generalize hfr : fxF _ vs fxT _ 3 = fr
        have e1 : fr.eval (.tmp 56) = vs 1 := by rw [← hfr]; exact (fx_new (by simp) 3 (by kernel_rfl)).trans rfl
        have e2 : fr.eval (.tmp 57) = .slice a A c := by rw [← hfr]; exact (fx_new (by simp) 3 (by kernel_rfl)).trans h2
        clear hfr
        obtain ⟨v', w', hrun, o1, o2⟩ := run_appendB wz w7.heap.size 24 24 5 Tryd.underlying24 (by kernel_rfl) (vs 1) [] h1 (.slice a A c) la (hra.out.mono hinv) (by rw [hA'.out]; simp; omega) hinv.size
        exact fxu_append2 (.tmp 56) (.tmp 57) 24 rfl rfl e1 e2 hrun ⟨o1, onG_grown (.inl rfl) h1 o2 hinv.size⟩
      | 4, _ =>
        simp only [List.getElem?_toArray, List.getElem?_cons_zero, List.getElem?_cons_succ, Option.some.injEq] at hop
        subst hop
        generalize hfr : fxF _ vs fxT _ 4 = fr
        have e : fr.eval (.tmp 3) = .slice b B d := by rw [← hfr]; exact fx_old 4 (by kernel_rfl)
        clear hfr
        refine fx_move (.tmp 3) rfl rfl ⟨e, onG_same _ _ _⟩
      | 5, _ =>
        simp only [List.getElem?_toArray, List.getElem?_cons_zero, List.getElem?_cons_succ, Option.some.injEq] at hop
        subst hop
        have h1 : OwnB w7.heap.size 5 wz (vs 3) la := hd 3 (by decide)
        have h2 : vs 4 = .slice b B d := hd 4 (by decide)
        generalize hfr : fxF _ vs fxT _ 5 = fr
        have e1 : fr.eval (.tmp 58) = vs 3 := by rw [← hfr]; exact (fx_new (by simp) 5 (by kernel_rfl)).trans rfl
        have e2 : fr.eval (.tmp 59) = .slice b B d := by rw [← hfr]; exact (fx_new (by simp) 5 (by kernel_rfl)).trans h2
        clear hfr
        obtain ⟨v', w', hrun, o1, o2⟩ := run_appendB wz w7.heap.size 24 24 5 Tryd.underlying24 (by kernel_rfl) (vs 3) la h1 (.slice b B d) lb (hrb.out.mono hinv) (by rw [hA'.out, hB'.out]; omega) hinv.size
        exact fxu_append2 (.tmp 58) (.tmp 59) 24 rfl rfl e1 e2 hrun ⟨o1, onG_grown (.inr rfl) h1 o2 hinv.size⟩
      | 6, _ =>
        simp only [List.getElem?_toArray, List.getElem?_cons_zero, List.getElem?_cons_succ, Option.some.injEq] at hop
        subst hop
        have h0 : vs 0 = (millV V (.slice none 0 0) M) := hd 0 (by decide)
        have h5 : OwnB w7.heap.size 5 wz (vs 5) (la ++ lb) := hd 5 (by decide)
        generalize hfr : fxF _ vs fxT _ 6 = fr
        have e0 : fr.eval (.tmp 55) = (millV V (.slice none 0 0) M) := by rw [← hfr]; exact (fx_new (by simp) 6 (by kernel_rfl)).trans h0
        have e5 : fr.eval (.tmp 60) = vs 5 := by rw [← hfr]; exact (fx_new (by simp) 6 (by kernel_rfl)).trans rfl
        clear hfr
        refine fx_call #[(millV V (.slice none 0 0) M), vs 5] rfl rfl Tryd.func7 (by kernel_rfl) rfl (by simp [e0, e5]) rfl ((hp.out.a3 _ wz h5.rd (hGw.out.mono hinv)).mono ?_)
        rintro e9 w9 ⟨r', rfl, z1, z2⟩
        exact ⟨_, rfl, ⟨r', rfl, z1.mono hinv.size⟩, onG_below hinv.size z2⟩
      | 7, _ =>
        simp only [List.getElem?_toArray, List.getElem?_cons_zero, List.getElem?_cons_succ, Option.some.injEq] at hop
        subst hop
        obtain ⟨r, hv, hr⟩ := on_at6 (hd 6 (by decide))
        generalize hfr : fxF _ vs fxT _ 7 = fr
        have e : fr.eval (.tmp 61) = .tuple #[millV G2 r M2, .int .i64 0] := by rw [← hfr]; exact (fx_new (by simp) 7 (by kernel_rfl)).trans hv
        clear hfr
        refine fx_move (.tmp 61) rfl rfl ?_
        rw [e]
        exact ⟨⟨r, rfl, hr⟩, onG_same _ _ _⟩
      | 8, _ =>
        simp only [List.getElem?_toArray, List.getElem?_cons_zero, List.getElem?_cons_succ, Option.some.injEq] at hop
        subst hop
        generalize hfr : fxF _ vs fxT _ 8 = fr
        have e : fr.eval (.tmp 54) = vs 7 := by rw [← hfr]; exact (fx_new (by simp) 8 (by kernel_rfl)).trans rfl
        clear hfr
        exact on_step8 rfl rfl e (hd 7 (by decide))
      | 9, _ =>
        simp only [List.getElem?_toArray, List.getElem?_cons_zero, List.getElem?_cons_succ, Option.some.injEq] at hop
        subst hop
        generalize hfr : fxF _ vs fxT _ 9 = fr
        have e : fr.eval (.tmp 54) = vs 7 := by rw [← hfr]; exact (fx_new (by simp) 9 (by kernel_rfl)).trans rfl
        clear hfr
        exact on_step9 rfl rfl e (hd 7 (by decide))
      | 10, _ =>
        simp only [List.getElem?_toArray, List.getElem?_cons_zero, List.getElem?_cons_succ, Option.some.injEq] at hop
        subst hop
        refine fx_val (v := .pointer (some ⟨wz.heap.size, 0, none⟩)) (w' := wz.alloc (.cells #[.int .u32 0, .int .u32 0, .int .u32 0, .int .u32 0, .int .u32 0, .int .u32 0, .int .u32 0, .int .u32 0, .slice none 0 0, .int .i64 0] 27)) rfl ?_ ⟨⟨_, rfl, hinv.size, heap_alloc_new wz _⟩, onG_below hinv.size (below_aD _ _)⟩
        generalize fxF _ vs fxT _ 10 = fr
        unfold execOp
        generalize fr.eval = ev
        simp [go_sem]
      | 11, _ =>
        simp only [List.getElem?_toArray, List.getElem?_cons_zero, List.getElem?_cons_succ, Option.some.injEq] at hop
        subst hop
        generalize hfr : fxF _ vs fxT _ 11 = fr
        have e1 : fr.eval (.tmp 14) = vs 10 := by rw [← hfr]; exact (fx_new (by simp) 11 (by kernel_rfl)).trans rfl
        have e2 : fr.eval (.tmp 62) = vs 8 := by rw [← hfr]; exact (fx_new (by simp) 11 (by kernel_rfl)).trans rfl
        clear hfr
        exact on_step11 rfl rfl e1 e2 (hd 8 (by decide)) (hd 10 (by decide))
      | i' + 12, hi' => exact absurd hi' (by omega)
    case hdone =>
      intro vs w5 hinv hf
      have h9 : vs 9 = .int .i64 0 := hf 9 (by decide) (by decide)
      obtain ⟨g, r, h10, hr, hrow⟩ := on_at11 (hf 11 (by decide) (by decide))
      obtain ⟨ra, rc, rfl⟩ := hr.rd.slice
      simp only [fxF, fxT, if_true, List.drop_succ_cons, List.drop_zero, List.getElem?_toArray, List.getElem?_cons_zero, List.getElem?_cons_succ, Option.bind_some]
      rw [h9, h10]
      have hrd := Lib.hid hr.rd
      have hbs := Lib.hid hinv
      have hrw := Lib.hid hrow
      clear hf h9 h10 hinv hr hrow
      generalize vs 0 = z0 at *
      generalize vs 1 = z1 at *
      generalize vs 2 = z2 at *
      generalize vs 3 = z3 at *
      generalize vs 4 = z4 at *
      generalize vs 5 = z5 at *
      generalize vs 6 = z6 at *
      generalize vs 7 = z7 at *
      generalize vs 8 = z8 at *
      generalize vs 11 = z11 at *
      go_wp2_with fail
      go_meet
      exact ⟨_, _, _, rfl, rfl, hrw.out, hrd.out, hbs.out⟩
  case rest =>
    obtain ⟨g14, ay3, cy3, rfl, rfl, e1, e2, h9⟩ := hcut
    replace hS := Lib.hid (hS.out.trans (h9.mono hS.out.size))
    replace hr0 := Lib.hid (rowD hr0.out h9)
    replace hra := Lib.hid (hra.out.mono h9)
    replace hrb := Lib.hid (hrb.out.mono h9)
    replace hGw := Lib.hid (hGw.out.mono h9)
    replace hr9 := Lib.hid (rowD hr9.out h9)
    replace hox1 := Lib.hid (hox1.out.mono h9)
    replace hr10 := Lib.hid (rowD hr10.out h9)
    replace hox2 := Lib.hid (hox2.out.mono h9)
    replace hr12 := Lib.hid (rowD hr12.out h9)
    have hr14 := Lib.hid e1
    have hox3 := Lib.hid e2
    clear e1 e2 h9
    have q1 := hp.out.en _ wc hox2.out hGw.out
    unfold millV at q1
    replace q1 := Lib.hid q1
    have di := Lib.hid (show (Tryd.prog.info? 32).map (·.size) = some (u8s D).size by rw [u8s_size, hp.out.dl]; kernel_rfl)
    have ds := Lib.hid (show 32 = (u8s D).size by rw [u8s_size, hp.out.dl])
    go_wp2_with (first | (refine wpList_load_row_g rfl 27 _ rfl g12 rfl 27 #[.int .u32 G2.a, .int .u32 G2.b, .int .u32 G2.c, .int .u32 G2.d, .int .u32 G2.e, .int .u32 G2.f, .int .u32 G2.g, .int .u32 G2.h, (.slice ax2 R2.length cx2), .int .i64 (M2 : Int)] (0, 0) _ hr12.out Tryd.underlying27 rfl (by kernel_rfl) ?_) | (go_at_call 8; (with_reducible refine (q1.out).mono ?_); rintro e w8 ⟨rfl, h9⟩; replace hS := Lib.hid (hS.out.trans (h9.mono hS.out.size)); replace hr0 := Lib.hid (rowD hr0.out h9); replace hra := Lib.hid (hra.out.mono h9); replace hrb := Lib.hid (hrb.out.mono h9); replace hGw := Lib.hid (hGw.out.mono h9); replace hr9 := Lib.hid (rowD hr9.out h9); replace hox1 := Lib.hid (hox1.out.mono h9); replace hr10 := Lib.hid (rowD hr10.out h9); replace hox2 := Lib.hid (hox2.out.mono h9); replace hr12 := Lib.hid (rowD hr12.out h9); replace hr14 := Lib.hid (rowD hr14.out h9); replace hox3 := Lib.hid (hox3.out.mono h9); clear h9) | (refine storeNew w8 rfl 32 _ _ rfl (u8s D) 32 rfl rfl di.out (Eq.trans (by kernel_rfl) ds.out) (u8s_one _) ?_; intro w10 hr h9; replace hS := Lib.hid (hS.out.trans (h9.mono hS.out.size)); replace hr0 := Lib.hid (rowD hr0.out h9); replace hra := Lib.hid (hra.out.mono h9); replace hrb := Lib.hid (hrb.out.mono h9); replace hGw := Lib.hid (hGw.out.mono h9); replace hr9 := Lib.hid (rowD hr9.out h9); replace hox1 := Lib.hid (hox1.out.mono h9); replace hr10 := Lib.hid (rowD hr10.out h9); replace hox2 := Lib.hid (hox2.out.mono h9); replace hr12 := Lib.hid (rowD hr12.out h9); replace hr14 := Lib.hid (rowD hr14.out h9); replace hox3 := Lib.hid (hox3.out.mono h9); have hr16 := Lib.hid hr; clear hr h9; refine Stop.go'' _ ?_))
    refine StopP.go ?_
    clear q1
    go_upto_region 8 with fail
    generalize w8.heap.size = g16 at *
    clear w8
    have q1 := hp.out.en _ w10 hox3.out hGw.out
    unfold millV at q1
    replace q1 := Lib.hid q1
    go_wp2_with (first | (refine wpList_load_row_g rfl 27 _ rfl g14 rfl 27 #[.int .u32 G2.a, .int .u32 G2.b, .int .u32 G2.c, .int .u32 G2.d, .int .u32 G2.e, .int .u32 G2.f, .int .u32 G2.g, .int .u32 G2.h, (.slice ay3 R2.length cy3), .int .i64 (M2 : Int)] (0, 0) _ hr14.out Tryd.underlying27 rfl (by kernel_rfl) ?_) | (go_at_call 8; (with_reducible refine (q1.out).mono ?_); rintro e w11 ⟨rfl, h9⟩; replace hS := Lib.hid (hS.out.trans (h9.mono hS.out.size)); replace hr0 := Lib.hid (rowD hr0.out h9); replace hra := Lib.hid (hra.out.mono h9); replace hrb := Lib.hid (hrb.out.mono h9); replace hGw := Lib.hid (hGw.out.mono h9); replace hr9 := Lib.hid (rowD hr9.out h9); replace hox1 := Lib.hid (hox1.out.mono h9); replace hr10 := Lib.hid (rowD hr10.out h9); replace hox2 := Lib.hid (hox2.out.mono h9); replace hr12 := Lib.hid (rowD hr12.out h9); replace hr14 := Lib.hid (rowD hr14.out h9); replace hox3 := Lib.hid (hox3.out.mono h9); replace hr16 := Lib.hid (rowD hr16.out h9); clear h9) | (refine storeNew w11 rfl 32 _ _ rfl (u8s D) 32 rfl rfl di.out (Eq.trans (by kernel_rfl) ds.out) (u8s_one _) ?_; intro w12 hr h9; replace hS := Lib.hid (hS.out.trans (h9.mono hS.out.size)); replace hr0 := Lib.hid (rowD hr0.out h9); replace hra := Lib.hid (hra.out.mono h9); replace hrb := Lib.hid (hrb.out.mono h9); replace hGw := Lib.hid (hGw.out.mono h9); replace hr9 := Lib.hid (rowD hr9.out h9); replace hox1 := Lib.hid (hox1.out.mono h9); replace hr10 := Lib.hid (rowD hr10.out h9); replace hox2 := Lib.hid (hox2.out.mono h9); replace hr12 := Lib.hid (rowD hr12.out h9); replace hr14 := Lib.hid (rowD hr14.out h9); replace hox3 := Lib.hid (hox3.out.mono h9); replace hr16 := Lib.hid (rowD hr16.out h9); have hr18 := Lib.hid hr; clear hr h9; refine Stop.go'' _ ?_))
    refine StopP.go ?_
    clear q1
    go_upto_region 9 with fail
    generalize w11.heap.size = g18 at *
    clear w11
    go_upto_region 10 with fail
    obtain ⟨m, hmm⟩ : ∃ m, m = 64 * (A / 64) := ⟨_, rfl⟩
    rw [show (A : Int) / 64 * 64 = (m : Int) by omega]
    have hR1 := hp.out.r1
    rw [hA'.out, ← hmm] at hR1
    have hmA : m ≤ A := by omega
    have hsm := Lib.hid (fun (w' : World) (h : Below w12.heap.size w12 w') => hp.out.sm _ _ w' (hox2.out.mono h) (hox3.out.mono h))
    have hal := Lib.hid (fun (w' : World) (h : Below w12.heap.size w12 w') => hp.out.al w' (hGw.out.mono h))
    have hsb := Lib.hid (fun (w' : World) (v : Value) (h : Below w12.heap.size w12 w') (h2 : RdB w' v R1) => hp.out.sb _ v w' (hox1.out.mono h) h2)
    unfold millV at hsm
    replace hmm := Lib.hid hmm
    have hN := hp.out.m1
    rw [hA'.out] at hN
    have hN1 : (64 : Int) * (K : Int) + (A : Int) = (M1 : Int) := by rw [hm.out]; exact hN.symm
    have hw1 : IntKind.i64.wrap (64 * (K : Int)) = 64 * (K : Int) := IntWalk.i64_in _ (by omega)
    have hw2 : IntKind.i64.wrap (64 * (K : Int) + (A : Int)) = (M1 : Int) := by rw [hN1]; exact IntWalk.i64_in _ (by omega)
    have hb9 := Lib.hid (show ∀ w', Below w12.heap.size w12 w' → w'.cell? ⟨g10, 9, none⟩ = some (.int .i64 (M1 : Int)) from fun w' h => by rw [cell_of_row _ _ _ _ _ _ (rowD hr10.out h)]; rfl)
    have hb8 := Lib.hid (show ∀ w', Below w12.heap.size w12 w' → w'.cell? ⟨g10, 8, none⟩ = some (.slice ax1 R1.length cx1) from fun w' h => by rw [cell_of_row _ _ _ _ _ _ (rowD hr10.out h)]; rfl)
    obtain ⟨sa, hsl, hrs0⟩ := sliceKD hra.out hA'.out m hmA
    rw [← hR1] at hsl hrs0
    replace hsl := Lib.hid hsl
    have hrs := Lib.hid (fun (w' : World) (h : Below w12.heap.size w12 w') => hrs0.mono h)
    clear hrs0 hR1
    refine wp_region_quiet (C := fun w' => Below w12.heap.size w12 w') (by kernel_rfl) (by kernel_rfl) ((Below.refl _ _).drew) ?_
    simp only [List.toList_toArray]
    repeat (first | (refine wpq _ rfl (quiet_row 27 _ rfl (g12) rfl 27 (#[.int .u32 G2.a, .int .u32 G2.b, .int .u32 G2.c, .int .u32 G2.d, .int .u32 G2.e, .int .u32 G2.f, .int .u32 G2.g, .int .u32 G2.h, (.slice ax2 R2.length cx2), .int .i64 (M2 : Int)]) (0, 0) _ (fun w h => rowD hr12.out h) Tryd.underlying27 rfl (by kernel_rfl)) rfl (fun K hK => ?_); go_simp; refine hK _ ?_; clear hK K) | (refine wpq _ rfl (quiet_row 27 _ rfl (g14) rfl 27 (#[.int .u32 G2.a, .int .u32 G2.b, .int .u32 G2.c, .int .u32 G2.d, .int .u32 G2.e, .int .u32 G2.f, .int .u32 G2.g, .int .u32 G2.h, (.slice ay3 R2.length cy3), .int .i64 (M2 : Int)]) (0, 0) _ (fun w h => rowD hr14.out h) Tryd.underlying27 rfl (by kernel_rfl)) rfl (fun K hK => ?_); go_simp; refine hK _ ?_; clear hK K) | (refine wpq _ rfl (quiet_row 32 _ rfl (g16) rfl 32 (u8s D) (0, 0) _ (fun w h => rowD hr16.out h) Tryd.underlying32 rfl di.out) rfl (fun K hK => ?_); go_simp; refine hK _ ?_; clear hK K) | (refine wpq _ rfl (quiet_row 32 _ rfl (g18) rfl 32 (u8s D) (0, 0) _ (fun w h => rowD hr18.out h) Tryd.underlying32 rfl di.out) rfl (fun K hK => ?_); go_simp; refine hK _ ?_; clear hK K) | (refine wpq _ rfl (quiet_cellD 3 _ rfl g10 9 rfl (.int .i64 (M1 : Int)) (fun w h => hb9.out w h) Tryd.isAgg3) rfl (fun K hK => ?_); go_simp; refine hK _ ?_; clear hK K) | (refine wpq _ rfl (quiet_cellD 24 _ rfl g10 8 rfl (.slice ax1 R1.length cx1) (fun w h => hb8.out w h) Tryd.isAgg24) rfl (fun K hK => ?_); go_simp; refine hK _ ?_; clear hK K) | (refine wpq (.bool true) rfl (qa_eqlID _ _ D hp.out.dl rfl rfl rfl) rfl (fun K hK => ?_); go_simp; refine hK _ ?_; clear hK K) | (refine wpq (.bool true) rfl (quiet_call2 rfl Tryd.func9 (by kernel_rfl) rfl (.agg #[.int .u32 G2.a, .int .u32 G2.b, .int .u32 G2.c, .int .u32 G2.d, .int .u32 G2.e, .int .u32 G2.f, .int .u32 G2.g, .int .u32 G2.h, (.slice ax2 R2.length cx2), .int .i64 (M2 : Int)]) (.agg #[.int .u32 G2.a, .int .u32 G2.b, .int .u32 G2.c, .int .u32 G2.d, .int .u32 G2.e, .int .u32 G2.f, .int .u32 G2.g, .int .u32 G2.h, (.slice ay3 R2.length cy3), .int .i64 (M2 : Int)]) (.bool true) rfl rfl rfl (fun w9 h => (hsm.out w9 h).mono fun e w' ⟨he, hd⟩ => ⟨he, h.trans (hd.mono h.size)⟩)) rfl (fun K hK => ?_); go_simp; refine hK _ ?_; clear hK K) | (refine wpq (.bool true) rfl (quiet_call2 rfl Tryd.func10 (by kernel_rfl) rfl (.slice ax1 R1.length cx1) (.slice sa R1.length (c - m)) (.bool true) rfl rfl rfl (fun w9 h => (hsb.out w9 _ h (hrs.out w9 h)).mono fun e w' ⟨he, hd⟩ => ⟨he, h.trans (hd.mono h.size)⟩)) rfl (fun K hK => ?_); go_simp; refine hK _ ?_; clear hK K) | (refine wpq (.bool true) rfl (qa_call0 rfl Tryd.func6 (by kernel_rfl) rfl rfl (fun w9 h => (hal.out w9 h).mono fun e w' ⟨he, hd⟩ => ⟨he, h.trans (hd.mono h.size)⟩)) rfl (fun K hK => ?_); go_simp; refine hK _ ?_; clear hK K) | (refine wpq (.slice sa R1.length (c - m)) rfl (qa_cutD 24 (.tmp 119) (.tmp 120) rfl Tryd.underlying24 (by kernel_rfl) a A c rfl m rfl hmA _ hsl.out) rfl (fun K hK => ?_); go_simp; refine hK _ ?_; clear hK K) | go_big_quiet_skip | (go_big_quiet_want; go_big_quiet_op; first | go_big_quiet_on | (refine ⟨_, fun _ _ => rfl, ?_⟩; go_big_quiet_on)))
    refine wpQuiet_nil ?_
    intro w13 h13
    have hfin := Lib.hid (hS.out.trans (h13.mono hS.out.size))
    clear h13
    go_wp2
    go_ret
    exact ⟨rfl, hfin.out⟩
end Go.Proofs.YtfaojjleapenaabDoor
namespace Go.Proofs.YtfaojjleapenaabDoor
open Go.ChangeShapes Go.WideShapes Go.ChangeAt Go.WideMaps Go.WideElems Go.RowKit Go.YtfaojjleapenaabDoor
set_option linter.unusedVariables false
theorem own : ownKnob Tryd.prog.godebug = none := by kernel_rfl
theorem laidOut : laidOutB Tryd.prog = true := by kernel_rfl
theorem gFirst : Tryd.prog.globalNamed "braid/digest.firstWords" = some 0 := by kernel_rfl
theorem gConst : Tryd.prog.globalNamed "braid/digest.constants" = some 2 := by kernel_rfl
theorem tFirst : (Tryd.prog.globals[0]?).map (·.type) = some 23 := by kernel_rfl
theorem tConst : (Tryd.prog.globals[2]?).map (·.type) = some 70 := by kernel_rfl
def laidL : List (String × DataW Unit) := [("braid/digest.firstWords", Rows.laid_braid_digest_firstWords), ("braid/digest.constants", Rows.laid_braid_digest_constants)]
section
variable {H : Type} {enc : TypeId × Value → H} {P : Program} {w : World} {base : Nat} {sp : Nat → Bool} {held : Bool}
def theInt : Value → Int
  | .int _ k => k
  | _ => 0
theorem trod_ints {fuel : Nat} {t e : TypeId} {n : Nat} {kd : IntKind} {cs : List Value} {x : DataW H × List MemPlace} (ht : P.underlying t = some (.array n e)) (he : P.underlying e = some (.int kd)) (hc : P.cellsOf e = 1) (hct : P.cellsOf t = n)
    (h : DataW.trod enc P w base sp held fuel t cs = some x) : ∃ ks : List Int, cs = ks.map (Value.int kd) ∧ ks.length = n ∧ (∀ k ∈ ks, (Lit.int kd k).wf = true) ∧ x.1 = .agg (ks.map fun k => .lit (.int kd k)) := by
  obtain ⟨xs, m, rfl, rfl, hl, hn, hel⟩ := DataW.trod_array ht h
  have hlen : cs.length = n := hl.trans hct
  have key : ∀ i, i < n → ∃ k, cs[i]? = some (.int kd k) ∧ (Lit.int kd k).wf = true ∧ xs[i]? = some (.lit (.int kd k), []) := by
    intro i hi
    have hx : xs[i]? = some xs[i] := List.getElem?_eq_getElem (by omega)
    have h1 := hel i hi
    rw [hc, Nat.mul_one, hx] at h1
    obtain ⟨k, e1, e2, e3⟩ := DataW.trod_int he h1
    refine ⟨k, ?_, e3, by rw [hx, e2]⟩
    have e4 : ((cs.drop i).take 1)[0]? = some (.int kd k) := by rw [e1]; rfl
    simpa [List.getElem?_take, List.getElem?_drop] using e4
  refine ⟨cs.map theInt, ?_, by simp [hlen], ?_, ?_⟩
  · apply List.ext_getElem?
    intro i
    by_cases hi : i < n
    · obtain ⟨k, e1, _, _⟩ := key i hi
      simp [e1, theInt]
    · rw [List.getElem?_eq_none (by omega), List.getElem?_eq_none (by simp; omega)]
  · intro k hk
    obtain ⟨i, hi, rfl⟩ := List.getElem_of_mem hk
    have hi' : i < n := by simpa [hlen] using hi
    obtain ⟨k, e1, e2, _⟩ := key i hi'
    have : (cs.map theInt)[i]? = some k := by simp [e1, theInt]
    rw [List.getElem?_eq_getElem hi] at this
    rw [Option.some.inj this]; exact e2
  · show DataW.agg _ = DataW.agg _
    congr 1
    apply List.ext_getElem?
    intro i
    by_cases hi : i < n
    · obtain ⟨k, e1, _, e3⟩ := key i hi
      simp [e1, e3, theInt]
    · rw [List.getElem?_eq_none (by simp; omega), List.getElem?_eq_none (by simp; omega)]
/-- An array of integers by value, opened. -/
theorem open_arrI {r : Reach} {b0 : Nat} {t e : TypeId} {n : Nat} {kd : IntKind} {v : Value} {d : DataW H} {p : List MemPlace} (ht : P.underlying t = some (.array n e)) (he : P.underlying e = some (.int kd)) (hc : P.cellsOf e = 1) (hct : P.cellsOf t = n)
    (hv : Value.okWide P w r b0 t v) (h : DataW.Trod enc P w base sp held t v d p) : ∃ ks : List Int, v = .agg (ks.map (Value.int kd)).toArray ∧ ks.length = n ∧ ∀ k ∈ ks, (Lit.int kd k).wf = true := by
  unfold Value.okWide at hv
  rw [ht] at hv
  obtain ⟨cs, rfl, _, _⟩ := hv
  obtain ⟨fuel, hf⟩ := h
  obtain ⟨ks, e1, e2, e3, _⟩ := trod_ints ht he hc hct hf
  refine ⟨ks, ?_, e2, e3⟩
  rw [← e1]; rfl
theorem trodAll_stays (hl : laidOutB P = true) {W W' : World} {sp' : Nat → Bool} : ∀ {ts : List TypeId} {vs : List Value} {ds : List (DataW H)} {ps : List MemPlace}, (∀ t ∈ ts, P.readableRec t = true ∧ t < P.types.size) →
    DataW.TrodAll enc P W base (fun _ => true) true ts vs ds ps → (∀ p ∈ ps, W.sameAt W' p) → (∀ p ∈ ps, sp' p.block = true) → DataW.TrodAll enc P W' base sp' true ts vs ds ps
  | [], [], [], _, _, h, _, _ => h
  | [], [], _ :: _, _, _, h, _, _ => h.elim
  | [], _ :: _, _, _, _, h, _, _ => by cases ‹List (DataW H)› <;> exact h.elim
  | _ :: _, [], _, _, _, h, _, _ => by cases ‹List (DataW H)› <;> exact h.elim
  | _ :: _, _ :: _, [], _, _, h, _, _ => h.elim
  | t :: ts, v :: vs, d :: ds, ps, ht, h, hs, hp => by
    obtain ⟨p, q, h1, h2, rfl⟩ := h
    obtain ⟨r1, r2⟩ := ht t List.mem_cons_self
    exact ⟨p, q, Trod_stays hl r1 r2 h1 (fun x hx => hs x (List.mem_append_left _ hx)) (fun x hx => hp x (List.mem_append_left _ hx)),
      trodAll_stays hl (fun u hu => ht u (List.mem_cons_of_mem _ hu)) h2 (fun x hx => hs x (List.mem_append_right _ hx)) (fun x hx => hp x (List.mem_append_right _ hx)), rfl⟩
/-- A law's end: true, in a world whose old memory is as it was. -/
theorem law_post {f : Func} {s : ChangeSpec} {apart fresh handsOn : Bool} {W W' : World} {args : Array Value} {v : Value} {ds gs : List (DataW H)} {before : List MemPlace} (hl : laidOutB P = true)
    (hts : ∀ t ∈ f.params.toList, P.readableRec t = true ∧ t < P.types.size) (hvs : varsRowed P s.vars = true)
    (hW : DataW.Whole enc P f.params.toList s.vars apart W args.toList ds gs before) (hb : Below W.heap.size W W')
    (hres : ∀ (b : Nat) (sp : Nat → Bool) (hd : Bool), DataW.TrodAll enc P W' b sp hd f.resultTypes.toList (v.resultList f.resultTypes.size) (s.fn H (ds ++ gs)).results [])
    (hargs : (s.fn H (ds ++ gs)).args = ds) (hvars : (s.fn H (ds ++ gs)).vars = gs) :
    s.post enc P f apart fresh handsOn false W args v W' := by
  have hW2 := hW
  have hlt : ∀ p ∈ before, p.block < W.heap.size := fun p hp => hW.lt p hp
  obtain ⟨p, q, hA, hV, rfl, hfz, hnd⟩ := hW
  refine ⟨ds, gs, p ++ q, [], p, q, hW2, hres _ _ _, ?_, ?_, hb.frame _, fun h => by cases h⟩
  · rw [hargs]
    exact trodAll_stays hl hts hA (fun x hx => hb.same (hlt x (List.mem_append_left _ hx))) (fun x hx => by simpa using hlt x (List.mem_append_left _ hx))
  · rw [hvars]
    exact Below.trodVars hl hb hvs hV
end
theorem u32s_of {cs : Array Value} {ks : List Int} (h : cs.toList = ks.map (Value.int .u32)) : cs = u32s ks := by
  apply Array.toList_inj.1
  rw [h]; simp [u32s]
theorem lits_inj : ∀ {a b : List Int}, (a.map fun k => (DataW.lit (.int .u32 k) : DataW Unit)) = b.map (fun k => .lit (.int .u32 k)) → a = b
  | [], [], _ => rfl
  | [], _ :: _, h => by simp at h
  | _ :: _, [], h => by simp at h
  | a :: xs, b :: ys, h => by
    simp only [List.map_cons, List.cons.injEq, DataW.lit.injEq, Lit.int.injEq, true_and] at h
    rw [h.1, lits_inj h.2]
theorem bytes_of {ks : List Int} (h : ∀ k ∈ ks, (Lit.int .u8 k).wf = true) : Bytes ks := by
  intro i
  unfold ith
  cases e : ks[i]? with
  | none => simp
  | some k =>
    have h2 := h k (List.mem_of_getElem? e)
    have h3 : 0 ≤ k ∧ k ≤ 255 := by simpa [Lit.wf, IntKind.min, IntKind.max, IntKind.signed, IntKind.bits] using h2
    show 0 ≤ k ∧ k < 256
    omega
/-- What the condition on the listed variables gives the walks. -/
theorem of_laid {W : World} (h : laidMetH Tryd.prog laidL W) : ∃ Tg Tf : TypeId, W.heap[2]? = some (.cells (u32s constW) Tg (0, 0)) ∧ W.heap[0]? = some (.cells firstW.cells Tf (0, 0)) := by
  rw [MakeChecks.laidMetH_plain _ _ _ (by kernel_rfl)] at h
  obtain ⟨ps, ⟨g0, t0, cs0, f0, p0, q0, hg0, ht0, hv0, hd0, ⟨g1, t1, cs1, f1, p1, q1, hg1, ht1, hv1, hd1, _, eq1⟩, eq0⟩, _, hm⟩ := h
  obtain rfl := Option.some.inj (gFirst.symm.trans hg0)
  obtain rfl := Option.some.inj (gConst.symm.trans hg1)
  obtain rfl := Option.some.inj (tFirst.symm.trans ht0)
  obtain rfl := Option.some.inj (tConst.symm.trans ht1)
  obtain ⟨k0, a0, l0, _, x0⟩ := trod_ints Tryd.underlying23 Tryd.underlying22 (by kernel_rfl) (by kernel_rfl) hd0
  obtain ⟨k1, a1, l1, _, x1⟩ := trod_ints Tryd.underlying70 Tryd.underlying22 (by kernel_rfl) (by kernel_rfl) hd1
  have c0 := u32s_of a0
  have c1 := u32s_of a1
  have d0 : k0 = firstW.list := lits_inj (DataW.agg.inj (x0.symm.trans rfl))
  have d1 : k1 = constW := lits_inj (DataW.agg.inj (x1.symm.trans rfl))
  have z0 : cs0.size = 8 := by rw [c0]; simpa [u32s] using l0
  have z1 : cs1.size = 64 := by rw [c1]; simpa [u32s] using l1
  have m0 := (hm 0 0 (by rw [eq0]; exact List.mem_append_left _ (List.mem_append_left _ (MemPlace.mem_row.2 ⟨0, by omega, rfl⟩)))).1
  have m1 := (hm 2 0 (by rw [eq0, eq1]; exact List.mem_append_right _ (List.mem_append_left _ (List.mem_append_left _ (MemPlace.mem_row.2 ⟨0, by omega, rfl⟩))))).1
  obtain ⟨e0, T0, m0⟩ := m0
  obtain ⟨e1, T1, m1⟩ := m1
  unfold World.var? at hv0 hv1
  rw [gFirst] at hv0
  rw [gConst] at hv1
  simp only [Option.bind_some, m0, m1, Option.some.injEq] at hv0 hv1
  refine ⟨T1, T0, ?_, ?_⟩
  · rw [m1, hv1, c1, d1]
  · rw [m0, hv0, c0, d0]; rfl
/-- The door's own heap meets the condition. -/
theorem door_met (os : Os) (args : Array Value) : laidMetH Tryd.prog laidL ((World.doorLaid Tryd.prog 400 os).forCall (fun _ _ => 0) ⟨#[], args, []⟩).memory :=
  laidMetH_of_parts3 (fuel := 8) (laidMet_of_run' 8 (by kernel_rfl) (by kernel_rfl)) (by kernel_rfl) (by kernel_rfl)
end Go.Proofs.YtfaojjleapenaabDoor
namespace Go.Proofs.YtfaojjleapenaabDoor
open Go.ChangeShapes Go.WideShapes Go.ChangeAt Go.WideMaps Go.WideElems Go.RowKit Go.YtfaojjleapenaabDoor
set_option linter.unusedVariables false
section
variable {H : Type} {enc : TypeId × Value → H} {P : Program} {W : World}
theorem trod_bytes {t e : TypeId} (ht : P.underlying t = some (.slice e)) (he : P.underlying e = some (.int .u8)) (hc : P.cellsOf e = 1) {fuel : Nat} {cs : List Value} {x : DataW H × List MemPlace}
    (h : DataW.trod enc P W 0 (fun _ => true) true fuel t cs = some x) : ∃ v l, cs = [v] ∧ RdB W v l ∧ Bytes l := by
  rcases open_ints ht he hc h with ⟨rfl, _⟩ | ⟨a, len, cap, zs, rfl, hb, hl, hm, hz, _, hcell, hwf⟩
  · exact ⟨_, [], rfl, .inl ⟨none, 0, rfl, fun _ => rfl, rfl⟩, bytes_nil⟩
  · simp only [if_true] at hz
    refine ⟨_, zs.take len, rfl, ?_, bytes_of fun k hk => hwf k (List.mem_of_mem_take hk)⟩
    have hln : (zs.take len).length = len := by rw [List.length_take]; omega
    by_cases h0 : len = 0
    · subst h0
      exact .inl ⟨some a, cap, rfl, (fun h => by cases h), rfl⟩
    · obtain ⟨b, o, spot⟩ := a
      have hspot : spot = none := by simpa [Addr.add] using World.cell?_spot (hcell 0 (by omega))
      subst hspot
      refine .inr ⟨b, o, cap, by rw [hln], by rw [hln]; exact hl, hm, World.block_lt_of_cell? _ _ (hcell 0 (by omega)), fun i hi => ?_⟩
      rw [hln] at hi
      have := hcell i (by omega)
      rw [addr_add] at this
      rw [this]
      simp [ith, List.getD, hi]
theorem open_bytes {t e : TypeId} {v : Value} {d : DataW H} {p : List MemPlace} (ht : P.underlying t = some (.slice e)) (he : P.underlying e = some (.int .u8)) (hc : P.cellsOf e = 1) (hct : P.cellsOf t = 1)
    {r : Reach} {b0 : Nat} (hv : Value.okWide P W r b0 t v) (h : DataW.Trod enc P W 0 (fun _ => true) true t v d p) : ∃ l, RdB W v l ∧ Bytes l := by
  obtain ⟨fuel, hf⟩ := h
  obtain ⟨v', l, h1, h2, h3⟩ := trod_bytes ht he hc hf
  refine ⟨l, ?_, h3⟩
  unfold Value.okWide at hv
  rw [ht] at hv
  simp only [Cell.okWide, ht] at hv
  cases v <;> simp [Cell.ok, ht] at hv
  simp [Value.cells] at h1
  rw [h1]; exact h2
end
end Go.Proofs.YtfaojjleapenaabDoor

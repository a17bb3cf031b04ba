/- Texts that the row stands on, part 13. -/
import Derived.Test.YtlbgffhipondiaaGreatDoorRClosedGq12
namespace Go.Proofs.YtlbgffhipondiaaGreatDoor.wir.val
open Go.RowKit Go.YtlbgffhipondiaaGreatDoor
set_option linter.unusedVariables false
def a2A : List (List Nat) := [[], [], [1], [1, 2], [0, 1, 2, 3], [0, 1, 2, 3, 4], [0, 1, 2, 3, 4, 5], [0, 1, 2, 3, 4, 5], [0, 1, 2, 3, 4, 5], [], [], [0, 1, 2, 3, 4, 5, 6, 9, 10], [0, 1, 2, 3, 4, 5, 6, 7, 9, 10, 11], [0, 1, 2, 3, 4, 5, 6, 7, 8, 9, 10, 11, 12]]
def a3A : List (List Nat) := [[], [], [1], [0, 1, 2], [0, 1, 2, 3], [0, 1, 2, 3, 4], [0, 1, 2, 3, 4, 5], [0, 1, 2, 3, 4, 5], [0, 1, 2, 3, 4, 5], [], [], [0, 1, 2, 3, 4, 5, 6, 9, 10], [0, 1, 2, 3, 4, 5, 6, 7, 9, 10, 11], [0, 1, 2, 3, 4, 5, 6, 7, 8, 9, 10, 11, 12]]
def a4A : List (List Nat) := [[], [], [0, 1], [0, 1, 2], [0, 1, 2, 3], [0, 1, 2, 3], [0, 1, 2, 3], [], [], [0, 1, 2, 3, 4, 7, 8], [0, 1, 2, 3, 4, 5, 7, 8, 9], [0, 1, 2, 3, 4, 5, 6, 7, 8, 9, 10]]
def a2U : List (List Nat) := [[], [], [1], [2], [0, 3], [4], [5], [5], [5], [], [], [6, 9], [7, 10]]
def a3U : List (List Nat) := [[], [], [1], [2], [0, 3], [4], [5], [5], [5], [], [], [6, 9], [7, 10]]
def a4U : List (List Nat) := [[], [], [0, 1], [2], [3], [3], [3], [], [], [4, 7], [5, 8]]
def a23S : Nat → Option Nat
  | 11 => some 9
  | 12 => some 10
  | _ => none
def a4S : Nat → Option Nat
  | 9 => some 7
  | 10 => some 8
  | _ => none
def a2K (B : Nat) (gc : Array Value) (x y : List Int) (o2 : Od) (F2 : List Int) (L2 : List Od) : Nat → FK
  | 0 => .eq (.agg gc)
  | 1 => .eq (.agg (u8s x))
  | 2 => .ids 1 x
  | 3 => .op o2 1 x
  | 4 => .add 4 2 F2 L2 y 0
  | 5 => .add 4 2 F2 L2 y 0
  | 6 => .gr 4 2 F2 L2
  | 7 => .eq (.agg (u8s y))
  | 8 => .eq (.int .i64 0)
  | 9 => .blk B #[.slice none 0 0, .slice none 0 0] 41
  | 10 => .blk B (u8s (zerosB 32)) 24
  | 11 => .putg 9 4 2 F2 L2
  | 12 => .putc 10 (u8s y) 24
  | _ => .any
def a3K (B : Nat) (x : List Int) (o2 : Od) : Nat → FK
  | 0 => .eq (.agg #[.slice none 0 0, .slice none 0 0])
  | 1 => .eq (.agg (u8s x))
  | 2 => .ids 1 x
  | 3 => .op o2 1 x
  | 4 => .eq (.tuple #[.agg #[.slice none 0 0, .slice none 0 0], .agg (u8s (zerosB 32)), .int .i64 40])
  | 5 => .eq (.tuple #[.agg #[.slice none 0 0, .slice none 0 0], .agg (u8s (zerosB 32)), .int .i64 40])
  | 6 => .eq (.agg #[.slice none 0 0, .slice none 0 0])
  | 7 => .eq (.agg (u8s (zerosB 32)))
  | 8 => .eq (.int .i64 40)
  | 9 => .blk B #[.slice none 0 0, .slice none 0 0] 41
  | 10 => .blk B (u8s (zerosB 32)) 24
  | _ => .any
def a4K (B : Nat) (gc : Array Value) (o1 : Od) : Nat → FK
  | 0 => .eq (.agg gc)
  | 1 => .op o1 0 []
  | 2 => .eq (.tuple #[.agg #[.slice none 0 0, .slice none 0 0], .agg (u8s (zerosB 32)), .int .i64 14])
  | 3 => .eq (.tuple #[.agg #[.slice none 0 0, .slice none 0 0], .agg (u8s (zerosB 32)), .int .i64 14])
  | 4 => .eq (.agg #[.slice none 0 0, .slice none 0 0])
  | 5 => .eq (.agg (u8s (zerosB 32)))
  | 6 => .eq (.int .i64 14)
  | 7 => .blk B #[.slice none 0 0, .slice none 0 0] 41
  | 8 => .blk B (u8s (zerosB 32)) 24
  | _ => .any
set_option maxHeartbeats 32000000 in
set_option maxRecDepth 100000 in
theorem alive9_of (x y : List Int) (lx : x.length = 32) (ly : y.length = 32) (o1 o2 : Od) (F2 : List Int) (L2 : List Od) (h : Al9 x y o1 o2 F2 L2) (w : World) (hG0 : GlobW w) :
    Calls Tryz.prog 27 #[] w fun e w' => e = .returned (.bool true) ∧ Below w.heap.size w w' := by
  obtain ⟨h1, h2, k1, k2, k3, k4, k5⟩ := h
  have s1 := Lib.hid h1; have s2 := Lib.hid h2; have c1 := Lib.hid k1; have c2 := Lib.hid k2; have c3 := Lib.hid k3; have c4 := Lib.hid k4; have c5 := Lib.hid k5
  have hG := Lib.hid hG0
  have hS := Lib.hid (Below.refl w.heap.size w)
  have ix := Lib.hid (show (Tryz.prog.info? 24).map (·.size) = some (u8s x).size by rw [u8s_size, lx]; kernel_rfl)
  have iy := Lib.hid (show (Tryz.prog.info? 24).map (·.size) = some (u8s y).size by rw [u8s_size, ly]; kernel_rfl)
  have i0 := Lib.hid (show (Tryz.prog.info? 24).map (·.size) = some (u8s (zerosB 32)).size by kernel_rfl)
  have sx := Lib.hid (show (32 : Nat) = (u8s x).size by rw [u8s_size, lx])
  have sy := Lib.hid (show (u8s (zerosB 32)).size = (u8s y).size by rw [u8s_size, u8s_size, ly, zerosB_length])
  have hlx := Lib.hid (show x.length = 32 * 1 by rw [lx])
  have hi1 := fun (wz : World) (ia ic oa oc) (hf : GrW ia oa 1 ic oc x [o1] wz) => hf
  clear h1 h2 k1 k2 k3 k4 k5 hG0 lx ly hi1
  go_enter Tryz.func27, Tryz.ntmps27
  go_upto_region 2 with (first
    | (go_at_call 19; (with_reducible refine (dagNew_any _).mono ?_); rintro e9 w4 ⟨rfl, q2⟩; (try replace rG1 := Lib.hid (rowB rG1.out q2 (Array.getElem?_eq_some_iff.1 rG1.out).1)); (try replace rX1 := Lib.hid (rowB rX1.out q2 (Array.getElem?_eq_some_iff.1 rX1.out).1)); (try replace hG := Lib.hid (hG.out.mono q2)); (try replace xg := Lib.hid (xg.out.mono q2)); (try replace xo := Lib.hid (xo.out.mono q2)); replace hS := Lib.hid (hS.out.trans (Below.mono q2 hS.out.size)); clear q2)
    | (go_at_call 15; (with_reducible refine (s1.out _ hG.out).mono ?_); rintro e9 w4 ⟨qa, qc, rfl, z1, q2⟩; (try replace rG1 := Lib.hid (rowB rG1.out q2 (Array.getElem?_eq_some_iff.1 rG1.out).1)); (try replace rX1 := Lib.hid (rowB rX1.out q2 (Array.getElem?_eq_some_iff.1 rX1.out).1)); (try replace hG := Lib.hid (hG.out.mono q2)); (try replace xg := Lib.hid (xg.out.mono q2)); (try replace xo := Lib.hid (xo.out.mono q2)); replace hS := Lib.hid (hS.out.trans (Below.mono q2 hS.out.size)); have xo := Lib.hid z1; clear z1; clear q2)
    | (go_at_call 18; (with_reducible refine (c1.out _ _ _ xo.out hG.out).mono ?_); rintro e9 w4 ⟨ia, ic, oa, oc, rfl, z1, q2⟩; (try replace rG1 := Lib.hid (rowB rG1.out q2 (Array.getElem?_eq_some_iff.1 rG1.out).1)); (try replace rX1 := Lib.hid (rowB rX1.out q2 (Array.getElem?_eq_some_iff.1 rX1.out).1)); (try replace hG := Lib.hid (hG.out.mono q2)); (try replace xg := Lib.hid (xg.out.mono q2)); (try replace xo := Lib.hid (xo.out.mono q2)); replace hS := Lib.hid (hS.out.trans (Below.mono q2 hS.out.size)); have xg := Lib.hid z1.now; clear z1; clear q2)
    | (refine wpList_store_row rfl 41 _ _ rfl w4.heap.size (gC (.slice ia 1 ic) (.slice oa 1 oc)) rfl rfl 41 _ (rowA w4 _ _) info_g rfl (gC_one _ _ _ _ _ _) ?_)
    | (refine storeOver _ (w4.heap.size + 1) _ rfl 24 _ _ rfl (u8s x) 24 ((setRow_other _ w4.heap.size (w4.heap.size + 1) _ (by omega)).trans (hn2 w4 _ _)) rfl rfl ix.out (sx.out) (u8s_one _) ?_; intro wx hrx hbx0; have hbx := Lib.hid (show Below w4.heap.size w4 wx from (below_setRow' ((below_a w4 _).alloc (by simp) _) (Nat.le_refl _) _).trans (hbx0.mono (Nat.le_succ _))); (try replace rG1 := Lib.hid (rowB rG1.out hbx.out (Array.getElem?_eq_some_iff.1 rG1.out).1)); (try replace rX1 := Lib.hid (rowB rX1.out hbx.out (Array.getElem?_eq_some_iff.1 rX1.out).1)); (try replace hG := Lib.hid (hG.out.mono hbx.out)); (try replace xg := Lib.hid (xg.out.mono hbx.out)); (try replace xo := Lib.hid (xo.out.mono hbx.out)); replace hS := Lib.hid (hS.out.trans (Below.mono hbx.out hS.out.size)); have rG1 := Lib.hid ((hbx0.block w4.heap.size (Nat.lt_succ_self _)).trans (setRow_heap _ _ _ (gC (.slice ia 1 ic) (.slice oa 1 oc)) _ _ (rowA w4 _ _))); have rX1 := Lib.hid hrx; clear hrx hbx0 hbx))
  clear xo
  obtain ⟨g1, hg1⟩ : ∃ g, g = w4.heap.size := ⟨_, rfl⟩
  rw [← hg1] at rG1 rX1 ⊢
  clear hg1
  refine wp_region_fgk 13 a2A a2U [8, 11, 12] a23S (a2K wx.heap.size (gC (.slice ia 1 ic) (.slice oa 1 oc)) x y o2 F2 L2) (by kernel_rfl) (by kernel_rfl) (by kernel_rfl) (by kernel_rfl) ?hstep ?hdone
  case hstep =>
    intro i op vs iv wz hi hop hinv hsp hd
    match i, hi with
    | 0, _ =>
      simp only [List.getElem?_toArray, List.getElem?_cons_zero, List.getElem?_cons_succ, Option.some.injEq] at hop
      subst hop
      generalize hfr : fxF _ vs fxT _ 0 = fr
      have e1 : fr.eval (.tmp 1) = .pointer (some ⟨g1, 0, none⟩) := by rw [← hfr]; exact fx_old 0 (by kernel_rfl)
      clear hfr
      exact fx_rowK 41 (.tmp 1) rfl rfl g1 e1 (gC (.slice ia 1 ic) (.slice oa 1 oc)) (run_loadVar_row _ _ 41 41 (gC (.slice ia 1 ic) (.slice oa 1 oc)) (0, 0) _ (rowK rG1.out hinv) Tryz.underlying41 rfl info_g) ⟨Nat.le_refl _, rfl, Below.refl _ _⟩
    | 1, _ =>
      simp only [List.getElem?_toArray, List.getElem?_cons_zero, List.getElem?_cons_succ, Option.some.injEq] at hop
      subst hop
      generalize hfr : fxF _ vs fxT _ 1 = fr
      have e1 : fr.eval (.tmp 2) = .pointer (some ⟨(g1 + 1), 0, none⟩) := by rw [← hfr]; exact fx_old 1 (by kernel_rfl)
      clear hfr
      exact fx_rowK 24 (.tmp 2) rfl rfl (g1 + 1) e1 (u8s x) (run_loadVar_row _ _ 24 24 (u8s x) (0, 0) _ (rowK rX1.out hinv) Tryz.underlying24 rfl ix.out) ⟨Nat.le_refl _, rfl, Below.refl _ _⟩
    | 2, _ =>
      simp only [List.getElem?_toArray, List.getElem?_cons_zero, List.getElem?_cons_succ, Option.some.injEq] at hop
      subst hop
      generalize hfr : fxF _ vs fxT _ 2 = fr
      have h1 : vs 1 = .agg (u8s x) := hd 1 (by decide)
      have e1 : fr.eval (.tmp 24) = .agg (u8s x) := by rw [← hfr]; exact (fx_new (by simp) 2 (by kernel_rfl)).trans h1
      clear hfr
      refine fx_val (v := .slice (some ⟨wz.heap.size, 0, none⟩) 1 1) (w' := wz.alloc (.cells (u8s x) 24)) rfl ?_ ⟨(below_a wz _).size, ⟨_, _, rfl, rdI_row (heap_alloc_new wz _) 1 hlx.out (by decide)⟩, below_a wz _⟩
      have hsz : (u8s x).size = 32 := by rw [u8s_size, hlx.out]
      have hfo := foldId x (by rw [hlx.out])
      unfold execOp
      generalize fr.eval = ev at e1 ⊢
      simp [go_sem, e1, hsz, hfo]
    | 3, _ =>
      simp only [List.getElem?_toArray, List.getElem?_cons_zero, List.getElem?_cons_succ, Option.some.injEq] at hop
      subst hop
      generalize hfr : fxF _ vs fxT _ 3 = fr
      obtain ⟨a, c, hv, hr⟩ := hd 2 (by decide)
      have e1 : fr.eval (.tmp 25) = .slice a 1 c := by rw [← hfr]; exact (fx_new (by simp) 3 (by kernel_rfl)).trans hv
      clear hfr
      have ec : ∀ v, fr.eval (.const v) = v := fun _ => rfl
      refine fx_call #[.int .u32 2, .slice a 1 c] rfl rfl Tryz.func15 (by kernel_rfl) rfl (by simp [ec, e1]) rfl ((s2.out wz a c hr (hG.out.mono hinv)).mono ?_)
      rintro e9 w9 ⟨qa, qc, rfl, z1, z2⟩
      exact ⟨_, rfl, z2.size, ⟨qa, qc, rfl, z1⟩, z2⟩
    | 4, _ =>
      simp only [List.getElem?_toArray, List.getElem?_cons_zero, List.getElem?_cons_succ, Option.some.injEq] at hop
      subst hop
      generalize hfr : fxF _ vs fxT _ 4 = fr
      have h0 : vs 0 = .agg (gC (.slice ia 1 ic) (.slice oa 1 oc)) := hd 0 (by decide)
      obtain ⟨a, c, hv, hr⟩ := hd 3 (by decide)
      have e1 : fr.eval (.tmp 23) = .agg (gC (.slice ia 1 ic) (.slice oa 1 oc)) := by rw [← hfr]; exact (fx_new (by simp) 4 (by kernel_rfl)).trans h0
      have e2 : fr.eval (.tmp 26) = .agg (o2.c (.slice a 1 c)) := by rw [← hfr]; exact (fx_new (by simp) 4 (by kernel_rfl)).trans hv
      clear hfr
      have ec : ∀ v, fr.eval (.const v) = v := fun _ => rfl
      refine fx_call #[.agg (gC (.slice ia 1 ic) (.slice oa 1 oc)), .agg (o2.c (.slice a 1 c))] rfl rfl Tryz.func18 (by kernel_rfl) rfl (by simp [ec, e1, e2]) rfl ((c2.out wz a c ia ic oa oc hr (xg.out.mono hinv) (hG.out.mono hinv)).mono ?_)
      rintro e9 w9 ⟨ja, jc, pa, pc, rfl, z1, z2⟩
      exact ⟨_, rfl, z2.size, ⟨ja, jc, pa, pc, rfl, z1⟩, z2⟩
    | 5, _ =>
      simp only [List.getElem?_toArray, List.getElem?_cons_zero, List.getElem?_cons_succ, Option.some.injEq] at hop
      subst hop
      generalize hfr : fxF _ vs fxT _ 5 = fr
      obtain ⟨ia, ic, oa, oc, hv, hf⟩ := hd 4 (by decide)
      have e1 : fr.eval (.tmp 27) = .tuple #[.agg (gC (.slice ia 2 ic) (.slice oa 2 oc)), .agg (u8s y), .int .i64 0] := by rw [← hfr]; exact (fx_new (by simp) 5 (by kernel_rfl)).trans hv
      clear hfr
      exact fx_move (.tmp 27) rfl rfl ⟨Nat.le_refl _, ⟨ia, ic, oa, oc, e1, hf⟩, Below.refl _ _⟩
    | 6, _ =>
      simp only [List.getElem?_toArray, List.getElem?_cons_zero, List.getElem?_cons_succ, Option.some.injEq] at hop
      subst hop
      generalize hfr : fxF _ vs fxT _ 6 = fr
      obtain ⟨ia, ic, oa, oc, hv, hf⟩ := hd 5 (by decide)
      have e1 : fr.eval (.tmp 22) = .tuple #[.agg (gC (.slice ia 2 ic) (.slice oa 2 oc)), .agg (u8s y), .int .i64 0] := by rw [← hfr]; exact (fx_new (by simp) 6 (by kernel_rfl)).trans hv
      clear hfr
      refine fx_val (v := .agg (gC (.slice ia 2 ic) (.slice oa 2 oc))) (w' := wz) rfl ?_ ⟨Nat.le_refl _, ⟨ia, ic, oa, oc, rfl, hf⟩, Below.refl _ _⟩
      unfold execOp
      generalize fr.eval = ev at e1 ⊢
      simp [go_sem, e1]
    | 7, _ =>
      simp only [List.getElem?_toArray, List.getElem?_cons_zero, List.getElem?_cons_succ, Option.some.injEq] at hop
      subst hop
      generalize hfr : fxF _ vs fxT _ 7 = fr
      obtain ⟨ia, ic, oa, oc, hv, hf⟩ := hd 5 (by decide)
      have e1 : fr.eval (.tmp 22) = .tuple #[.agg (gC (.slice ia 2 ic) (.slice oa 2 oc)), .agg (u8s y), .int .i64 0] := by rw [← hfr]; exact (fx_new (by simp) 7 (by kernel_rfl)).trans hv
      clear hfr
      refine fx_val (v := .agg (u8s y)) (w' := wz) rfl ?_ ⟨Nat.le_refl _, rfl, Below.refl _ _⟩
      unfold execOp
      generalize fr.eval = ev at e1 ⊢
      simp [go_sem, e1]
    | 8, _ =>
      simp only [List.getElem?_toArray, List.getElem?_cons_zero, List.getElem?_cons_succ, Option.some.injEq] at hop
      subst hop
      generalize hfr : fxF _ vs fxT _ 8 = fr
      obtain ⟨ia, ic, oa, oc, hv, hf⟩ := hd 5 (by decide)
      have e1 : fr.eval (.tmp 22) = .tuple #[.agg (gC (.slice ia 2 ic) (.slice oa 2 oc)), .agg (u8s y), .int .i64 0] := by rw [← hfr]; exact (fx_new (by simp) 8 (by kernel_rfl)).trans hv
      clear hfr
      refine fx_val (v := .int .i64 0) (w' := wz) rfl ?_ ⟨Nat.le_refl _, rfl, Below.refl _ _⟩
      unfold execOp
      generalize fr.eval = ev at e1 ⊢
      simp [go_sem, e1]
    | 9, _ =>
      simp only [List.getElem?_toArray, List.getElem?_cons_zero, List.getElem?_cons_succ, Option.some.injEq] at hop
      subst hop
      refine fx_val (v := .pointer (some ⟨wz.heap.size, 0, none⟩)) (w' := wz.alloc (.cells #[.slice none 0 0, .slice none 0 0] 41)) rfl ?_ ⟨(below_a wz _).size, ⟨wz.heap.size, rfl, Nat.le_refl _, by simp, hinv.size, heap_alloc_new wz _⟩, below_a wz _⟩
      generalize fxF _ vs fxT _ 9 = fr
      unfold execOp
      generalize fr.eval = ev
      simp [go_sem]
      try rfl
    | 10, _ =>
      simp only [List.getElem?_toArray, List.getElem?_cons_zero, List.getElem?_cons_succ, Option.some.injEq] at hop
      subst hop
      refine fx_val (v := .pointer (some ⟨wz.heap.size, 0, none⟩)) (w' := wz.alloc (.cells (u8s (zerosB 32)) 24)) rfl ?_ ⟨(below_a wz _).size, ⟨wz.heap.size, rfl, Nat.le_refl _, by simp, hinv.size, heap_alloc_new wz _⟩, below_a wz _⟩
      generalize fxF _ vs fxT _ 10 = fr
      unfold execOp
      generalize fr.eval = ev
      simp [go_sem]
      try rfl
    | 11, _ =>
      simp only [List.getElem?_toArray, List.getElem?_cons_zero, List.getElem?_cons_succ, Option.some.injEq] at hop
      subst hop
      generalize hfr : fxF _ vs fxT _ 11 = fr
      obtain ⟨g, hp, q1, q2, q3, q4⟩ := hd 9 (by decide)
      obtain ⟨ia, ic, oa, oc, hv, hf⟩ := hd 6 (by decide)
      have e1 : fr.eval (.tmp 4) = .pointer (some ⟨g, 0, none⟩) := by rw [← hfr]; exact (fx_new (by simp) 11 (by kernel_rfl)).trans hp
      have e2 : fr.eval (.tmp 28) = .agg (gC (.slice ia 2 ic) (.slice oa 2 oc)) := by rw [← hfr]; exact (fx_new (by simp) 11 (by kernel_rfl)).trans hv
      clear hfr
      have hb := but_setRowG wz g (gC (.slice ia 2 ic) (.slice oa 2 oc))
      refine fxu_store 41 (.tmp 4) (.tmp 28) rfl rfl g (gC (.slice ia 2 ic) (.slice oa 2 oc)) e1 e2 41 _ q4 info_g rfl (gC_one _ _ _ _ _ _) ⟨hb.size, ⟨g, ia, ic, oa, oc, hp, q1, q2, setRow_heap _ _ _ _ _ _ q4, ?_⟩, ⟨g, q3, q1, q2, hb⟩⟩
      exact hf.keep (like_grown hb (hsp.1 4 (show 4 ∈ a2A.getD 11 [] by decide)).2 (by have := hsp.2 9 4 (show 9 ∈ a2A.getD 11 [] by decide) (show 4 ∈ a2A.getD 11 [] by decide) (by decide); omega))
    | 12, _ =>
      simp only [List.getElem?_toArray, List.getElem?_cons_zero, List.getElem?_cons_succ, Option.some.injEq] at hop
      subst hop
      generalize hfr : fxF _ vs fxT _ 12 = fr
      obtain ⟨g, hp, q1, q2, q3, q4⟩ := hd 10 (by decide)
      have hv : vs 7 = .agg (u8s y) := hd 7 (by decide)
      have e1 : fr.eval (.tmp 5) = .pointer (some ⟨g, 0, none⟩) := by rw [← hfr]; exact (fx_new (by simp) 12 (by kernel_rfl)).trans hp
      have e2 : fr.eval (.tmp 29) = .agg (u8s y) := by rw [← hfr]; exact (fx_new (by simp) 12 (by kernel_rfl)).trans hv
      clear hfr
      have hb := but_setRowG wz g (u8s y)
      exact fxu_store 24 (.tmp 5) (.tmp 29) rfl rfl g (u8s y) e1 e2 24 _ q4 iy.out sy.out (u8s_one _) ⟨hb.size, ⟨g, hp, q1, q2, setRow_heap _ _ _ _ _ _ q4⟩, ⟨g, q3, q1, q2, hb⟩⟩
    | j + 13, hj => exact absurd hj (by omega)
  case hdone =>
    intro vs iv w5 hinv _ hf
    have h8 : vs 8 = .int .i64 0 := hf 8 (by decide) (by decide)
    obtain ⟨g4, ja, jc, pa, pc, v9, _, _, z1, z2⟩ : ∃ g ja jc pa pc, vs 9 = .pointer (some ⟨g, 0, none⟩) ∧ (iv 9).1 ≤ g ∧ g < (iv 9).2 ∧ w5.heap[g]? = some (.cells (gC (.slice ja 2 jc) (.slice pa 2 pc)) 41 (0, 0)) ∧ Fast (iv 4).1 (iv 4).2 (GrW ja pa 2 jc pc F2 L2) w5 := hf 11 (by decide) (by decide)
    obtain ⟨g5, v10, _, _, z3⟩ : ∃ g, vs 10 = .pointer (some ⟨g, 0, none⟩) ∧ (iv 10).1 ≤ g ∧ g < (iv 10).2 ∧ w5.heap[g]? = some (.cells (u8s y) 24 (0, 0)) := hf 12 (by decide) (by decide)
    simp only [fxF, fxT, if_true, List.drop_succ_cons, List.drop_zero, List.getElem?_toArray, List.getElem?_cons_zero, List.getElem?_cons_succ, Option.bind_some, Option.bind_none]
    rw [h8, v9, v10]
    have xg2 := Lib.hid z2.now
    have rG4 := Lib.hid z1; have rX5 := Lib.hid z3
    replace rG1 := Lib.hid (rowK rG1.out hinv); replace rX1 := Lib.hid (rowK rX1.out hinv); replace hG := Lib.hid (hG.out.mono hinv); replace hS := Lib.hid (hS.out.trans (hinv.mono hS.out.size))
    clear hf h8 v9 v10 z1 z2 z3 hinv xg
    generalize vs 0 = z0' at *
    generalize vs 1 = z1' at *
    generalize vs 2 = z2' at *
    generalize vs 3 = z3' at *
    generalize vs 4 = z4' at *
    generalize vs 5 = z5' at *
    generalize vs 6 = z6' at *
    generalize vs 7 = z7' at *
    generalize vs 11 = z11' at *
    generalize vs 12 = z12' at *
    go_upto_region 3 with fail
    refine wp_region_fgk 13 a3A a3U [8] a23S (a3K w5.heap.size x o2) (by kernel_rfl) (by kernel_rfl) (by kernel_rfl) (by kernel_rfl) ?hstep ?hdone
    case hstep =>
      intro i op vs iv wz hi hop hinv hsp hd
      match i, hi with
      | 0, _ =>
        simp only [List.getElem?_toArray, List.getElem?_cons_zero, List.getElem?_cons_succ, Option.some.injEq] at hop
        subst hop
        generalize hfr : fxF _ vs fxT _ 0 = fr
        clear hfr
        have ec : ∀ v, fr.eval (.const v) = v := fun _ => rfl
        refine fx_call #[] rfl rfl Tryz.func19 (by kernel_rfl) rfl (by simp [ec]) rfl ((dagNew_any wz).mono ?_)
        rintro e9 w9 ⟨rfl, z2⟩
        exact ⟨_, rfl, z2.size, rfl, z2⟩
      | 1, _ =>
        simp only [List.getElem?_toArray, List.getElem?_cons_zero, List.getElem?_cons_succ, Option.some.injEq] at hop
        subst hop
        generalize hfr : fxF _ vs fxT _ 1 = fr
        have e1 : fr.eval (.tmp 2) = .pointer (some ⟨(g1 + 1), 0, none⟩) := by rw [← hfr]; exact fx_old 1 (by kernel_rfl)
        clear hfr
        exact fx_rowK 24 (.tmp 2) rfl rfl (g1 + 1) e1 (u8s x) (run_loadVar_row _ _ 24 24 (u8s x) (0, 0) _ (rowK rX1.out hinv) Tryz.underlying24 rfl ix.out) ⟨Nat.le_refl _, rfl, Below.refl _ _⟩
      | 2, _ =>
        simp only [List.getElem?_toArray, List.getElem?_cons_zero, List.getElem?_cons_succ, Option.some.injEq] at hop
        subst hop
        generalize hfr : fxF _ vs fxT _ 2 = fr
        have h1 : vs 1 = .agg (u8s x) := hd 1 (by decide)
        have e1 : fr.eval (.tmp 33) = .agg (u8s x) := by rw [← hfr]; exact (fx_new (by simp) 2 (by kernel_rfl)).trans h1
        clear hfr
        refine fx_val (v := .slice (some ⟨wz.heap.size, 0, none⟩) 1 1) (w' := wz.alloc (.cells (u8s x) 24)) rfl ?_ ⟨(below_a wz _).size, ⟨_, _, rfl, rdI_row (heap_alloc_new wz _) 1 hlx.out (by decide)⟩, below_a wz _⟩
        have hsz : (u8s x).size = 32 := by rw [u8s_size, hlx.out]
        have hfo := foldId x (by rw [hlx.out])
        unfold execOp
        generalize fr.eval = ev at e1 ⊢
        simp [go_sem, e1, hsz, hfo]
      | 3, _ =>
        simp only [List.getElem?_toArray, List.getElem?_cons_zero, List.getElem?_cons_succ, Option.some.injEq] at hop
        subst hop
        generalize hfr : fxF _ vs fxT _ 3 = fr
        obtain ⟨a, c, hv, hr⟩ := hd 2 (by decide)
        have e1 : fr.eval (.tmp 34) = .slice a 1 c := by rw [← hfr]; exact (fx_new (by simp) 3 (by kernel_rfl)).trans hv
        clear hfr
        have ec : ∀ v, fr.eval (.const v) = v := fun _ => rfl
        refine fx_call #[.int .u32 2, .slice a 1 c] rfl rfl Tryz.func15 (by kernel_rfl) rfl (by simp [ec, e1]) rfl ((s2.out wz a c hr (hG.out.mono hinv)).mono ?_)
        rintro e9 w9 ⟨qa, qc, rfl, z1, z2⟩
        exact ⟨_, rfl, z2.size, ⟨qa, qc, rfl, z1⟩, z2⟩
      | 4, _ =>
        simp only [List.getElem?_toArray, List.getElem?_cons_zero, List.getElem?_cons_succ, Option.some.injEq] at hop
        subst hop
        generalize hfr : fxF _ vs fxT _ 4 = fr
        have h0 : vs 0 = .agg #[.slice none 0 0, .slice none 0 0] := hd 0 (by decide)
        obtain ⟨a, c, hv, hr⟩ := hd 3 (by decide)
        have e1 : fr.eval (.tmp 32) = .agg #[.slice none 0 0, .slice none 0 0] := by rw [← hfr]; exact (fx_new (by simp) 4 (by kernel_rfl)).trans h0
        have e2 : fr.eval (.tmp 35) = .agg (o2.c (.slice a 1 c)) := by rw [← hfr]; exact (fx_new (by simp) 4 (by kernel_rfl)).trans hv
        clear hfr
        have ec : ∀ v, fr.eval (.const v) = v := fun _ => rfl
        refine fx_call #[.agg #[.slice none 0 0, .slice none 0 0], .agg (o2.c (.slice a 1 c))] rfl rfl Tryz.func18 (by kernel_rfl) rfl (by simp [ec, e1, e2]) rfl ((c3.out wz a c hr (hG.out.mono hinv)).mono ?_)
        rintro e9 w9 ⟨rfl, z2⟩
        exact ⟨_, rfl, z2.size, rfl, z2⟩
      | 5, _ =>
        simp only [List.getElem?_toArray, List.getElem?_cons_zero, List.getElem?_cons_succ, Option.some.injEq] at hop
        subst hop
        generalize hfr : fxF _ vs fxT _ 5 = fr
        have h4 : vs 4 = .tuple #[.agg #[.slice none 0 0, .slice none 0 0], .agg (u8s (zerosB 32)), .int .i64 40] := hd 4 (by decide)
        have e1 : fr.eval (.tmp 36) = .tuple #[.agg #[.slice none 0 0, .slice none 0 0], .agg (u8s (zerosB 32)), .int .i64 40] := by rw [← hfr]; exact (fx_new (by simp) 5 (by kernel_rfl)).trans h4
        clear hfr
        exact fx_move (.tmp 36) rfl rfl ⟨Nat.le_refl _, e1, Below.refl _ _⟩
      | 6, _ =>
        simp only [List.getElem?_toArray, List.getElem?_cons_zero, List.getElem?_cons_succ, Option.some.injEq] at hop
        subst hop
        generalize hfr : fxF _ vs fxT _ 6 = fr
        have h5 : vs 5 = .tuple #[.agg #[.slice none 0 0, .slice none 0 0], .agg (u8s (zerosB 32)), .int .i64 40] := hd 5 (by decide)
        have e1 : fr.eval (.tmp 31) = .tuple #[.agg #[.slice none 0 0, .slice none 0 0], .agg (u8s (zerosB 32)), .int .i64 40] := by rw [← hfr]; exact (fx_new (by simp) 6 (by kernel_rfl)).trans h5
        clear hfr
        refine fx_val (v := .agg #[.slice none 0 0, .slice none 0 0]) (w' := wz) rfl ?_ ⟨Nat.le_refl _, rfl, Below.refl _ _⟩
        unfold execOp
        generalize fr.eval = ev at e1 ⊢
        simp [go_sem, e1]
      | 7, _ =>
        simp only [List.getElem?_toArray, List.getElem?_cons_zero, List.getElem?_cons_succ, Option.some.injEq] at hop
        subst hop
        generalize hfr : fxF _ vs fxT _ 7 = fr
        have h5 : vs 5 = .tuple #[.agg #[.slice none 0 0, .slice none 0 0], .agg (u8s (zerosB 32)), .int .i64 40] := hd 5 (by decide)
        have e1 : fr.eval (.tmp 31) = .tuple #[.agg #[.slice none 0 0, .slice none 0 0], .agg (u8s (zerosB 32)), .int .i64 40] := by rw [← hfr]; exact (fx_new (by simp) 7 (by kernel_rfl)).trans h5
        clear hfr
        refine fx_val (v := .agg (u8s (zerosB 32))) (w' := wz) rfl ?_ ⟨Nat.le_refl _, rfl, Below.refl _ _⟩
        unfold execOp
        generalize fr.eval = ev at e1 ⊢
        simp [go_sem, e1]
      | 8, _ =>
        simp only [List.getElem?_toArray, List.getElem?_cons_zero, List.getElem?_cons_succ, Option.some.injEq] at hop
        subst hop
        generalize hfr : fxF _ vs fxT _ 8 = fr
        have h5 : vs 5 = .tuple #[.agg #[.slice none 0 0, .slice none 0 0], .agg (u8s (zerosB 32)), .int .i64 40] := hd 5 (by decide)
        have e1 : fr.eval (.tmp 31) = .tuple #[.agg #[.slice none 0 0, .slice none 0 0], .agg (u8s (zerosB 32)), .int .i64 40] := by rw [← hfr]; exact (fx_new (by simp) 8 (by kernel_rfl)).trans h5
        clear hfr
        refine fx_val (v := .int .i64 40) (w' := wz) rfl ?_ ⟨Nat.le_refl _, rfl, Below.refl _ _⟩
        unfold execOp
        generalize fr.eval = ev at e1 ⊢
        simp [go_sem, e1]
      | 9, _ =>
        simp only [List.getElem?_toArray, List.getElem?_cons_zero, List.getElem?_cons_succ, Option.some.injEq] at hop
        subst hop
        refine fx_val (v := .pointer (some ⟨wz.heap.size, 0, none⟩)) (w' := wz.alloc (.cells #[.slice none 0 0, .slice none 0 0] 41)) rfl ?_ ⟨(below_a wz _).size, ⟨wz.heap.size, rfl, Nat.le_refl _, by simp, hinv.size, heap_alloc_new wz _⟩, below_a wz _⟩
        generalize fxF _ vs fxT _ 9 = fr
        unfold execOp
        generalize fr.eval = ev
        simp [go_sem]
        try rfl
      | 10, _ =>
        simp only [List.getElem?_toArray, List.getElem?_cons_zero, List.getElem?_cons_succ, Option.some.injEq] at hop
        subst hop
        refine fx_val (v := .pointer (some ⟨wz.heap.size, 0, none⟩)) (w' := wz.alloc (.cells (u8s (zerosB 32)) 24)) rfl ?_ ⟨(below_a wz _).size, ⟨wz.heap.size, rfl, Nat.le_refl _, by simp, hinv.size, heap_alloc_new wz _⟩, below_a wz _⟩
        generalize fxF _ vs fxT _ 10 = fr
        unfold execOp
        generalize fr.eval = ev
        simp [go_sem]
        try rfl
      | 11, _ =>
        simp only [List.getElem?_toArray, List.getElem?_cons_zero, List.getElem?_cons_succ, Option.some.injEq] at hop
        subst hop
        generalize hfr : fxF _ vs fxT _ 11 = fr
        obtain ⟨g, hp, q1, q2, q3, q4⟩ := hd 9 (by decide)
        have hv : vs 6 = .agg #[.slice none 0 0, .slice none 0 0] := hd 6 (by decide)
        have e1 : fr.eval (.tmp 7) = .pointer (some ⟨g, 0, none⟩) := by rw [← hfr]; exact (fx_new (by simp) 11 (by kernel_rfl)).trans hp
        have e2 : fr.eval (.tmp 37) = .agg #[.slice none 0 0, .slice none 0 0] := by rw [← hfr]; exact (fx_new (by simp) 11 (by kernel_rfl)).trans hv
        clear hfr
        have hb := but_setRowG wz g #[.slice none 0 0, .slice none 0 0]
        exact fxu_store 41 (.tmp 7) (.tmp 37) rfl rfl g #[.slice none 0 0, .slice none 0 0] e1 e2 41 _ q4 info_g rfl (gC_one none none 0 0 0 0) ⟨hb.size, trivial, ⟨g, q3, q1, q2, hb⟩⟩
      | 12, _ =>
        simp only [List.getElem?_toArray, List.getElem?_cons_zero, List.getElem?_cons_succ, Option.some.injEq] at hop
        subst hop
        generalize hfr : fxF _ vs fxT _ 12 = fr
        obtain ⟨g, hp, q1, q2, q3, q4⟩ := hd 10 (by decide)
        have hv : vs 7 = .agg (u8s (zerosB 32)) := hd 7 (by decide)
        have e1 : fr.eval (.tmp 8) = .pointer (some ⟨g, 0, none⟩) := by rw [← hfr]; exact (fx_new (by simp) 12 (by kernel_rfl)).trans hp
        have e2 : fr.eval (.tmp 38) = .agg (u8s (zerosB 32)) := by rw [← hfr]; exact (fx_new (by simp) 12 (by kernel_rfl)).trans hv
        clear hfr
        have hb := but_setRowG wz g (u8s (zerosB 32))
        exact fxu_store 24 (.tmp 8) (.tmp 38) rfl rfl g (u8s (zerosB 32)) e1 e2 24 _ q4 i0.out rfl (u8s_one _) ⟨hb.size, trivial, ⟨g, q3, q1, q2, hb⟩⟩
      | j + 13, hj => exact absurd hj (by omega)
    case hdone =>
      intro vs iv w6 hinv _ hf
      have h8 : vs 8 = .int .i64 40 := hf 8 (by decide) (by decide)
      simp only [fxF, fxT, if_true, List.drop_succ_cons, List.drop_zero, List.getElem?_toArray, List.getElem?_cons_zero, List.getElem?_cons_succ, Option.bind_some, Option.bind_none]
      rw [h8]
      replace rG1 := Lib.hid (rowK rG1.out hinv); replace rX1 := Lib.hid (rowK rX1.out hinv); replace rG4 := Lib.hid (rowK rG4.out hinv); replace rX5 := Lib.hid (rowK rX5.out hinv); replace xg2 := Lib.hid (xg2.out.mono hinv); replace hG := Lib.hid (hG.out.mono hinv); replace hS := Lib.hid (hS.out.trans (hinv.mono hS.out.size))
      clear hf h8 hinv
      generalize vs 0 = y0' at *
      generalize vs 1 = y1' at *
      generalize vs 2 = y2' at *
      generalize vs 3 = y3' at *
      generalize vs 4 = y4' at *
      generalize vs 5 = y5' at *
      generalize vs 6 = y6' at *
      generalize vs 7 = y7' at *
      generalize vs 9 = y9' at *
      generalize vs 10 = y10' at *
      generalize vs 11 = y11' at *
      generalize vs 12 = y12' at *
      go_upto_region 4 with fail
      refine wp_region_fgk 11 a4A a4U [6] a4S (a4K w6.heap.size (gC (.slice ja 2 jc) (.slice pa 2 pc)) o1) (by kernel_rfl) (by kernel_rfl) (by kernel_rfl) (by kernel_rfl) ?hstep ?hdone
      case hstep =>
        intro i op vs iv wz hi hop hinv hsp hd
        match i, hi with
        | 0, _ =>
          simp only [List.getElem?_toArray, List.getElem?_cons_zero, List.getElem?_cons_succ, Option.some.injEq] at hop
          subst hop
          generalize hfr : fxF _ vs fxT _ 0 = fr
          have e1 : fr.eval (.tmp 4) = .pointer (some ⟨g4, 0, none⟩) := by rw [← hfr]; exact fx_old 0 (by kernel_rfl)
          clear hfr
          exact fx_rowK 41 (.tmp 4) rfl rfl g4 e1 (gC (.slice ja 2 jc) (.slice pa 2 pc)) (run_loadVar_row _ _ 41 41 (gC (.slice ja 2 jc) (.slice pa 2 pc)) (0, 0) _ (rowK rG4.out hinv) Tryz.underlying41 rfl info_g) ⟨Nat.le_refl _, rfl, Below.refl _ _⟩
        | 1, _ =>
          simp only [List.getElem?_toArray, List.getElem?_cons_zero, List.getElem?_cons_succ, Option.some.injEq] at hop
          subst hop
          generalize hfr : fxF _ vs fxT _ 1 = fr
          clear hfr
          have ec : ∀ v, fr.eval (.const v) = v := fun _ => rfl
          refine fx_call #[.int .u32 1, .slice none 0 0] rfl rfl Tryz.func15 (by kernel_rfl) rfl (by simp [ec]) rfl ((s1.out wz (hG.out.mono hinv)).mono ?_)
          rintro e9 w9 ⟨qa, qc, rfl, z1, z2⟩
          exact ⟨_, rfl, z2.size, ⟨qa, qc, rfl, z1⟩, z2⟩
        | 2, _ =>
          simp only [List.getElem?_toArray, List.getElem?_cons_zero, List.getElem?_cons_succ, Option.some.injEq] at hop
          subst hop
          generalize hfr : fxF _ vs fxT _ 2 = fr
          have h0 : vs 0 = .agg (gC (.slice ja 2 jc) (.slice pa 2 pc)) := hd 0 (by decide)
          obtain ⟨a, c, hv, hr⟩ := hd 1 (by decide)
          have e1 : fr.eval (.tmp 41) = .agg (gC (.slice ja 2 jc) (.slice pa 2 pc)) := by rw [← hfr]; exact (fx_new (by simp) 2 (by kernel_rfl)).trans h0
          have e2 : fr.eval (.tmp 42) = .agg (o1.c (.slice a 0 c)) := by rw [← hfr]; exact (fx_new (by simp) 2 (by kernel_rfl)).trans hv
          clear hfr
          have ec : ∀ v, fr.eval (.const v) = v := fun _ => rfl
          refine fx_call #[.agg (gC (.slice ja 2 jc) (.slice pa 2 pc)), .agg (o1.c (.slice a 0 c))] rfl rfl Tryz.func18 (by kernel_rfl) rfl (by simp [ec, e1, e2]) rfl ((c4.out wz a c ja jc pa pc hr (xg2.out.mono hinv) (hG.out.mono hinv)).mono ?_)
          rintro e9 w9 ⟨rfl, z2⟩
          exact ⟨_, rfl, z2.size, rfl, z2⟩
        | 3, _ =>
          simp only [List.getElem?_toArray, List.getElem?_cons_zero, List.getElem?_cons_succ, Option.some.injEq] at hop
          subst hop
          generalize hfr : fxF _ vs fxT _ 3 = fr
          have h2 : vs 2 = .tuple #[.agg #[.slice none 0 0, .slice none 0 0], .agg (u8s (zerosB 32)), .int .i64 14] := hd 2 (by decide)
          have e1 : fr.eval (.tmp 43) = .tuple #[.agg #[.slice none 0 0, .slice none 0 0], .agg (u8s (zerosB 32)), .int .i64 14] := by rw [← hfr]; exact (fx_new (by simp) 3 (by kernel_rfl)).trans h2
          clear hfr
          exact fx_move (.tmp 43) rfl rfl ⟨Nat.le_refl _, e1, Below.refl _ _⟩
        | 4, _ =>
          simp only [List.getElem?_toArray, List.getElem?_cons_zero, List.getElem?_cons_succ, Option.some.injEq] at hop
          subst hop
          generalize hfr : fxF _ vs fxT _ 4 = fr
          have h3 : vs 3 = .tuple #[.agg #[.slice none 0 0, .slice none 0 0], .agg (u8s (zerosB 32)), .int .i64 14] := hd 3 (by decide)
          have e1 : fr.eval (.tmp 40) = .tuple #[.agg #[.slice none 0 0, .slice none 0 0], .agg (u8s (zerosB 32)), .int .i64 14] := by rw [← hfr]; exact (fx_new (by simp) 4 (by kernel_rfl)).trans h3
          clear hfr
          refine fx_val (v := .agg #[.slice none 0 0, .slice none 0 0]) (w' := wz) rfl ?_ ⟨Nat.le_refl _, rfl, Below.refl _ _⟩
          unfold execOp
          generalize fr.eval = ev at e1 ⊢
          simp [go_sem, e1]
        | 5, _ =>
          simp only [List.getElem?_toArray, List.getElem?_cons_zero, List.getElem?_cons_succ, Option.some.injEq] at hop
          subst hop
          generalize hfr : fxF _ vs fxT _ 5 = fr
          have h3 : vs 3 = .tuple #[.agg #[.slice none 0 0, .slice none 0 0], .agg (u8s (zerosB 32)), .int .i64 14] := hd 3 (by decide)
          have e1 : fr.eval (.tmp 40) = .tuple #[.agg #[.slice none 0 0, .slice none 0 0], .agg (u8s (zerosB 32)), .int .i64 14] := by rw [← hfr]; exact (fx_new (by simp) 5 (by kernel_rfl)).trans h3
          clear hfr
          refine fx_val (v := .agg (u8s (zerosB 32))) (w' := wz) rfl ?_ ⟨Nat.le_refl _, rfl, Below.refl _ _⟩
          unfold execOp
          generalize fr.eval = ev at e1 ⊢
          simp [go_sem, e1]
        | 6, _ =>
          simp only [List.getElem?_toArray, List.getElem?_cons_zero, List.getElem?_cons_succ, Option.some.injEq] at hop
          subst hop
          generalize hfr : fxF _ vs fxT _ 6 = fr
          have h3 : vs 3 = .tuple #[.agg #[.slice none 0 0, .slice none 0 0], .agg (u8s (zerosB 32)), .int .i64 14] := hd 3 (by decide)
          have e1 : fr.eval (.tmp 40) = .tuple #[.agg #[.slice none 0 0, .slice none 0 0], .agg (u8s (zerosB 32)), .int .i64 14] := by rw [← hfr]; exact (fx_new (by simp) 6 (by kernel_rfl)).trans h3
          clear hfr
          refine fx_val (v := .int .i64 14) (w' := wz) rfl ?_ ⟨Nat.le_refl _, rfl, Below.refl _ _⟩
          unfold execOp
          generalize fr.eval = ev at e1 ⊢
          simp [go_sem, e1]
        | 7, _ =>
          simp only [List.getElem?_toArray, List.getElem?_cons_zero, List.getElem?_cons_succ, Option.some.injEq] at hop
          subst hop
          refine fx_val (v := .pointer (some ⟨wz.heap.size, 0, none⟩)) (w' := wz.alloc (.cells #[.slice none 0 0, .slice none 0 0] 41)) rfl ?_ ⟨(below_a wz _).size, ⟨wz.heap.size, rfl, Nat.le_refl _, by simp, hinv.size, heap_alloc_new wz _⟩, below_a wz _⟩
          generalize fxF _ vs fxT _ 7 = fr
          unfold execOp
          generalize fr.eval = ev
          simp [go_sem]
          try rfl
        | 8, _ =>
          simp only [List.getElem?_toArray, List.getElem?_cons_zero, List.getElem?_cons_succ, Option.some.injEq] at hop
          subst hop
          refine fx_val (v := .pointer (some ⟨wz.heap.size, 0, none⟩)) (w' := wz.alloc (.cells (u8s (zerosB 32)) 24)) rfl ?_ ⟨(below_a wz _).size, ⟨wz.heap.size, rfl, Nat.le_refl _, by simp, hinv.size, heap_alloc_new wz _⟩, below_a wz _⟩
          generalize fxF _ vs fxT _ 8 = fr
          unfold execOp
          generalize fr.eval = ev
          simp [go_sem]
          try rfl
        | 9, _ =>
          simp only [List.getElem?_toArray, List.getElem?_cons_zero, List.getElem?_cons_succ, Option.some.injEq] at hop
          subst hop
          generalize hfr : fxF _ vs fxT _ 9 = fr
          obtain ⟨g, hp, q1, q2, q3, q4⟩ := hd 7 (by decide)
          have hv : vs 4 = .agg #[.slice none 0 0, .slice none 0 0] := hd 4 (by decide)
          have e1 : fr.eval (.tmp 10) = .pointer (some ⟨g, 0, none⟩) := by rw [← hfr]; exact (fx_new (by simp) 9 (by kernel_rfl)).trans hp
          have e2 : fr.eval (.tmp 44) = .agg #[.slice none 0 0, .slice none 0 0] := by rw [← hfr]; exact (fx_new (by simp) 9 (by kernel_rfl)).trans hv
          clear hfr
          have hb := but_setRowG wz g #[.slice none 0 0, .slice none 0 0]
          exact fxu_store 41 (.tmp 10) (.tmp 44) rfl rfl g #[.slice none 0 0, .slice none 0 0] e1 e2 41 _ q4 info_g rfl (gC_one none none 0 0 0 0) ⟨hb.size, trivial, ⟨g, q3, q1, q2, hb⟩⟩
        | 10, _ =>
          simp only [List.getElem?_toArray, List.getElem?_cons_zero, List.getElem?_cons_succ, Option.some.injEq] at hop
          subst hop
          generalize hfr : fxF _ vs fxT _ 10 = fr
          obtain ⟨g, hp, q1, q2, q3, q4⟩ := hd 8 (by decide)
          have hv : vs 5 = .agg (u8s (zerosB 32)) := hd 5 (by decide)
          have e1 : fr.eval (.tmp 11) = .pointer (some ⟨g, 0, none⟩) := by rw [← hfr]; exact (fx_new (by simp) 10 (by kernel_rfl)).trans hp
          have e2 : fr.eval (.tmp 45) = .agg (u8s (zerosB 32)) := by rw [← hfr]; exact (fx_new (by simp) 10 (by kernel_rfl)).trans hv
          clear hfr
          have hb := but_setRowG wz g (u8s (zerosB 32))
          exact fxu_store 24 (.tmp 11) (.tmp 45) rfl rfl g (u8s (zerosB 32)) e1 e2 24 _ q4 i0.out rfl (u8s_one _) ⟨hb.size, trivial, ⟨g, q3, q1, q2, hb⟩⟩
        | j + 11, hj => exact absurd hj (by omega)
      case hdone =>
        intro vs iv w7 hinv _ hf
        have h6 : vs 6 = .int .i64 14 := hf 6 (by decide) (by decide)
        simp only [fxF, fxT, if_true, List.drop_succ_cons, List.drop_zero, List.getElem?_toArray, List.getElem?_cons_zero, List.getElem?_cons_succ, Option.bind_some, Option.bind_none]
        rw [h6]
        replace rG1 := Lib.hid (rowK rG1.out hinv); replace rX1 := Lib.hid (rowK rX1.out hinv); replace rG4 := Lib.hid (rowK rG4.out hinv); replace rX5 := Lib.hid (rowK rX5.out hinv); replace xg2 := Lib.hid (xg2.out.mono hinv); replace hG := Lib.hid (hG.out.mono hinv); replace hS := Lib.hid (hS.out.trans (hinv.mono hS.out.size))
        clear hf h6 hinv
        generalize vs 0 = x0' at *
        generalize vs 1 = x1' at *
        generalize vs 2 = x2' at *
        generalize vs 3 = x3' at *
        generalize vs 4 = x4' at *
        generalize vs 5 = x5' at *
        generalize vs 7 = x7' at *
        generalize vs 8 = x8' at *
        generalize vs 9 = x9' at *
        generalize vs 10 = x10' at *
        go_upto_region 6 with (first
          | (refine wpList_load_row_g rfl 41 _ rfl g4 rfl 41 (gC (.slice ja 2 jc) (.slice pa 2 pc)) (0, 0) _ rG4.out Tryz.underlying41 rfl info_g ?_)
          | (refine wpList_load_row_g rfl 24 _ rfl g5 rfl 24 (u8s y) (0, 0) _ rX5.out Tryz.underlying24 rfl iy.out ?_)
          | (go_at_call 41; (with_reducible refine (c5.out _ _ _ _ _ xg2.out hG.out).mono ?_); rintro e9 w4 ⟨rfl, q2⟩; (try replace rG1 := Lib.hid (rowB rG1.out q2 (Array.getElem?_eq_some_iff.1 rG1.out).1)); (try replace rX1 := Lib.hid (rowB rX1.out q2 (Array.getElem?_eq_some_iff.1 rX1.out).1)); (try replace rG4 := Lib.hid (rowB rG4.out q2 (Array.getElem?_eq_some_iff.1 rG4.out).1)); (try replace rX5 := Lib.hid (rowB rX5.out q2 (Array.getElem?_eq_some_iff.1 rX5.out).1)); (try replace hG := Lib.hid (hG.out.mono q2)); (try replace xg2 := Lib.hid (xg2.out.mono q2)); replace hS := Lib.hid (hS.out.trans (Below.mono q2 hS.out.size)); clear q2))
        have cG1 := cell_of_row _ _ 0 _ _ _ rG1.out
        have cG4 := cell_of_row _ _ 0 _ _ _ rG4.out
        simp only [gC, List.getElem?_toArray, List.getElem?_cons_zero] at cG1 cG4
        go_wp2
        go_ret
        exact ⟨rfl, hS.out⟩
theorem alive9 (w : World) (hG0 : GlobW w) : Calls Tryz.prog 27 #[] w fun e w' => e = .returned (.bool true) ∧ Below w.heap.size w w' := by
  obtain ⟨o1, o2, F2, L2, h⟩ := al9
  exact alive9_of x1 x2 x1_length x2_length o1 o2 F2 L2 h w hG0
end Go.Proofs.YtlbgffhipondiaaGreatDoor.wir.val
namespace Go.Proofs.YtlbgffhipondiaaGreatDoor.wir.val
open Go.RowKit Go.YtlbgffhipondiaaGreatDoor
set_option linter.unusedVariables false
theorem loadC {P : Program} {ops : Array Oper} {rest : List Oper} {o : Oper} {a : Act} {w : World} {Q : Exit → Act → World → Prop} (ty : TypeId) (x : Operand) (ho : o.op = .load ty x) (g k : Nat) (hx : a.eval x = .pointer (some ⟨g, k, none⟩)) (hw : Region.wanted o (yielded ops a.tmps) = true)
    (cs : Array Value) (T : TypeId) (fr : Nat × Nat) (hg : w.heap[g]? = some (.cells cs T fr)) (v : Value) (hv : cs[k]? = some v) (hu : ∀ w, (isAgg ty).run P w = .ok false w) (h : wpList P ops Q rest (a.put o.dst v) w) : wpList P ops Q (o :: rest) a w := by
  have hc : w.cell? ⟨g, k, none⟩ = some v := (cell_of_row _ _ _ _ _ _ hg).trans hv
  have hrun : (execOp a.eval o).run P w = .ok (.value v) w := by
    unfold execOp
    generalize a.eval = ev at *
    simp only [ho]
    simp [go_sem, hx, hu w, hc]
  exact wpList_step fun K hK => by
    rw [if_pos hw]
    unfold Oper.wp
    rw [hrun]
    exact hK _ _ h
theorem place_ex {F x : List Int} {n : Nat} (hr : riseF F n = true) : ∃ p, PlaceAt F n x p := by
  have h : ∀ k, k ≤ n → (∀ j, j < k → cmpF (idF F j) x < 0) ∨ ∃ p, PlaceAt F n x p := by
    intro k
    induction k with
    | zero => exact fun _ => .inl fun j hj => absurd hj (Nat.not_lt_zero _)
    | succ k ih =>
      intro hk
      rcases ih (by omega) with h | h
      · by_cases hc : cmpF (idF F k) x < 0
        · refine .inl fun j hj => ?_
          rcases Nat.lt_or_ge j k with h1 | h1
          · exact h j h1
          · obtain rfl : j = k := by omega
            exact hc
        · exact .inr ⟨k, by omega, h, place_dn hr hc⟩
      · exact .inr h
  rcases h n (Nat.le_refl _) with h | h
  · exact ⟨n, Nat.le_refl _, h, fun k h1 h2 => by omega⟩
  · exact h
set_option maxHeartbeats 8000000 in
set_option maxRecDepth 100000 in
theorem fit9_any (F : List Int) (n : Nat) (L : List Od) (iv ov : Value) (w : World) (hI : RdI w iv n F) (hF : Bytes F) (hO : RdO w ov L) (hraw : ∀ i, i < L.length → (nthO L i).Raw) :
    Calls Tryz.prog 35 #[.agg (gC iv ov)] w fun e w' => (∃ b : Bool, e = .returned (.bool b) ∧ (b = true → SmallG n L ∧ ChkG F n L 0)) ∧ Below w.heap.size w w' := by
  obtain ⟨W, hW⟩ : ∃ W, W = w.alloc (.cells (gC iv ov) 41) := ⟨_, rfl⟩
  have hS := Lib.hid (show Below w.heap.size w W by rw [hW]; exact below_a w _)
  have r0 := Lib.hid (show W.heap[w.heap.size]? = some (.cells (gC iv ov) 41 (0, 0)) by rw [hW]; exact heap_alloc_new w _)
  have hgr := Lib.hid (fun (wz : World) (hb : Below w.heap.size w wz) => rGreatG_any F n L iv ov wz (hI.mono hb) (hO.mono hb))
  obtain ⟨e0, he0⟩ := chkG_ex F n L
  have hrk := Lib.hid (fun (hsm : SmallG n L) (wz : World) (hb : Below w.heap.size w wz) => rCheckG_any F n L iv ov e0 wz (hI.mono hb) hF (hO.mono hb) (by have := hsm.2.2.2; omega) (by have := hsm.2.2.1; omega) (fun i hi => raw_fit (hraw i hi) (hsm.1 i hi)) he0)
  have hz := Lib.hid (fun h : e0 = 0 => (show ChkG F n L 0 from h ▸ he0))
  obtain ⟨ia, ic, rfl⟩ := hI.slice
  obtain ⟨oa, oc, rfl⟩ := hO.slice
  clear hI hO hF hraw he0
  have hQ : ∀ b : Bool, (b = true → SmallG n L ∧ ChkG F n L 0) → ∀ w', Below w.heap.size w w' → (∃ b' : Bool, Ending.returned (.bool b) = .returned (.bool b') ∧ (b' = true → SmallG n L ∧ ChkG F n L 0)) ∧ Below w.heap.size w w' := fun b h w' hb => ⟨⟨b, rfl, h⟩, hb⟩
  generalize L.length = m at *
  go_enter Tryz.func35, Tryz.ntmps35
  go_upto_region 1 with fail
  rw [← hW]
  clear hW
  go_wp2_with (first
    | (refine wpList_load_row_g rfl 41 _ rfl w.heap.size rfl 41 (gC (.slice ia n ic) (.slice oa m oc)) (0, 0) _ r0.out Tryz.underlying41 rfl info_g ?_)
    | (go_at_call 28; (with_reducible refine (hgr.out _ hS.out).mono ?_); rintro e9 w4 ⟨gb, rfl, hsm, q2⟩; (try replace r0 := Lib.hid (rowB r0.out q2 (Array.getElem?_eq_some_iff.1 r0.out).1)); replace hS := Lib.hid (hS.out.trans (Below.mono q2 hS.out.size)); have hsm := Lib.hid hsm; clear q2; rcases gb with _ | _)
    | (go_at_call 62; (with_reducible refine (hrk.out (hsm.out ⟨⟩) _ hS.out).mono ?_); rintro e9 w4 ⟨rfl, q2⟩; (try replace r0 := Lib.hid (rowB r0.out q2 (Array.getElem?_eq_some_iff.1 r0.out).1)); replace hS := Lib.hid (hS.out.trans (Below.mono q2 hS.out.size)); clear q2))
  · go_ret
    exact hQ _ (fun h => ⟨hsm.out ⟨⟩, hz.out (by simpa using h)⟩) _ hS.out
  · go_ret
    exact hQ false (fun h => by cases h) _ hS.out
end Go.Proofs.YtlbgffhipondiaaGreatDoor.wir.val

/- Texts that the row stands on, part 5. -/
import Derived.Test.YtdlblhoaddfanaaDoorRMillsDq04
namespace Go.Proofs.YtdlblhoaddfanaaDoor
open Go.RowKit Go.YtdlblhoaddfanaaDoor
set_option linter.unusedVariables false
def mlA : List (List Nat) := [[], [0], [], [], [3], [2, 3, 4], [], [6], [0, 1, 2, 3, 4, 5, 6, 7], [], [], [2, 3, 4, 5, 9, 10], [], [0, 1, 2, 3, 4, 5, 6, 7, 8, 9, 10, 11, 12], [0, 1, 2, 3, 4, 5, 6, 7, 8, 9, 10, 11, 12, 13]]
def mlΦ (B gm : Nat) (V : V8) (rv bv : Value) (N : Int) (r l : List Int) : Nat → Value → World → Prop
  | 0, v, _ => v = .pointer (some ⟨gm, 0, none⟩)
  | 1, v, _ => v = .agg #[.int .u32 V.a, .int .u32 V.b, .int .u32 V.c, .int .u32 V.d, .int .u32 V.e, .int .u32 V.f, .int .u32 V.g, .int .u32 V.h]
  | 2, v, w => ∃ g, v = .slice (some ⟨g, 0, none⟩) 0 0 ∧ B ≤ g ∧ w.heap[g]? = some (.cells #[] 5 (0, 0))
  | 3, v, _ => v = .pointer (some ⟨gm, 8, none⟩)
  | 4, v, _ => v = rv
  | 5, v, w => OwnB B 5 w v r
  | 6, v, _ => v = .pointer (some ⟨gm, 9, none⟩)
  | 7, v, _ => v = .int .i64 N
  | 8, v, w => ∃ q, v = millV V q N ∧ OwnB B 5 w q r
  | 9, v, w => ∃ g, v = .slice (some ⟨g, 0, none⟩) 0 0 ∧ B ≤ g ∧ w.heap[g]? = some (.cells #[] 5 (0, 0))
  | 10, v, _ => v = bv
  | 11, v, w => OwnB B 5 w v l
  | _, v, w => ∃ g, v = .pointer (some ⟨g, 0, none⟩) ∧ B ≤ g ∧ w.heap[g]? = some (.cells #[.int .u32 0, .int .u32 0, .int .u32 0, .int .u32 0, .int .u32 0, .int .u32 0, .int .u32 0, .int .u32 0, .slice none 0 0, .int .i64 0] 26 (0, 0))
theorem ml_keep {B gm : Nat} {V : V8} {rv bv : Value} {N : Int} {r l : List Int} (j : Nat) (v : Value) (w w' : World) (hj : j < 13) (h : mlΦ B gm V rv bv N r l j v w) (hb : Below w.heap.size w w') : mlΦ B gm V rv bv N r l j v w' := by
  match j, hj with
  | 0, _ => exact h
  | 1, _ => exact h
  | 2, _ => obtain ⟨g, e, h1, h2⟩ := h; exact ⟨g, e, h1, rowD h2 hb⟩
  | 3, _ => exact h
  | 4, _ => exact h
  | 5, _ => exact OwnB.kept h hb
  | 6, _ => exact h
  | 7, _ => exact h
  | 8, _ => obtain ⟨q, e, h1⟩ := h; exact ⟨q, e, OwnB.kept h1 hb⟩
  | 9, _ => obtain ⟨g, e, h1, h2⟩ := h; exact ⟨g, e, h1, rowD h2 hb⟩
  | 10, _ => exact h
  | 11, _ => exact OwnB.kept h hb
  | 12, _ => obtain ⟨g, e, h1, h2⟩ := h; exact ⟨g, e, h1, rowD h2 hb⟩
  | j' + 13, hj' => exact absurd hj' (by omega)
set_option maxHeartbeats 8000000 in
set_option maxRecDepth 100000 in
theorem mills_far (V : V8) (N : Int) (r l : List Int) (rv bv : Value) (w : World) (hr : RdB w rv r) (hl : RdB w bv l) (h : 1500 < l.length ∨ 200 < r.length) :
    Calls Tryd.prog 3 #[millV V rv N, bv] w fun e w' => e = .returned (.bool true) ∧ Below w.heap.size w w' := by
  obtain ⟨a, c, rfl⟩ := hr.slice
  obtain ⟨b, d, rfl⟩ := hl.slice
  generalize l.length = ln at *
  generalize r.length = rn at *
  clear hr hl
  unfold millV
  go_enter Tryd.func3, Tryd.ntmps3
  by_cases h1 : 1500 < ln
  · have h1' : (1500 : Int) < (ln : Int) := by omega
    have d1 : decide ((1500 : Int) < (ln : Int)) = true := by simpa using h1'
    clear h
    go_wp2
    go_ret
    exact ⟨rfl, (Below.refl _ _).alloc (Nat.le_refl _) _⟩
  · have h1' : ¬ (1500 : Int) < (ln : Int) := by omega
    have d1 : decide ((1500 : Int) < (ln : Int)) = false := by simpa using h1'
    have h2 : (200 : Int) < (rn : Int) := by omega
    have d2 : decide ((200 : Int) < (rn : Int)) = true := by simpa using h2
    clear h
    go_wp2
    go_ret
    exact ⟨rfl, (Below.refl _ _).alloc (Nat.le_refl _) _⟩
set_option maxHeartbeats 16000000 in
set_option maxRecDepth 100000 in
theorem mills_near {Tg Tf : TypeId} (V : V8) (N : Int) (r l : List Int) (rv bv : Value) (w : World) (hr : RdB w rv r) (hl : RdB w bv l) (hG : GlO Tg Tf w) (h1 : l.length ≤ 1500) (h2 : r.length ≤ 200)
    (G : V8) (R : List Int) (NN E : Int) (P : AddP Tg Tf V N r l G R NN E) (D : List Int) (E2 : Int) (Q : EndP Tg Tf V N r D E2) (F : V8) (hF : firstW = F) :
    Calls Tryd.prog 3 #[millV V rv N, bv] w fun e w' => e = .returned (.bool true) ∧ Below w.heap.size w w' := by
  obtain ⟨a, c, rfl⟩ := hr.slice
  obtain ⟨b, d, rfl⟩ := hl.slice
  have hra := Lib.hid hr
  have hla := Lib.hid hl
  have hP := Lib.hid P
  have hQ := Lib.hid Q
  have hGw := Lib.hid hG
  have hFF := Lib.hid hF
  clear hr hl P Q hG hF
  generalize hln : l.length = ln at *
  generalize hrn : r.length = rn at *
  have hlnh := Lib.hid hln
  have hrnh := Lib.hid hrn
  clear hln hrn
  have i1 : ¬ (1500 : Int) < (ln : Int) := by omega
  have d1 : decide ((1500 : Int) < (ln : Int)) = false := by simpa using i1
  have i2 : ¬ (200 : Int) < (rn : Int) := by omega
  have d2 : decide ((200 : Int) < (rn : Int)) = false := by simpa using i2
  unfold millV
  obtain ⟨W, hW⟩ : ∃ W, W = w.alloc (.cells #[.int .u32 V.a, .int .u32 V.b, .int .u32 V.c, .int .u32 V.d, .int .u32 V.e, .int .u32 V.f, .int .u32 V.g, .int .u32 V.h, (.slice a rn c), .int .i64 N] 26) := ⟨_, rfl⟩
  have hS0 := Lib.hid (show Below w.heap.size w W by rw [hW]; exact below_aD w _)
  have r0 := Lib.hid (show W.heap[w.heap.size]? = some (.cells #[.int .u32 V.a, .int .u32 V.b, .int .u32 V.c, .int .u32 V.d, .int .u32 V.e, .int .u32 V.f, .int .u32 V.g, .int .u32 V.h, (.slice a rn c), .int .i64 N] 26 (0, 0)) by rw [hW]; exact heap_alloc_new w _)
  replace hra := Lib.hid (hra.out.mono hS0.out)
  replace hla := Lib.hid (hla.out.mono hS0.out)
  have hWl := Lib.hid (show w.heap.size < W.heap.size by rw [hW]; simp)
  have c8 : W.cell? ⟨w.heap.size, 8, none⟩ = some (.slice a rn c) := by rw [cell_of_row _ _ _ _ _ _ r0.out]; rfl
  go_enter Tryd.func3, Tryd.ntmps3
  go_upto_region 1 with fail
  rw [← hW]
  clear hW
  go_upto_region 3 with fail
  clear c8 d1 d2 i1 i2
  refine wp_region_fx 13 mlA (by kernel_rfl) (by kernel_rfl) (mlΦ W.heap.size w.heap.size V (.slice a rn c) (.slice b ln d) N r l) (fun _ a b => Below a.heap.size a b) (fun wz => Below W.heap.size W wz) (fun _ _ => True)
    (Below.refl _ _).drew (fun _ _ => trivial) (fun i a b hi h hg => h.trans (Below.mono hg h.size)) (fun i j v a b hi hj ha _ h hg => ml_keep j v a b hj h hg) (fun i j a b hi hj ha _ h hg => trivial) ?hstep ?hdone
  case hstep =>
    intro i op vs wz hi hop hinv hpre hd
    match i, hi with
    | 0, _ =>
      simp only [List.getElem?_toArray, List.getElem?_cons_zero, List.getElem?_cons_succ, Option.some.injEq] at hop
      subst hop
      generalize hfr : fxF _ vs fxT _ 0 = fr
      have e : fr.eval (.tmp 2) = .pointer (some ⟨w.heap.size, 0, none⟩) := by rw [← hfr]; exact fx_old 0 (by kernel_rfl)
      clear hfr
      refine fx_val (v := .pointer (some ⟨w.heap.size, 0, none⟩)) (w' := wz) rfl ?_ ⟨rfl, Below.refl _ _⟩
      unfold execOp
      generalize fr.eval = ev at e ⊢
      simp [go_sem, e]
    | 1, _ =>
      simp only [List.getElem?_toArray, List.getElem?_cons_zero, List.getElem?_cons_succ, Option.some.injEq] at hop
      subst hop
      have h0 : vs 0 = .pointer (some ⟨w.heap.size, 0, none⟩) := hd 0 (by decide)
      generalize hfr : fxF _ vs fxT _ 1 = fr
      have e : fr.eval (.tmp 26) = .pointer (some ⟨w.heap.size, 0, none⟩) := by rw [← hfr]; exact (fx_new (by simp) 1 (by kernel_rfl)).trans h0
      clear hfr
      obtain ⟨c0, c1, c2, c3, c4, c5, c6, c7, c8, c9⟩ := cells10 (rowD r0.out hinv)
      exact fx_midD 23 (.tmp 26) rfl rfl w.heap.size 0 e _ _ Tryd.underlying23 rfl (by kernel_rfl) (range_mill c0 c1 c2 c3 c4 c5 c6 c7) ⟨rfl, Below.refl _ _⟩
    | 2, _ =>
      simp only [List.getElem?_toArray, List.getElem?_cons_zero, List.getElem?_cons_succ, Option.some.injEq] at hop
      subst hop
      refine fx_val (v := .slice (some ⟨wz.heap.size, 0, none⟩) 0 0) (w' := wz.alloc (.cells #[] 5)) rfl ?_ ⟨⟨_, rfl, hinv.size, heap_alloc_new wz _⟩, below_aD _ _⟩
      generalize fxF _ vs fxT _ 2 = fr
      unfold execOp
      generalize fr.eval = ev
      simp [go_sem]
    | 3, _ =>
      simp only [List.getElem?_toArray, List.getElem?_cons_zero, List.getElem?_cons_succ, Option.some.injEq] at hop
      subst hop
      generalize hfr : fxF _ vs fxT _ 3 = fr
      have e : fr.eval (.tmp 2) = .pointer (some ⟨w.heap.size, 0, none⟩) := by rw [← hfr]; exact fx_old 3 (by kernel_rfl)
      clear hfr
      refine fx_val (v := .pointer (some ⟨w.heap.size, 8, none⟩)) (w' := wz) rfl ?_ ⟨rfl, Below.refl _ _⟩
      unfold execOp
      generalize fr.eval = ev at e ⊢
      simp [go_sem, e]
    | 4, _ =>
      simp only [List.getElem?_toArray, List.getElem?_cons_zero, List.getElem?_cons_succ, Option.some.injEq] at hop
      subst hop
      have h3 : vs 3 = .pointer (some ⟨w.heap.size, 8, none⟩) := hd 3 (by decide)
      generalize hfr : fxF _ vs fxT _ 4 = fr
      have e : fr.eval (.tmp 29) = .pointer (some ⟨w.heap.size, 8, none⟩) := by rw [← hfr]; exact (fx_new (by simp) 4 (by kernel_rfl)).trans h3
      clear hfr
      have hcc := cells10 (rowD r0.out hinv)
      exact fx_cellD 24 (.tmp 29) rfl rfl w.heap.size 8 e (.slice a rn c) hcc.2.2.2.2.2.2.2.2.1 (Tryd.isAgg24 wz) ⟨rfl, Below.refl _ _⟩
    | 5, _ =>
      simp only [List.getElem?_toArray, List.getElem?_cons_zero, List.getElem?_cons_succ, Option.some.injEq] at hop
      subst hop
      obtain ⟨g2, h2, hg2, hr2⟩ : ∃ g, vs 2 = .slice (some ⟨g, 0, none⟩) 0 0 ∧ W.heap.size ≤ g ∧ wz.heap[g]? = some (.cells #[] 5 (0, 0)) := hd 2 (by decide)
      have h4 : vs 4 = .slice a rn c := hd 4 (by decide)
      generalize hfr : fxF _ vs fxT _ 5 = fr
      have e1 : fr.eval (.tmp 28) = .slice (some ⟨g2, 0, none⟩) 0 0 := by rw [← hfr]; exact (fx_new (by simp) 5 (by kernel_rfl)).trans h2
      have e2 : fr.eval (.tmp 30) = .slice a rn c := by rw [← hfr]; exact (fx_new (by simp) 5 (by kernel_rfl)).trans h4
      clear hfr
      obtain ⟨v', w', hrun, o1, o2⟩ := clone_B (P := Tryd.prog) wz W.heap.size 24 24 5 Tryd.underlying24 (by kernel_rfl) g2 hr2 hg2 (.slice a rn c) r (hra.out.mono hinv) (by rw [hrnh.out]; omega)
      exact fxu_append2 (.tmp 28) (.tmp 30) 24 rfl rfl e1 e2 hrun ⟨o1, o2⟩
    | 6, _ =>
      simp only [List.getElem?_toArray, List.getElem?_cons_zero, List.getElem?_cons_succ, Option.some.injEq] at hop
      subst hop
      generalize hfr : fxF _ vs fxT _ 6 = fr
      have e : fr.eval (.tmp 2) = .pointer (some ⟨w.heap.size, 0, none⟩) := by rw [← hfr]; exact fx_old 6 (by kernel_rfl)
      clear hfr
      refine fx_val (v := .pointer (some ⟨w.heap.size, 9, none⟩)) (w' := wz) rfl ?_ ⟨rfl, Below.refl _ _⟩
      unfold execOp
      generalize fr.eval = ev at e ⊢
      simp [go_sem, e]
    | 7, _ =>
      simp only [List.getElem?_toArray, List.getElem?_cons_zero, List.getElem?_cons_succ, Option.some.injEq] at hop
      subst hop
      have h6 : vs 6 = .pointer (some ⟨w.heap.size, 9, none⟩) := hd 6 (by decide)
      generalize hfr : fxF _ vs fxT _ 7 = fr
      have e : fr.eval (.tmp 32) = .pointer (some ⟨w.heap.size, 9, none⟩) := by rw [← hfr]; exact (fx_new (by simp) 7 (by kernel_rfl)).trans h6
      clear hfr
      have hcc := cells10 (rowD r0.out hinv)
      exact fx_cellD 3 (.tmp 32) rfl rfl w.heap.size 9 e (.int .i64 N) hcc.2.2.2.2.2.2.2.2.2 (Tryd.isAgg3 wz) ⟨rfl, Below.refl _ _⟩
    | 8, _ =>
      simp only [List.getElem?_toArray, List.getElem?_cons_zero, List.getElem?_cons_succ, Option.some.injEq] at hop
      subst hop
      have h1 : vs 1 = .agg #[.int .u32 V.a, .int .u32 V.b, .int .u32 V.c, .int .u32 V.d, .int .u32 V.e, .int .u32 V.f, .int .u32 V.g, .int .u32 V.h] := hd 1 (by decide)
      have h5 : OwnB W.heap.size 5 wz (vs 5) r := hd 5 (by decide)
      have h7 : vs 7 = .int .i64 N := hd 7 (by decide)
      obtain ⟨qa, qc, h5v⟩ := h5.rd.slice
      generalize hfr : fxF _ vs fxT _ 8 = fr
      have e1 : fr.eval (.tmp 27) = .agg #[.int .u32 V.a, .int .u32 V.b, .int .u32 V.c, .int .u32 V.d, .int .u32 V.e, .int .u32 V.f, .int .u32 V.g, .int .u32 V.h] := by rw [← hfr]; exact (fx_new (by simp) 8 (by kernel_rfl)).trans h1
      have e2 : fr.eval (.tmp 31) = .slice qa r.length qc := by rw [← hfr]; exact (fx_new (by simp) 8 (by kernel_rfl)).trans h5v
      have e3 : fr.eval (.tmp 33) = .int .i64 N := by rw [← hfr]; exact (fx_new (by simp) 8 (by kernel_rfl)).trans h7
      clear hfr
      rw [h5v] at h5
      refine fx_val (v := millV V (.slice qa r.length qc) N) (w' := wz) rfl ?_ ⟨⟨_, rfl, h5⟩, Below.refl _ _⟩
      unfold execOp millV
      generalize fr.eval = ev at e1 e2 e3 ⊢
      simp [go_sem, e1, e2, e3]
    | 9, _ =>
      simp only [List.getElem?_toArray, List.getElem?_cons_zero, List.getElem?_cons_succ, Option.some.injEq] at hop
      subst hop
      refine fx_val (v := .slice (some ⟨wz.heap.size, 0, none⟩) 0 0) (w' := wz.alloc (.cells #[] 5)) rfl ?_ ⟨⟨_, rfl, hinv.size, heap_alloc_new wz _⟩, below_aD _ _⟩
      generalize fxF _ vs fxT _ 9 = fr
      unfold execOp
      generalize fr.eval = ev
      simp [go_sem]
    | 10, _ =>
      simp only [List.getElem?_toArray, List.getElem?_cons_zero, List.getElem?_cons_succ, Option.some.injEq] at hop
      subst hop
      generalize hfr : fxF _ vs fxT _ 10 = fr
      have e : fr.eval (.tmp 1) = .slice b ln d := by rw [← hfr]; exact fx_old 10 (by kernel_rfl)
      clear hfr
      refine fx_move (.tmp 1) rfl rfl ⟨e, Below.refl _ _⟩
    | 11, _ =>
      simp only [List.getElem?_toArray, List.getElem?_cons_zero, List.getElem?_cons_succ, Option.some.injEq] at hop
      subst hop
      obtain ⟨g2, h2, hg2, hr2⟩ : ∃ g, vs 9 = .slice (some ⟨g, 0, none⟩) 0 0 ∧ W.heap.size ≤ g ∧ wz.heap[g]? = some (.cells #[] 5 (0, 0)) := hd 9 (by decide)
      have h4 : vs 10 = .slice b ln d := hd 10 (by decide)
      generalize hfr : fxF _ vs fxT _ 11 = fr
      have e1 : fr.eval (.tmp 35) = .slice (some ⟨g2, 0, none⟩) 0 0 := by rw [← hfr]; exact (fx_new (by simp) 11 (by kernel_rfl)).trans h2
      have e2 : fr.eval (.tmp 36) = .slice b ln d := by rw [← hfr]; exact (fx_new (by simp) 11 (by kernel_rfl)).trans h4
      clear hfr
      obtain ⟨v', w', hrun, o1, o2⟩ := clone_B (P := Tryd.prog) wz W.heap.size 24 24 5 Tryd.underlying24 (by kernel_rfl) g2 hr2 hg2 (.slice b ln d) l (hla.out.mono hinv) (by rw [hlnh.out]; omega)
      exact fxu_append2 (.tmp 35) (.tmp 36) 24 rfl rfl e1 e2 hrun ⟨o1, o2⟩
    | 12, _ =>
      simp only [List.getElem?_toArray, List.getElem?_cons_zero, List.getElem?_cons_succ, Option.some.injEq] at hop
      subst hop
      refine fx_val (v := .pointer (some ⟨wz.heap.size, 0, none⟩)) (w' := wz.alloc (.cells #[.int .u32 0, .int .u32 0, .int .u32 0, .int .u32 0, .int .u32 0, .int .u32 0, .int .u32 0, .int .u32 0, .slice none 0 0, .int .i64 0] 26)) rfl ?_ ⟨⟨_, rfl, hinv.size, heap_alloc_new wz _⟩, below_aD _ _⟩
      generalize fxF _ vs fxT _ 12 = fr
      unfold execOp
      generalize fr.eval = ev
      simp [go_sem]
    | i' + 13, hi' => exact absurd hi' (by omega)
  case hdone =>
    intro vs w5 hinv hf
    obtain ⟨q8, h8, o8⟩ : ∃ q, vs 8 = millV V q N ∧ OwnB W.heap.size 5 w5 q r := hf 8 (by decide)
    have o11 : OwnB W.heap.size 5 w5 (vs 11) l := hf 11 (by decide)
    obtain ⟨g12, h12, hg12, hr12⟩ : ∃ g, vs 12 = .pointer (some ⟨g, 0, none⟩) ∧ W.heap.size ≤ g ∧ w5.heap[g]? = some (.cells #[.int .u32 0, .int .u32 0, .int .u32 0, .int .u32 0, .int .u32 0, .int .u32 0, .int .u32 0, .int .u32 0, .slice none 0 0, .int .i64 0] 26 (0, 0)) := hf 12 (by decide)
    obtain ⟨qa, qc, hq⟩ := o8.rd.slice
    subst hq
    obtain ⟨xa, xc, hx⟩ := o11.rd.slice
    rw [hx] at o11
    rw [hrnh.out] at o8 h8
    rw [hlnh.out] at o11 hx
    simp only [fxF, fxT, if_true, List.drop_succ_cons, List.drop_zero, List.getElem?_toArray, List.getElem?_cons_zero, List.getElem?_cons_succ, Option.bind_some]
    rw [h8, h12, hx]
    unfold millV
    clear hf h8 h12 hx
    generalize vs 0 = z0 at *
    generalize vs 1 = z1 at *
    generalize vs 2 = z2 at *
    generalize vs 3 = z3 at *
    generalize vs 4 = z4 at *
    generalize vs 5 = z5 at *
    generalize vs 6 = z6 at *
    generalize vs 7 = z7 at *
    generalize vs 9 = z9 at *
    generalize vs 10 = z10 at *
    have o8 := Lib.hid (show OwnB W.heap.size 5 (w5.setRow g12 #[.int .u32 V.a, .int .u32 V.b, .int .u32 V.c, .int .u32 V.d, .int .u32 V.e, .int .u32 V.f, .int .u32 V.g, .int .u32 V.h, (.slice qa rn qc), .int .i64 N]) (.slice qa rn qc) r from ownB_setRowT o8 hr12 (by decide) _)
    have o11 := Lib.hid (show OwnB W.heap.size 5 (w5.setRow g12 #[.int .u32 V.a, .int .u32 V.b, .int .u32 V.c, .int .u32 V.d, .int .u32 V.e, .int .u32 V.f, .int .u32 V.g, .int .u32 V.h, (.slice qa rn qc), .int .i64 N]) (.slice xa ln xc) l from ownB_setRowT o11 hr12 (by decide) _)
    have r12 := Lib.hid (setRow_heap w5 g12 _ #[.int .u32 V.a, .int .u32 V.b, .int .u32 V.c, .int .u32 V.d, .int .u32 V.e, .int .u32 V.f, .int .u32 V.g, .int .u32 V.h, (.slice qa rn qc), .int .i64 N] _ _ hr12)
    have hB1 := Lib.hid (below_setRow' (g := g12) hinv hg12 #[.int .u32 V.a, .int .u32 V.b, .int .u32 V.c, .int .u32 V.d, .int .u32 V.e, .int .u32 V.f, .int .u32 V.g, .int .u32 V.h, (.slice qa rn qc), .int .i64 N])
    have hg12 := Lib.hid hg12
    have hrr := Lib.hid hr12
    clear hinv hr12
    refine wpList_store_row (P := Tryd.prog) rfl 26 (.tmp 5) (.tmp 34) rfl g12 #[.int .u32 V.a, .int .u32 V.b, .int .u32 V.c, .int .u32 V.d, .int .u32 V.e, .int .u32 V.f, .int .u32 V.g, .int .u32 V.h, (.slice qa rn qc), .int .i64 N] (by kernel_rfl) (by kernel_rfl) 26 _ hrr.out (by kernel_rfl) rfl (by simp [Value.oneCell']) ?_
    generalize w5.setRow g12 #[.int .u32 V.a, .int .u32 V.b, .int .u32 V.c, .int .u32 V.d, .int .u32 V.e, .int .u32 V.f, .int .u32 V.g, .int .u32 V.h, (.slice qa rn qc), .int .i64 N] = W2 at *
    clear hrr
    replace r0 := Lib.hid (rowD r0.out hB1.out)
    replace hra := Lib.hid (hra.out.mono hB1.out)
    replace hla := Lib.hid (hla.out.mono hB1.out)
    replace hS0 := Lib.hid (hS0.out.trans (hB1.out.mono hS0.out.size))
    have hWg := Lib.hid (show w.heap.size < W.heap.size from hWl.out)
    have hWW := Lib.hid hB1.out.size
    clear hB1
    have hS2 := Lib.hid (Below.refl W2.heap.size W2)
    have old8 := Lib.hid (own_oldB o8.out)
    have old11 := Lib.hid (own_oldB o11.out)
    have xR := Lib.hid o8.out.rd
    have xB := Lib.hid o11.out.rd
    obtain ⟨Rn, hRn⟩ : ∃ n, R.length = n := ⟨_, rfl⟩
    replace hRn := Lib.hid hRn
    have cA := hP.out.p
    unfold millV at cA
    replace cA := Lib.hid cA
    have cR := hP.out.q
    unfold millV at cR
    replace cR := Lib.hid cR
    have cE := hQ.out.p
    unfold millV at cE
    replace cE := Lib.hid cE
    have cF := hQ.out.q
    unfold millV at cF
    replace cF := Lib.hid cF
    have di := Lib.hid (show (Tryd.prog.info? 33).map (·.size) = some (u8s D).size by rw [u8s_size, hQ.out.len]; kernel_rfl)
    have ds := Lib.hid (show 32 = (u8s D).size by rw [u8s_size, hQ.out.len])
    go_upto_region 5 with (first | (refine wpList_load_row_g rfl 26 _ rfl g12 rfl 26 #[.int .u32 V.a, .int .u32 V.b, .int .u32 V.c, .int .u32 V.d, .int .u32 V.e, .int .u32 V.f, .int .u32 V.g, .int .u32 V.h, (.slice qa rn qc), .int .i64 N] (0, 0) _ r12.out Tryd.underlying26 rfl (by kernel_rfl) ?_) | (go_at_call 5; (with_reducible refine (cA.out _ _ _ xR.out xB.out (hGw.out.mono hS0.out)).mono ?_); rintro e9 w4 ⟨y, rfl, q1, q2⟩; have hz2 := hS2.out.size; (try replace r0 := Lib.hid (rowD r0.out q2)); (try replace r12 := Lib.hid (rowD r12.out q2)); (try replace hra := Lib.hid (hra.out.mono q2)); (try replace hla := Lib.hid (hla.out.mono q2)); (try replace xR := Lib.hid (xR.out.mono q2)); (try replace xB := Lib.hid (xB.out.mono q2)); (try replace o8 := Lib.hid (o8.out.kept q2)); (try replace o11 := Lib.hid (o11.out.kept q2)); replace hS0 := Lib.hid (hS0.out.trans (q2.mono hS0.out.size)); replace hS2 := Lib.hid (hS2.out.trans (q2.mono hS2.out.size)); obtain ⟨ya, yc, hy⟩ : ∃ a c, y = .slice a Rn c := (by obtain ⟨a, c, e⟩ := q1.rd.slice; rw [hRn.out] at e; exact ⟨a, c, e⟩); subst hy; have oA := Lib.hid q1; have nA := Lib.hid (show NewB W2.heap.size (.slice ya Rn yc) from fun b o n c e => Nat.le_trans hz2 (own_newB q1 b o n c e)); clear q1; clear q2))
    have xA := Lib.hid oA.out.rd
    clear oA hz2
    obtain ⟨w5, hw5⟩ : ∃ W, W = w4.alloc (.cells #[.int .u32 G.a, .int .u32 G.b, .int .u32 G.c, .int .u32 G.d, .int .u32 G.e, .int .u32 G.f, .int .u32 G.g, .int .u32 G.h, (.slice ya Rn yc), .int .i64 NN] 26) := ⟨_, rfl⟩
    rw [← hw5]
    have hbn := Lib.hid (show Below w4.heap.size w4 w5 by rw [hw5]; exact below_aD w4 _)
    have r7 := Lib.hid (show w5.heap[w4.heap.size]? = some (.cells #[.int .u32 G.a, .int .u32 G.b, .int .u32 G.c, .int .u32 G.d, .int .u32 G.e, .int .u32 G.f, .int .u32 G.g, .int .u32 G.h, (.slice ya Rn yc), .int .i64 NN] 26 (0, 0)) by rw [hw5]; exact heap_alloc_new w4 _)
    (try replace r0 := Lib.hid (rowD r0.out hbn.out))
    (try replace r12 := Lib.hid (rowD r12.out hbn.out))
    (try replace hra := Lib.hid (hra.out.mono hbn.out))
    (try replace hla := Lib.hid (hla.out.mono hbn.out))
    (try replace xR := Lib.hid (xR.out.mono hbn.out))
    (try replace xB := Lib.hid (xB.out.mono hbn.out))
    (try replace xA := Lib.hid (xA.out.mono hbn.out))
    (try replace o8 := Lib.hid (o8.out.kept hbn.out))
    (try replace o11 := Lib.hid (o11.out.kept hbn.out))
    replace hS0 := Lib.hid (hS0.out.trans (hbn.out.mono hS0.out.size))
    replace hS2 := Lib.hid (hS2.out.trans (hbn.out.mono hS2.out.size))
    obtain ⟨g7, hg7⟩ : ∃ g, g = w4.heap.size := ⟨_, rfl⟩
    rw [← hg7] at r7
    rw [← hg7]
    clear hw5 hbn hg7 w4
    go_upto_region 6 with (first | (refine wpList_load_row_g rfl 26 _ rfl w.heap.size rfl 26 #[.int .u32 V.a, .int .u32 V.b, .int .u32 V.c, .int .u32 V.d, .int .u32 V.e, .int .u32 V.f, .int .u32 V.g, .int .u32 V.h, (.slice a rn c), .int .i64 N] (0, 0) _ r0.out Tryd.underlying26 rfl (by kernel_rfl) ?_) | (go_at_call 6; (with_reducible refine (cR.out _ _ _ hra.out hla.out).mono ?_); rintro e9 w4 ⟨y, rfl, q1, q3, q2⟩; have hz2 := hS2.out.size; (try replace r0 := Lib.hid (rowD r0.out q2)); (try replace r12 := Lib.hid (rowD r12.out q2)); (try replace r7 := Lib.hid (rowD r7.out q2)); (try replace hra := Lib.hid (hra.out.mono q2)); (try replace hla := Lib.hid (hla.out.mono q2)); (try replace xR := Lib.hid (xR.out.mono q2)); (try replace xB := Lib.hid (xB.out.mono q2)); (try replace xA := Lib.hid (xA.out.mono q2)); (try replace o8 := Lib.hid (o8.out.kept q2)); (try replace o11 := Lib.hid (o11.out.kept q2)); replace hS0 := Lib.hid (hS0.out.trans (q2.mono hS0.out.size)); replace hS2 := Lib.hid (hS2.out.trans (q2.mono hS2.out.size)); obtain ⟨za, zc, hy⟩ : ∃ a c, y = .slice a Rn c := (by obtain ⟨a, c, e⟩ := q1.slice; rw [hRn.out] at e; exact ⟨a, c, e⟩); subst hy; have xC := Lib.hid q1; have nC := Lib.hid (show NewB W2.heap.size (.slice za Rn zc) from fun b o n c e => Nat.le_trans hz2 (q3 b o n c e)); clear q1 q3; clear q2))
    clear hz2
    obtain ⟨w6, hw6⟩ : ∃ W, W = w4.alloc (.cells #[.int .u32 G.a, .int .u32 G.b, .int .u32 G.c, .int .u32 G.d, .int .u32 G.e, .int .u32 G.f, .int .u32 G.g, .int .u32 G.h, (.slice za Rn zc), .int .i64 NN] 26) := ⟨_, rfl⟩
    rw [← hw6]
    have hbn := Lib.hid (show Below w4.heap.size w4 w6 by rw [hw6]; exact below_aD w4 _)
    have r9 := Lib.hid (show w6.heap[w4.heap.size]? = some (.cells #[.int .u32 G.a, .int .u32 G.b, .int .u32 G.c, .int .u32 G.d, .int .u32 G.e, .int .u32 G.f, .int .u32 G.g, .int .u32 G.h, (.slice za Rn zc), .int .i64 NN] 26 (0, 0)) by rw [hw6]; exact heap_alloc_new w4 _)
    (try replace r0 := Lib.hid (rowD r0.out hbn.out))
    (try replace r12 := Lib.hid (rowD r12.out hbn.out))
    (try replace r7 := Lib.hid (rowD r7.out hbn.out))
    (try replace hra := Lib.hid (hra.out.mono hbn.out))
    (try replace hla := Lib.hid (hla.out.mono hbn.out))
    (try replace xR := Lib.hid (xR.out.mono hbn.out))
    (try replace xB := Lib.hid (xB.out.mono hbn.out))
    (try replace xA := Lib.hid (xA.out.mono hbn.out))
    (try replace xC := Lib.hid (xC.out.mono hbn.out))
    (try replace o8 := Lib.hid (o8.out.kept hbn.out))
    (try replace o11 := Lib.hid (o11.out.kept hbn.out))
    replace hS0 := Lib.hid (hS0.out.trans (hbn.out.mono hS0.out.size))
    replace hS2 := Lib.hid (hS2.out.trans (hbn.out.mono hS2.out.size))
    obtain ⟨g9, hg9⟩ : ∃ g, g = w4.heap.size := ⟨_, rfl⟩
    rw [← hg9] at r9
    rw [← hg9]
    clear hw6 hbn hg9 w4
    go_upto_region 7 with (first | (refine wpList_load_row_g rfl 26 _ rfl g12 rfl 26 #[.int .u32 V.a, .int .u32 V.b, .int .u32 V.c, .int .u32 V.d, .int .u32 V.e, .int .u32 V.f, .int .u32 V.g, .int .u32 V.h, (.slice qa rn qc), .int .i64 N] (0, 0) _ r12.out Tryd.underlying26 rfl (by kernel_rfl) ?_) | (go_at_call 7; (with_reducible refine (cE.out _ _ xR.out (hGw.out.mono hS0.out)).mono ?_); rintro e9 w4 ⟨rfl, q2⟩; (try replace r0 := Lib.hid (rowD r0.out q2)); (try replace r12 := Lib.hid (rowD r12.out q2)); (try replace r7 := Lib.hid (rowD r7.out q2)); (try replace r9 := Lib.hid (rowD r9.out q2)); (try replace hra := Lib.hid (hra.out.mono q2)); (try replace hla := Lib.hid (hla.out.mono q2)); (try replace xR := Lib.hid (xR.out.mono q2)); (try replace xB := Lib.hid (xB.out.mono q2)); (try replace xA := Lib.hid (xA.out.mono q2)); (try replace xC := Lib.hid (xC.out.mono q2)); (try replace o8 := Lib.hid (o8.out.kept q2)); (try replace o11 := Lib.hid (o11.out.kept q2)); replace hS0 := Lib.hid (hS0.out.trans (q2.mono hS0.out.size)); replace hS2 := Lib.hid (hS2.out.trans (q2.mono hS2.out.size)); clear q2) | (refine storeNew w4 rfl 33 _ _ rfl (u8s D) 33 rfl rfl di.out (Eq.trans (by kernel_rfl) ds.out) (u8s_one _) ?_; intro wx hrx hbx; (try replace r0 := Lib.hid (rowD r0.out hbx)); (try replace r12 := Lib.hid (rowD r12.out hbx)); (try replace r7 := Lib.hid (rowD r7.out hbx)); (try replace r9 := Lib.hid (rowD r9.out hbx)); (try replace hra := Lib.hid (hra.out.mono hbx)); (try replace hla := Lib.hid (hla.out.mono hbx)); (try replace xR := Lib.hid (xR.out.mono hbx)); (try replace xB := Lib.hid (xB.out.mono hbx)); (try replace xA := Lib.hid (xA.out.mono hbx)); (try replace xC := Lib.hid (xC.out.mono hbx)); (try replace o8 := Lib.hid (o8.out.kept hbx)); (try replace o11 := Lib.hid (o11.out.kept hbx)); replace hS0 := Lib.hid (hS0.out.trans (hbx.mono hS0.out.size)); replace hS2 := Lib.hid (hS2.out.trans (hbx.mono hS2.out.size)); have r11 := Lib.hid hrx; clear hrx hbx))
    generalize w4.heap.size = g11 at *
    clear w4
    go_upto_region 8 with (first | (refine wpList_load_row_g rfl 26 _ rfl w.heap.size rfl 26 #[.int .u32 V.a, .int .u32 V.b, .int .u32 V.c, .int .u32 V.d, .int .u32 V.e, .int .u32 V.f, .int .u32 V.g, .int .u32 V.h, (.slice a rn c), .int .i64 N] (0, 0) _ r0.out Tryd.underlying26 rfl (by kernel_rfl) ?_) | (go_at_call 8; (with_reducible refine (cF.out _ _ hra.out).mono ?_); rintro e9 w4 ⟨rfl, q2⟩; (try replace r0 := Lib.hid (rowD r0.out q2)); (try replace r12 := Lib.hid (rowD r12.out q2)); (try replace r7 := Lib.hid (rowD r7.out q2)); (try replace r9 := Lib.hid (rowD r9.out q2)); (try replace r11 := Lib.hid (rowD r11.out q2)); (try replace hra := Lib.hid (hra.out.mono q2)); (try replace hla := Lib.hid (hla.out.mono q2)); (try replace xR := Lib.hid (xR.out.mono q2)); (try replace xB := Lib.hid (xB.out.mono q2)); (try replace xA := Lib.hid (xA.out.mono q2)); (try replace xC := Lib.hid (xC.out.mono q2)); (try replace o8 := Lib.hid (o8.out.kept q2)); (try replace o11 := Lib.hid (o11.out.kept q2)); replace hS0 := Lib.hid (hS0.out.trans (q2.mono hS0.out.size)); replace hS2 := Lib.hid (hS2.out.trans (q2.mono hS2.out.size)); clear q2) | (refine storeNew w4 rfl 33 _ _ rfl (u8s D) 33 rfl rfl di.out (Eq.trans (by kernel_rfl) ds.out) (u8s_one _) ?_; intro wx hrx hbx; (try replace r0 := Lib.hid (rowD r0.out hbx)); (try replace r12 := Lib.hid (rowD r12.out hbx)); (try replace r7 := Lib.hid (rowD r7.out hbx)); (try replace r9 := Lib.hid (rowD r9.out hbx)); (try replace r11 := Lib.hid (rowD r11.out hbx)); (try replace hra := Lib.hid (hra.out.mono hbx)); (try replace hla := Lib.hid (hla.out.mono hbx)); (try replace xR := Lib.hid (xR.out.mono hbx)); (try replace xB := Lib.hid (xB.out.mono hbx)); (try replace xA := Lib.hid (xA.out.mono hbx)); (try replace xC := Lib.hid (xC.out.mono hbx)); (try replace o8 := Lib.hid (o8.out.kept hbx)); (try replace o11 := Lib.hid (o11.out.kept hbx)); replace hS0 := Lib.hid (hS0.out.trans (hbx.mono hS0.out.size)); replace hS2 := Lib.hid (hS2.out.trans (hbx.mono hS2.out.size)); have r13 := Lib.hid hrx; clear hrx hbx))
    generalize w4.heap.size = g13 at *
    clear w4
    have sM := Lib.hid (fun (wz : World) h1 h2 => same_yes V (.slice qa rn qc) (.slice a rn c) r N wz (by rw [hrnh.out]; omega) h1 h2)
    replace sM := Lib.hid (by have h := sM.out; unfold millV at h; exact h)
    have sB := Lib.hid (fun (wz : World) h1 h2 => sameb_yes xa b xc d ln l wz hlnh.out (by omega) h1 h2)
    go_upto_region 10 with (first | (refine wpList_load_row_g rfl 26 _ rfl g12 rfl 26 #[.int .u32 V.a, .int .u32 V.b, .int .u32 V.c, .int .u32 V.d, .int .u32 V.e, .int .u32 V.f, .int .u32 V.g, .int .u32 V.h, (.slice qa rn qc), .int .i64 N] (0, 0) _ r12.out Tryd.underlying26 rfl (by kernel_rfl) ?_) | (refine wpList_load_row_g rfl 26 _ rfl w.heap.size rfl 26 #[.int .u32 V.a, .int .u32 V.b, .int .u32 V.c, .int .u32 V.d, .int .u32 V.e, .int .u32 V.f, .int .u32 V.g, .int .u32 V.h, (.slice a rn c), .int .i64 N] (0, 0) _ r0.out Tryd.underlying26 rfl (by kernel_rfl) ?_) | (go_at_call 9; (with_reducible refine (sM.out _ xR.out hra.out).mono ?_); rintro e9 w4 ⟨rfl, q2⟩; (try replace r0 := Lib.hid (rowD r0.out q2)); (try replace r12 := Lib.hid (rowD r12.out q2)); (try replace r7 := Lib.hid (rowD r7.out q2)); (try replace r9 := Lib.hid (rowD r9.out q2)); (try replace r11 := Lib.hid (rowD r11.out q2)); (try replace r13 := Lib.hid (rowD r13.out q2)); (try replace hra := Lib.hid (hra.out.mono q2)); (try replace hla := Lib.hid (hla.out.mono q2)); (try replace xR := Lib.hid (xR.out.mono q2)); (try replace xB := Lib.hid (xB.out.mono q2)); (try replace xA := Lib.hid (xA.out.mono q2)); (try replace xC := Lib.hid (xC.out.mono q2)); (try replace o8 := Lib.hid (o8.out.kept q2)); (try replace o11 := Lib.hid (o11.out.kept q2)); replace hS0 := Lib.hid (hS0.out.trans (q2.mono hS0.out.size)); replace hS2 := Lib.hid (hS2.out.trans (q2.mono hS2.out.size)); clear q2) | (go_at_call 10; (with_reducible refine (sB.out _ xB.out hla.out).mono ?_); rintro e9 w4 ⟨rfl, q2⟩; (try replace r0 := Lib.hid (rowD r0.out q2)); (try replace r12 := Lib.hid (rowD r12.out q2)); (try replace r7 := Lib.hid (rowD r7.out q2)); (try replace r9 := Lib.hid (rowD r9.out q2)); (try replace r11 := Lib.hid (rowD r11.out q2)); (try replace r13 := Lib.hid (rowD r13.out q2)); (try replace hra := Lib.hid (hra.out.mono q2)); (try replace hla := Lib.hid (hla.out.mono q2)); (try replace xR := Lib.hid (xR.out.mono q2)); (try replace xB := Lib.hid (xB.out.mono q2)); (try replace xA := Lib.hid (xA.out.mono q2)); (try replace xC := Lib.hid (xC.out.mono q2)); (try replace o8 := Lib.hid (o8.out.kept q2)); (try replace o11 := Lib.hid (o11.out.kept q2)); replace hS0 := Lib.hid (hS0.out.trans (q2.mono hS0.out.size)); replace hS2 := Lib.hid (hS2.out.trans (q2.mono hS2.out.size)); clear q2))
    have uR := Lib.hid (show U8S _ (.slice qa rn qc) rn by rw [← hrnh.out]; have h := own_u8s o8.out; rw [hrnh.out] at h ⊢; exact h)
    have uB := Lib.hid (show U8S _ (.slice xa ln xc) ln by have h := own_u8s o11.out; rw [hlnh.out] at h; exact h)
    clear o8 o11 r0 hra hla xR xB sM sB cA cR cE cF
    have hw4 := Lib.hid (Nat.le_trans hWW.out hS2.out.size)
    have hw0 := Lib.hid (show w.heap.size ≤ W.heap.size from Nat.le_of_lt hWl.out)
    obtain ⟨kb, hb0, hbB, hbk⟩ := bk_of uB.out old11.out hw4.out
    replace hb0 := Lib.hid hb0; replace hbB := Lib.hid hbB; replace hbk := Lib.hid hbk
    clear hS2 uB old11 hWg
    go_wp2
    go_loopw [15] (fun i wr => ∃ j : Nat, j ≤ ln ∧ i = .int .i64 (j : Int) ∧ Inc kb w4 wr) (fun i _ => ln - (intOf i).toNat)
    case atStart => exact ⟨0, Nat.zero_le _, rfl, Inc.refl _ _⟩
    case round =>
      obtain ⟨j, hj, rfl, hI0⟩ := hrel
      have hI := Lib.hid hI0
      clear hI0
      by_cases hlt : j < ln
      · obtain ⟨hxa, cs, hcs, hx⟩ := hb0.out (by omega)
        obtain ⟨y0, hy0⟩ := hx j hlt
        obtain ⟨cs', hcs', hx'⟩ := hI.out.2.2.2 cs hcs
        obtain ⟨y, hy⟩ := hx' j y0 hy0
        subst hxa
        have kc : wr.cell? ⟨kb, j, none⟩ = some (.int .u8 y) := by rw [cell_of_row _ _ _ _ _ _ hcs']; exact hy
        have kf : wr.frozen? ⟨kb, j, none⟩ = false := frozen_of_row _ _ _ _ _ hcs'
        have kl : kb < wr.heap.size := (Array.getElem?_eq_some_iff.1 hcs').1
        have hjI : (j : Int) < (ln : Int) := by omega
        have hjl := Lib.hid hlt
        have hI2 := Lib.hid (fun z => hI.out.trans (Inc.set hcs' j z))
        clear hx hx' hy hy0 hcs hcs' hj
        go_wp2
        have hw1 : IntKind.i64.wrap ((j : Int) + 1) = ((j + 1 : Nat) : Int) := by rw [IntWalk.i64_in _ (by omega)]; omega
        go_roundw
        case rel => exact ⟨j + 1, by have := hjl.out; omega, by go_num, hI2.out _⟩
        case measure => simp [intOf]; have := hjl.out; omega
      · obtain rfl : ln = j := by omega
        clear hlt hj
        replace r7 := Lib.hid (hI.out.row r7.out (bk_ne hbk.out r7.out (by decide)))
        replace r9 := Lib.hid (hI.out.row r9.out (bk_ne hbk.out r9.out (by decide)))
        replace r11 := Lib.hid (hI.out.row r11.out (bk_ne hbk.out r11.out (by decide)))
        replace r13 := Lib.hid (hI.out.row r13.out (bk_ne hbk.out r13.out (by decide)))
        replace r12 := Lib.hid (hI.out.row r12.out (bk_ne hbk.out r12.out (by decide)))
        replace xA := Lib.hid (hI.out.rd xA.out nA.out (bk_lt hbk.out (Nat.le_refl _)))
        replace xC := Lib.hid (hI.out.rd xC.out nC.out (bk_lt hbk.out (Nat.le_refl _)))
        replace uR := Lib.hid (uR.out.inc hI.out)
        replace hS0 := Lib.hid (hI.out.below (Nat.le_trans hw0.out hbB.out) hS0.out)
        replace hw4 := Lib.hid (show W.heap.size ≤ wr.heap.size by rw [hI.out.2.1]; exact hw4.out)
        clear hI hbk hb0 hbB
        obtain ⟨WL, rfl⟩ : ∃ x, x = wr := ⟨_, rfl⟩
        obtain ⟨kr, hb0, hbB, hbk⟩ := bk_of uR.out old8.out hw4.out
        replace hb0 := Lib.hid hb0; replace hbB := Lib.hid hbB; replace hbk := Lib.hid hbk
        clear uR old8 hw4
        go_wp2
        go_loopw [16] (fun i wr => ∃ j : Nat, j ≤ rn ∧ i = .int .i64 (j : Int) ∧ Inc kr WL wr) (fun i _ => rn - (intOf i).toNat)
        case atStart => exact ⟨0, Nat.zero_le _, rfl, Inc.refl _ _⟩
        case round =>
          obtain ⟨j, hj, rfl, hI0⟩ := hrel
          have hI := Lib.hid hI0
          clear hI0
          by_cases hlt : j < rn
          · obtain ⟨hxa, cs, hcs, hx⟩ := hb0.out (by omega)
            obtain ⟨y0, hy0⟩ := hx j hlt
            obtain ⟨cs', hcs', hx'⟩ := hI.out.2.2.2 cs hcs
            obtain ⟨y, hy⟩ := hx' j y0 hy0
            subst hxa
            have kc : wr.cell? ⟨kr, j, none⟩ = some (.int .u8 y) := by rw [cell_of_row _ _ _ _ _ _ hcs']; exact hy
            have kf : wr.frozen? ⟨kr, j, none⟩ = false := frozen_of_row _ _ _ _ _ hcs'
            have kl : kr < wr.heap.size := (Array.getElem?_eq_some_iff.1 hcs').1
            have hjI : (j : Int) < (rn : Int) := by omega
            have hjl := Lib.hid hlt
            have hI2 := Lib.hid (fun z => hI.out.trans (Inc.set hcs' j z))
            have c12 : wr.cell? ⟨g12, 8, none⟩ = some (.slice (some ⟨kr, 0, none⟩) rn qc) := by rw [cell_of_row _ _ _ _ _ _ (hI.out.row r12.out (bk_ne hbk.out r12.out (by decide)))]; rfl
            have g12n := Lib.hid (bk_ne hbk.out r12.out (by decide))
            clear hx hx' hy hy0 hcs hcs' hj
            go_wp2
            have hw1 : IntKind.i64.wrap ((j : Int) + 1) = ((j + 1 : Nat) : Int) := by rw [IntWalk.i64_in _ (by omega)]; omega
            go_roundw
            case rel => exact ⟨j + 1, by have := hjl.out; omega, by go_num, hI2.out _⟩
            case measure => simp [intOf]; have := hjl.out; omega
          · obtain rfl : rn = j := by omega
            have c12 : wr.cell? ⟨g12, 8, none⟩ = some (.slice qa rn qc) := by rw [cell_of_row _ _ _ _ _ _ (hI.out.row r12.out (bk_ne hbk.out r12.out (by decide)))]; rfl
            clear hlt hj
            replace r7 := Lib.hid (hI.out.row r7.out (bk_ne hbk.out r7.out (by decide)))
            replace r9 := Lib.hid (hI.out.row r9.out (bk_ne hbk.out r9.out (by decide)))
            replace r11 := Lib.hid (hI.out.row r11.out (bk_ne hbk.out r11.out (by decide)))
            replace r13 := Lib.hid (hI.out.row r13.out (bk_ne hbk.out r13.out (by decide)))
            replace xA := Lib.hid (hI.out.rd xA.out nA.out (bk_lt hbk.out (Nat.le_refl _)))
            replace xC := Lib.hid (hI.out.rd xC.out nC.out (bk_lt hbk.out (Nat.le_refl _)))
            replace hS0 := Lib.hid (hI.out.below (Nat.le_trans hw0.out hbB.out) hS0.out)
            clear hI hbk hb0 hbB r12
            have cS := Lib.hid (fun (wz : World) (hg : GlO Tg Tf wz) => (by have h := start_any (Tf := Tf) wz hg.2; rw [hFF.out] at h; exact h : Calls Tryd.prog 11 #[] wz fun e w' => e = .returned (.agg #[.int .u32 F.a, .int .u32 F.b, .int .u32 F.c, .int .u32 F.d, .int .u32 F.e, .int .u32 F.f, .int .u32 F.g, .int .u32 F.h, .slice none 0 0, .int .i64 0]) ∧ Below wz.heap.size wz w'))
            have cT := Lib.hid (fun (wz : World) => rstart_F F hFF.out wz)
            have sF := fun (wz : World) => same_yes F (.slice none 0 0) (.slice none 0 0) [] 0 wz (by simp) (rd_nilD wz) (rd_nilD wz)
            unfold millV at sF
            replace sF := Lib.hid sF
            have sG := fun (wz : World) h1 h2 => same_yes G (.slice ya Rn yc) (.slice za Rn zc) R NN wz (by have := hP.out.len; omega) h1 h2
            unfold millV at sG
            replace sG := Lib.hid sG
            have dl := hQ.out.len
            replace dl := Lib.hid dl
            go_wp2_with (first | (refine wpList_load_row_g rfl 26 _ rfl g7 rfl 26 #[.int .u32 G.a, .int .u32 G.b, .int .u32 G.c, .int .u32 G.d, .int .u32 G.e, .int .u32 G.f, .int .u32 G.g, .int .u32 G.h, (.slice ya Rn yc), .int .i64 NN] (0, 0) _ r7.out Tryd.underlying26 rfl (by kernel_rfl) ?_) | (refine wpList_load_row_g rfl 26 _ rfl g9 rfl 26 #[.int .u32 G.a, .int .u32 G.b, .int .u32 G.c, .int .u32 G.d, .int .u32 G.e, .int .u32 G.f, .int .u32 G.g, .int .u32 G.h, (.slice za Rn zc), .int .i64 NN] (0, 0) _ r9.out Tryd.underlying26 rfl (by kernel_rfl) ?_) | (refine wpList_load_row_g rfl 33 _ rfl g11 rfl 33 (u8s D) (0, 0) _ r11.out Tryd.underlying33 rfl di.out ?_) | (refine wpList_load_row_g rfl 33 _ rfl g13 rfl 33 (u8s D) (0, 0) _ r13.out Tryd.underlying33 rfl di.out ?_) | (go_at_call 11; (with_reducible refine (cS.out _ (hGw.out.mono hS0.out)).mono ?_); rintro e9 w4 ⟨rfl, q2⟩; (try replace r7 := Lib.hid (rowD r7.out q2)); (try replace r9 := Lib.hid (rowD r9.out q2)); (try replace r11 := Lib.hid (rowD r11.out q2)); (try replace r13 := Lib.hid (rowD r13.out q2)); (try replace xA := Lib.hid (xA.out.mono q2)); (try replace xC := Lib.hid (xC.out.mono q2)); replace hS0 := Lib.hid (hS0.out.trans (q2.mono hS0.out.size)); clear q2) | (go_at_call 12; (with_reducible refine (cT.out _).mono ?_); rintro e9 w4 ⟨rfl, q2⟩; (try replace r7 := Lib.hid (rowD r7.out q2)); (try replace r9 := Lib.hid (rowD r9.out q2)); (try replace r11 := Lib.hid (rowD r11.out q2)); (try replace r13 := Lib.hid (rowD r13.out q2)); (try replace xA := Lib.hid (xA.out.mono q2)); (try replace xC := Lib.hid (xC.out.mono q2)); replace hS0 := Lib.hid (hS0.out.trans (q2.mono hS0.out.size)); clear q2) | (go_at_call 9; (with_reducible refine (sF.out _).mono ?_); rintro e9 w4 ⟨rfl, q2⟩; (try replace r7 := Lib.hid (rowD r7.out q2)); (try replace r9 := Lib.hid (rowD r9.out q2)); (try replace r11 := Lib.hid (rowD r11.out q2)); (try replace r13 := Lib.hid (rowD r13.out q2)); (try replace xA := Lib.hid (xA.out.mono q2)); (try replace xC := Lib.hid (xC.out.mono q2)); replace hS0 := Lib.hid (hS0.out.trans (q2.mono hS0.out.size)); clear q2) | (go_at_call 9; (with_reducible refine (sG.out _ xA.out xC.out).mono ?_); rintro e9 w4 ⟨rfl, q2⟩; (try replace r7 := Lib.hid (rowD r7.out q2)); (try replace r9 := Lib.hid (rowD r9.out q2)); (try replace r11 := Lib.hid (rowD r11.out q2)); (try replace r13 := Lib.hid (rowD r13.out q2)); (try replace xA := Lib.hid (xA.out.mono q2)); (try replace xC := Lib.hid (xC.out.mono q2)); replace hS0 := Lib.hid (hS0.out.trans (q2.mono hS0.out.size)); clear q2) | (refine wpList_eqID rfl 33 5 _ _ rfl Tryd.underlying33 Tryd.underlying5 (by kernel_rfl) (by kernel_rfl) D dl.out rfl rfl ?_))
            go_ret
            exact ⟨rfl, hS0.out⟩
end Go.Proofs.YtdlblhoaddfanaaDoor

/- Texts that the row stands on, part 3. -/
import Derived.Test.YtdlblhoaddfanaaDoorRMillsDq02
import Derived.Test.YtdlblhoaddfanaaDoorTie
import Derived.ProofKit
import Derived.LaidMore
import Derived.OpenShut
import Derived.OpenVars
import Derived.Stop.Joined
import Derived.ChangeSlices
namespace Go.Proofs.YtdlblhoaddfanaaDoor
open Go.RowKit Go.YtdlblhoaddfanaaDoor
set_option linter.unusedVariables false
theorem fx_cellD {P : Program} {ops : Array Oper} {o : Oper} {a : Act} {w : World} {R : Value → World → Prop} (ty : TypeId) (x : Operand) (hg : o.guard = none) (ho : o.op = .load ty x) (g k : Nat) (hx : a.eval x = .pointer (some ⟨g, k, none⟩)) (v : Value) (hc : w.cell? ⟨g, k, none⟩ = some v)
    (hu : (isAgg ty).run P w = .ok false w) (hR : R v w) : FxStep P ops o a w R :=
  fx_val (v := v) (w' := w) (by simp [Region.wanted, hg]) (by
    unfold execOp
    generalize a.eval = ev at *
    simp only [ho]
    simp [go_sem, hx, hu, hc]) hR
theorem fx_midD {P : Program} {ops : Array Oper} {o : Oper} {a : Act} {w : World} {R : Value → World → Prop} (ty : TypeId) (x : Operand) (hg : o.guard = none) (ho : o.op = .load ty x) (b off : Nat) (hx : a.eval x = .pointer (some ⟨b, off, none⟩)) (cs : List Value) (d : TypeDesc)
    (hu : P.underlying ty = some d) (hd : d.isRow = true) (hi : (P.info? ty).map (·.size) = some cs.length) (hS : w.rangeAt b off cs) (hR : R (.agg cs.toArray) w) : FxStep P ops o a w R :=
  fx_val (v := .agg cs.toArray) (w' := w) (by simp [Region.wanted, hg]) (by
    unfold execOp
    simp only [ho, hx, Instr.loadAt, Instr.sureAddr, Sem.run_bind, Sem.run_pure, Result.andThen_ok, run_loadVar_mid w b off ty cs d hS hu hd hi]) hR
theorem range_mill {w : World} {g : Nat} {x0 x1 x2 x3 x4 x5 x6 x7 : Value} (h0 : w.cell? ⟨g, 0, none⟩ = some x0) (h1 : w.cell? ⟨g, 1, none⟩ = some x1) (h2 : w.cell? ⟨g, 2, none⟩ = some x2) (h3 : w.cell? ⟨g, 3, none⟩ = some x3) (h4 : w.cell? ⟨g, 4, none⟩ = some x4) (h5 : w.cell? ⟨g, 5, none⟩ = some x5) (h6 : w.cell? ⟨g, 6, none⟩ = some x6) (h7 : w.cell? ⟨g, 7, none⟩ = some x7) : w.rangeAt g 0 [x0, x1, x2, x3, x4, x5, x6, x7] := by
  intro j v hv
  match j with
  | 0 => cases hv; exact h0
  | 1 => cases hv; exact h1
  | 2 => cases hv; exact h2
  | 3 => cases hv; exact h3
  | 4 => cases hv; exact h4
  | 5 => cases hv; exact h5
  | 6 => cases hv; exact h6
  | 7 => cases hv; exact h7
  | j + 8 => cases hv
def enA : List (List Nat) := [[], [0], [], [], [3], [2, 3, 4], [], [6], [2, 3, 4, 5, 6, 7], [2, 3, 4, 5, 6, 7, 8], [0, 1, 2, 3, 4, 5, 6, 7, 8, 9], [0, 1, 2, 3, 4, 5, 6, 7, 8, 9, 10], [0, 1, 2, 3, 4, 5, 6, 7, 8, 9, 10, 11], [0, 1, 2, 3, 4, 5, 6, 7, 8, 9, 10, 11, 12]]
def enU : List (List Nat) := [[], [0], [], [], [3], [2, 4], [], [6], [7], [5, 8]]
def enF : List Nat := [1, 9]
def enΦ (B gm : Nat) (ws : Array Value) (sv : Value) (M : Nat) (r t : List Int) : Nat → (Nat → Value) → World → Prop
  | 0, vs, _ => vs 0 = .pointer (some ⟨gm, 0, none⟩)
  | 1, vs, _ => vs 1 = .agg ws
  | 2, vs, w => ∃ g, vs 2 = .slice (some ⟨g, 0, none⟩) 0 0 ∧ B ≤ g ∧ w.heap[g]? = some (.cells #[] 5 (0, 0))
  | 3, vs, _ => vs 3 = .pointer (some ⟨gm, 8, none⟩)
  | 4, vs, _ => vs 4 = sv
  | 5, vs, w => OwnB B 5 w (vs 5) r
  | 6, vs, _ => vs 6 = .pointer (some ⟨gm, 9, none⟩)
  | 7, vs, _ => vs 7 = .int .i64 (M : Int)
  | 8, vs, w => RdB w (vs 8) t
  | _, vs, w => OwnB B 5 w (vs 9) (r ++ t)
def enG (B i : Nat) (w w' : World) : Prop := Below B w w' ∧ ((i = 5 ∨ i = 9) ∨ Below w.heap.size w w')
theorem enG_same (B i : Nat) (w : World) : enG B i w w := ⟨Below.refl _ _, .inr (Below.refl _ _)⟩
theorem enG_below {B i : Nat} {w w' : World} (hB : B ≤ w.heap.size) (hb : Below w.heap.size w w') : enG B i w w' := ⟨hb.mono hB, .inr hb⟩
theorem en_congr {B gm : Nat} {ws : Array Value} {sv : Value} {M : Nat} {r t : List Int} (j : Nat) (vs vs' : Nat → Value) (w : World) (hj : j < 10) (he : ∀ k, k = j ∨ k ∈ enA.getD j [] → vs k = vs' k)
    (h : enΦ B gm ws sv M r t j vs w) : enΦ B gm ws sv M r t j vs' w := by
  match j, hj with
  | 0, _ => exact (he 0 (.inl rfl)).symm.trans h
  | 1, _ => exact (he 1 (.inl rfl)).symm.trans h
  | 2, _ => obtain ⟨g, e, h1⟩ := h; exact ⟨g, (he 2 (.inl rfl)).symm.trans e, h1⟩
  | 3, _ => exact (he 3 (.inl rfl)).symm.trans h
  | 4, _ => exact (he 4 (.inl rfl)).symm.trans h
  | 5, _ => have h1 := he 5 (.inl rfl); have h2 : OwnB B 5 w (vs 5) r := h; rw [h1] at h2; exact h2
  | 6, _ => exact (he 6 (.inl rfl)).symm.trans h
  | 7, _ => exact (he 7 (.inl rfl)).symm.trans h
  | 8, _ => have h1 := he 8 (.inl rfl); have h2 : RdB w (vs 8) t := h; rw [h1] at h2; exact h2
  | 9, _ => have h1 := he 9 (.inl rfl); have h2 : OwnB B 5 w (vs 9) (r ++ t) := h; rw [h1] at h2; exact h2
  | j' + 10, hj' => exact absurd hj' (by omega)
theorem en_keep {B gm : Nat} {ws : Array Value} {sv : Value} {M : Nat} {r t : List Int} (i j : Nat) (vs : Nat → Value) (w w' : World) (hi : i < 10) (hj : j < 10) (ha : fxAfter enA i j = true) (hn : fxNeed 10 enA enU enF i j = true)
    (h : enΦ B gm ws sv M r t j vs w) (hg : enG B i w w') : enΦ B gm ws sv M r t j vs w' := by
  obtain ⟨_, (rfl | rfl) | hb⟩ := hg
  · match j, hj with
    | 0, _ => exact h
    | 1, _ => exact h
    | 2, _ => first | exact absurd ha (by decide) | exact absurd hn (by decide)
    | 3, _ => exact h
    | 4, _ => exact h
    | 5, _ => first | exact absurd ha (by decide) | exact absurd hn (by decide)
    | 6, _ => exact h
    | 7, _ => exact h
    | 8, _ => first | exact absurd ha (by decide) | exact absurd hn (by decide)
    | 9, _ => first | exact absurd ha (by decide) | exact absurd hn (by decide)
    | j' + 10, hj' => exact absurd hj' (by omega)
  · match j, hj with
    | 0, _ => exact h
    | 1, _ => exact h
    | 2, _ => first | exact absurd ha (by decide) | exact absurd hn (by decide)
    | 3, _ => exact h
    | 4, _ => exact h
    | 5, _ => first | exact absurd ha (by decide) | exact absurd hn (by decide)
    | 6, _ => exact h
    | 7, _ => exact h
    | 8, _ => first | exact absurd ha (by decide) | exact absurd hn (by decide)
    | 9, _ => first | exact absurd ha (by decide) | exact absurd hn (by decide)
    | j' + 10, hj' => exact absurd hj' (by omega)
  · match j, hj with
    | 0, _ => exact h
    | 1, _ => exact h
    | 2, _ => obtain ⟨g, e, h1, h2⟩ := h; exact ⟨g, e, h1, rowD h2 hb⟩
    | 3, _ => exact h
    | 4, _ => exact h
    | 5, _ => exact OwnB.kept h hb
    | 6, _ => exact h
    | 7, _ => exact h
    | 8, _ => exact RdB.mono h hb
    | 9, _ => exact OwnB.kept h hb
    | j' + 10, hj' => exact absurd hj' (by omega)
set_option maxRecDepth 100000 in
set_option maxHeartbeats 4000000 in
theorem rend_ok (v : V8) (rv : Value) (r : List Int) (M : Nat) (w : World) (hv : v.ok) (hr : RdB w rv r) (hrb : Bytes r) (hrl : r.length = M % 64) (hN : M ≤ 200000) :
    Calls Tryd.prog 8 #[.agg #[.int .u32 v.a, .int .u32 v.b, .int .u32 v.c, .int .u32 v.d, .int .u32 v.e, .int .u32 v.f, .int .u32 v.g, .int .u32 v.h, rv, .int .i64 M]] w
     fun e w' => e = .returned (.tuple #[.agg (u8s (endF v r M)), .int .i64 0]) ∧ Below w.heap.size w w' := by
  obtain ⟨a, c, rfl⟩ := hr.slice
  have hvd := validB_yes M r.length (by omega) hrl
  obtain ⟨D, hD⟩ : ∃ D, endF v r M = D := ⟨_, rfl⟩
  obtain ⟨G, hG⟩ : ∃ G, blocksF v (r ++ tailF M) = G := ⟨_, rfl⟩
  have hGok := Lib.hid (show G.ok by rw [← hG]; exact blocksF_ok _ _ hv)
  have hWD := Lib.hid (show writtenF G = D by rw [← hG, ← hD, tail_ending r M hrl]; rfl)
  have hDl : D.length = 32 := by rw [← hD]; exact writtenN_length _ 8
  obtain ⟨DA, hDA⟩ : ∃ DA, u8s D = DA := ⟨_, rfl⟩
  have hi := Lib.hid (show (Tryd.prog.info? 33).map (·.size) = some DA.size from by rw [← hDA, u8s_size, hDl]; kernel_rfl)
  have hs := Lib.hid (show (u8s (zerosB 32)).size = DA.size from by rw [← hDA, u8s_size, u8s_size, hDl, zerosB_length])
  have hone := Lib.hid (show DA.all (·.oneCell') = true by rw [← hDA]; exact u8s_one _)
  have hwr := fun wi => rwritten_G G D wi hGok.out hWD.out
  rw [hDA] at hwr
  have hwr := Lib.hid hwr
  rw [hD, hDA]
  clear hGok hWD
  have hzt := zT_lt M
  have hab := Lib.hid (bytes_append _ _ hrb (tailF_bytes M (by omega)))
  have hal : Hid ((r ++ tailF M).length ≤ 1000000) := Lib.hid (by rw [List.length_append, tailF_length]; omega)
  have hr' := Lib.hid hr; have hG' := Lib.hid hG; have hv' := Lib.hid hv
  have hrl64 : r.length < 64 := by omega
  clear hr hG hrb hrl hv hD hDl hDA
  generalize hrn : r.length = rn at *
  have hrn' := Lib.hid hrn; clear hrn
  go_enter Tryd.func8, Tryd.ntmps8
  go_upto_region 3 with (go_at_call 23; refine (rvalid_any v _ rn M _ ⟨a, c, rfl⟩).mono ?_; rintro e w1 ⟨rfl, hb1⟩; obtain ⟨hc1, hf1⟩ := bcell hb1; have hs1 := fun b (h : b < _) => Nat.lt_of_lt_of_le h hb1.size; have hb1' := Lib.hid hb1; clear hb1)
  obtain ⟨hB1, hz1, hrow1⟩ := below2 w _ _ hb1'.out
  have hrow0 := (hb1'.out.block w.heap.size (by simp; omega)).trans ((hp1 _ _ _ (by simp)).trans (heap_alloc_new w _))
  have k1 := Lib.hid (show w1.heap[w.heap.size + 1]? = some (.cells (u8s (zerosB 32)) 33 (0, 0)) from hrow1); have hB1' := Lib.hid hB1
  have kk : Hid (∀ wz, Below w1.heap.size w1 wz → wz.cell? ⟨w.heap.size, 0, none⟩ = some (.int .u32 v.a) ∧ wz.cell? ⟨w.heap.size, 1, none⟩ = some (.int .u32 v.b) ∧ wz.cell? ⟨w.heap.size, 2, none⟩ = some (.int .u32 v.c) ∧ wz.cell? ⟨w.heap.size, 3, none⟩ = some (.int .u32 v.d) ∧ wz.cell? ⟨w.heap.size, 4, none⟩ = some (.int .u32 v.e) ∧ wz.cell? ⟨w.heap.size, 5, none⟩ = some (.int .u32 v.f) ∧ wz.cell? ⟨w.heap.size, 6, none⟩ = some (.int .u32 v.g) ∧ wz.cell? ⟨w.heap.size, 7, none⟩ = some (.int .u32 v.h) ∧ wz.cell? ⟨w.heap.size, 8, none⟩ = some (.slice a rn c) ∧ wz.cell? ⟨w.heap.size, 9, none⟩ = some (.int .i64 M)) := Lib.hid (fun wz h => cells10 ((h.block w.heap.size (by omega)).trans hrow0))
  have kk2 := Lib.hid (fun (wz : World) (cs : Array Value) (h : Below w1.heap.size w1 wz) => cells10 ((setRow_other wz (w.heap.size + 1) w.heap.size cs (by omega)).trans ((h.block w.heap.size (by omega)).trans hrow0)))
  have r1 := Lib.hid (hr'.out.mono hB1'.out)
  obtain ⟨c0, c1, c2, c3, c4, c5, c6, c7, c8, c9⟩ := kk.out w1 (Below.refl _ _)
  clear hc1 hf1 hs1 hb1' hrow1 hrow0 hB1 hvd hr'
  have hgw : w.heap.size < w1.heap.size := by omega
  clear c0 c1 c2 c3 c4 c5 c6 c7 c8 c9
  refine wp_region_fxu 10 enA enU enF (by kernel_rfl) (by kernel_rfl) (by kernel_rfl) (enΦ w1.heap.size w.heap.size #[.int .u32 v.a, .int .u32 v.b, .int .u32 v.c, .int .u32 v.d, .int .u32 v.e, .int .u32 v.f, .int .u32 v.g, .int .u32 v.h] (.slice a rn c) M r (tailF M)) (enG w1.heap.size) (fun wz => Below w1.heap.size w1 wz) (fun _ _ => True) ((Below.refl _ _).drew) (fun _ _ => trivial) (fun i w w' hi h hg => h.trans hg.1) (fun j vs vs' w hj he h => en_congr j vs vs' w hj he h) (fun i j vs w w' hi hj ha hn hinv h hg => en_keep i j vs w w' hi hj ha hn h hg) (fun _ _ _ _ _ _ _ _ _ _ => trivial) ?hstep ?hdone
  case hstep =>
    intro i op vs wz hi hop hinv hpre hd
    match i, hi with
    | 0, _ =>
      simp only [List.getElem?_toArray, List.getElem?_cons_zero, List.getElem?_cons_succ, Option.some.injEq] at hop
      subst hop
      generalize hfr : fxF _ vs fxT _ 0 = fr
      have e : fr.eval (.tmp 1) = .pointer (some ⟨w.heap.size, 0, none⟩) := by rw [← hfr]; exact fx_old 0 (by kernel_rfl)
      clear hfr
      refine fx_val (v := .pointer (some ⟨w.heap.size, 0, none⟩)) (w' := wz) rfl ?_ ⟨rfl, enG_same _ _ _⟩
      unfold execOp
      generalize fr.eval = ev at e ⊢
      simp [go_sem, e]
    | 1, _ =>
      simp only [List.getElem?_toArray, List.getElem?_cons_zero, List.getElem?_cons_succ, Option.some.injEq] at hop
      subst hop
      have h0 : vs 0 = .pointer (some ⟨w.heap.size, 0, none⟩) := hd 0 (by decide)
      generalize hfr : fxF _ vs fxT _ 1 = fr
      have e : fr.eval (.tmp 8) = .pointer (some ⟨w.heap.size, 0, none⟩) := by rw [← hfr]; exact (fx_new (by simp) 1 (by kernel_rfl)).trans h0
      clear hfr
      obtain ⟨c0, c1, c2, c3, c4, c5, c6, c7, c8, c9⟩ := kk.out wz hinv
      exact fx_midD 23 (.tmp 8) rfl rfl w.heap.size 0 e _ _ Tryd.underlying23 rfl (by kernel_rfl) (range_mill c0 c1 c2 c3 c4 c5 c6 c7) ⟨rfl, enG_same _ _ _⟩
    | 2, _ =>
      simp only [List.getElem?_toArray, List.getElem?_cons_zero, List.getElem?_cons_succ, Option.some.injEq] at hop
      subst hop
      refine fx_val (v := .slice (some ⟨wz.heap.size, 0, none⟩) 0 0) (w' := wz.alloc (.cells #[] 5)) rfl ?_ ⟨⟨_, rfl, hinv.size, heap_alloc_new wz _⟩, enG_below hinv.size (below_aD _ _)⟩
      generalize fxF _ vs fxT _ 2 = fr
      unfold execOp
      generalize fr.eval = ev
      simp [go_sem]
    | 3, _ =>
      simp only [List.getElem?_toArray, List.getElem?_cons_zero, List.getElem?_cons_succ, Option.some.injEq] at hop
      subst hop
      generalize hfr : fxF _ vs fxT _ 3 = fr
      have e : fr.eval (.tmp 1) = .pointer (some ⟨w.heap.size, 0, none⟩) := by rw [← hfr]; exact fx_old 3 (by kernel_rfl)
      clear hfr
      refine fx_val (v := .pointer (some ⟨w.heap.size, 8, none⟩)) (w' := wz) rfl ?_ ⟨rfl, enG_same _ _ _⟩
      unfold execOp
      generalize fr.eval = ev at e ⊢
      simp [go_sem, e]
    | 4, _ =>
      simp only [List.getElem?_toArray, List.getElem?_cons_zero, List.getElem?_cons_succ, Option.some.injEq] at hop
      subst hop
      have h3 : vs 3 = .pointer (some ⟨w.heap.size, 8, none⟩) := hd 3 (by decide)
      generalize hfr : fxF _ vs fxT _ 4 = fr
      have e : fr.eval (.tmp 11) = .pointer (some ⟨w.heap.size, 8, none⟩) := by rw [← hfr]; exact (fx_new (by simp) 4 (by kernel_rfl)).trans h3
      clear hfr
      have hcc := kk.out wz hinv
      exact fx_cellD 24 (.tmp 11) rfl rfl w.heap.size 8 e (.slice a rn c) hcc.2.2.2.2.2.2.2.2.1 (Tryd.isAgg24 wz) ⟨rfl, enG_same _ _ _⟩
    | 5, _ =>
      simp only [List.getElem?_toArray, List.getElem?_cons_zero, List.getElem?_cons_succ, Option.some.injEq] at hop
      subst hop
      obtain ⟨g2, h2, hg2, hr2⟩ : ∃ g, vs 2 = .slice (some ⟨g, 0, none⟩) 0 0 ∧ w1.heap.size ≤ g ∧ wz.heap[g]? = some (.cells #[] 5 (0, 0)) := hd 2 (by decide)
      have h4 : vs 4 = .slice a rn c := hd 4 (by decide)
      generalize hfr : fxF _ vs fxT _ 5 = fr
      have e1 : fr.eval (.tmp 10) = .slice (some ⟨g2, 0, none⟩) 0 0 := by rw [← hfr]; exact (fx_new (by simp) 5 (by kernel_rfl)).trans h2
      have e2 : fr.eval (.tmp 12) = .slice a rn c := by rw [← hfr]; exact (fx_new (by simp) 5 (by kernel_rfl)).trans h4
      clear hfr
      obtain ⟨v', w', hrun, o1, o2⟩ := run_appendB wz w1.heap.size 24 24 5 Tryd.underlying24 (by kernel_rfl) (.slice (some ⟨g2, 0, none⟩) 0 0) [] (own_lit0 hr2 hg2) (.slice a rn c) r (r1.out.mono hinv) (by rw [hrn'.out]; simp; omega) hinv.size
      exact fxu_append2 (.tmp 10) (.tmp 12) 24 rfl rfl e1 e2 hrun ⟨o1, (own_lit0 hr2 hg2).below o2 hinv.size, .inl (.inl rfl)⟩
    | 6, _ =>
      simp only [List.getElem?_toArray, List.getElem?_cons_zero, List.getElem?_cons_succ, Option.some.injEq] at hop
      subst hop
      generalize hfr : fxF _ vs fxT _ 6 = fr
      have e : fr.eval (.tmp 1) = .pointer (some ⟨w.heap.size, 0, none⟩) := by rw [← hfr]; exact fx_old 6 (by kernel_rfl)
      clear hfr
      refine fx_val (v := .pointer (some ⟨w.heap.size, 9, none⟩)) (w' := wz) rfl ?_ ⟨rfl, enG_same _ _ _⟩
      unfold execOp
      generalize fr.eval = ev at e ⊢
      simp [go_sem, e]
    | 7, _ =>
      simp only [List.getElem?_toArray, List.getElem?_cons_zero, List.getElem?_cons_succ, Option.some.injEq] at hop
      subst hop
      have h6 : vs 6 = .pointer (some ⟨w.heap.size, 9, none⟩) := hd 6 (by decide)
      generalize hfr : fxF _ vs fxT _ 7 = fr
      have e : fr.eval (.tmp 14) = .pointer (some ⟨w.heap.size, 9, none⟩) := by rw [← hfr]; exact (fx_new (by simp) 7 (by kernel_rfl)).trans h6
      clear hfr
      have hcc := kk.out wz hinv
      exact fx_cellD 3 (.tmp 14) rfl rfl w.heap.size 9 e (.int .i64 (M : Int)) hcc.2.2.2.2.2.2.2.2.2 (Tryd.isAgg3 wz) ⟨rfl, enG_same _ _ _⟩
    | 8, _ =>
      simp only [List.getElem?_toArray, List.getElem?_cons_zero, List.getElem?_cons_succ, Option.some.injEq] at hop
      subst hop
      have h7 : vs 7 = .int .i64 (M : Int) := hd 7 (by decide)
      generalize hfr : fxF _ vs fxT _ 8 = fr
      have e1 : fr.eval (.tmp 15) = .int .i64 (M : Int) := by rw [← hfr]; exact (fx_new (by simp) 8 (by kernel_rfl)).trans h7
      clear hfr
      refine fx_call #[.int .i64 (M : Int)] rfl rfl Tryd.func27 (by kernel_rfl) rfl (by simp [e1]) rfl ((rtail_F M wz (by omega)).mono ?_)
      rintro e9 w9 ⟨ta, tc, rfl, z1, z2⟩
      exact ⟨_, rfl, z1, enG_below hinv.size z2⟩
    | 9, _ =>
      simp only [List.getElem?_toArray, List.getElem?_cons_zero, List.getElem?_cons_succ, Option.some.injEq] at hop
      subst hop
      have h5 : OwnB w1.heap.size 5 wz (vs 5) r := hd 5 (by decide)
      have h8 : RdB wz (vs 8) (tailF M) := hd 8 (by decide)
      generalize hfr : fxF _ vs fxT _ 9 = fr
      have e1 : fr.eval (.tmp 13) = vs 5 := by rw [← hfr]; exact (fx_new (by simp) 9 (by kernel_rfl)).trans rfl
      have e2 : fr.eval (.tmp 16) = vs 8 := by rw [← hfr]; exact (fx_new (by simp) 9 (by kernel_rfl)).trans rfl
      clear hfr
      obtain ⟨v', w', hrun, o1, o2⟩ := run_appendB wz w1.heap.size 24 24 5 Tryd.underlying24 (by kernel_rfl) (vs 5) r h5 (vs 8) (tailF M) h8 (by rw [hrn'.out, tailF_length]; omega) hinv.size
      exact fxu_append2 (.tmp 13) (.tmp 16) 24 rfl rfl e1 e2 hrun ⟨o1, h5.below o2 hinv.size, .inl (.inr rfl)⟩
    | i' + 10, hi' => exact absurd hi' (by omega)
  case hdone =>
    intro vs w5 hinv hf
    have h1 : vs 1 = .agg #[.int .u32 v.a, .int .u32 v.b, .int .u32 v.c, .int .u32 v.d, .int .u32 v.e, .int .u32 v.f, .int .u32 v.g, .int .u32 v.h] := hf 1 (by decide) (by decide)
    have h9 : OwnB w1.heap.size 5 w5 (vs 9) (r ++ tailF M) := hf 9 (by decide) (by decide)
    obtain ⟨xa, xc, hx⟩ := h9.rd.slice
    have rd4 := Lib.hid h9.rd
    rw [hx] at rd4
    simp only [fxF, fxT, if_true, List.drop_succ_cons, List.drop_zero, List.getElem?_toArray, List.getElem?_cons_zero, List.getElem?_cons_succ, Option.bind_some]
    rw [h1, hx]
    generalize (r ++ tailF M).length = xn at rd4 ⊢
    have hBx := Lib.hid hinv
    have hz4 := hinv.size
    have k5 := Lib.hid ((hinv.block (w.heap.size + 1) hz1).trans k1.out)
    clear hf h1 hx h9 hinv
    generalize vs 0 = z0 at *
    generalize vs 2 = z2 at *
    generalize vs 3 = z3 at *
    generalize vs 4 = z4 at *
    generalize vs 5 = z5 at *
    generalize vs 6 = z6 at *
    generalize vs 7 = z7 at *
    generalize vs 8 = z8 at *
    go_wp2_with (first
      | (go_at_call 24; (with_reducible refine (rblocks_any v G _ _ _ hv'.out hab.out rd4.out hal.out hG'.out).mono ?_); rintro e w6 ⟨rfl, hb5⟩; replace hBx := Lib.hid (hBx.out.trans (hb5.mono hz4)); have k6 := Lib.hid ((hb5.block (w.heap.size + 1) (Nat.lt_of_lt_of_le hz1 hz4)).trans k5.out); have hz5 := hBx.out.size; clear hb5)
      | (go_at_call 26; (with_reducible refine (hwr.out _).mono ?_); rintro e w7 ⟨rfl, hb6⟩; replace hBx := Lib.hid (hBx.out.trans (hb6.mono hz5)); have k7 := Lib.hid ((hb6.block (w.heap.size + 1) (Nat.lt_of_lt_of_le hz1 hz5)).trans k6.out); clear hb6)
      | (refine wpList_store_row rfl 33 _ _ rfl (w.heap.size + 1) DA rfl rfl 33 _ k7.out hi.out hs.out hone.out ?_))
    try simp only [Exit.inBlock, Exit.then]
    exact bodyPost_ret (results_row_tmp rfl _ _ (w.heap.size + 1) 33 _ _ _ rfl (setRow_heap _ _ _ _ _ _ k7.out) Tryd.underlying33 rfl hi.out) rfl ⟨rfl, below_setRow' (hB1'.out.trans (hBx.out.mono (by omega))) (Nat.le_succ _) _⟩
end Go.Proofs.YtdlblhoaddfanaaDoor
namespace Go.Proofs.YtdlblhoaddfanaaDoor
open Go.RowKit Go.YtdlblhoaddfanaaDoor
set_option linter.unusedVariables false
theorem setRow_sameD {w : World} {g : Nat} {cs : Array Value} {t : TypeId} {fr : Nat × Nat} (h : w.heap[g]? = some (.cells cs t fr)) : w.setRow g cs = w := by
  have e : (w.setRow g cs).heap = w.heap := by
    apply Array.ext_getElem?
    intro i
    by_cases hi : i = g
    · subst hi; rw [setRow_heap _ _ _ cs _ _ h, h]
    · exact setRow_other w g i cs hi
  unfold World.setRow at e ⊢
  simp only at e
  rw [e]
theorem run_clone {P : Program} (w : World) (B : Nat) (t ty e : TypeId) (i : TypeInfo) (z : Value) (size bytes : Nat) (ht : P.underlying t = some (.slice e)) (hi : P.info? e = some i) (hz : i.zero = some z)
    (hsize : i.size = size) (hby : i.bytes = bytes) (hzs : z.cells.size = size) (hsz : 0 < size) (g : Nat) (hg : w.heap[g]? = some (.cells #[] e (0, 0))) (hB : B ≤ g)
    (a : Addr) (m c : Nat) (news : List Value) (hl : news.length = m * size) (hnews : ∀ j u, news[j]? = some u → w.cell? (a.add j) = some u) (h1 : ∀ u ∈ news, u.oneCell' = true)
    (h63 : m ≤ maxLen) (hbytes : m * bytes ≤ 140737488355328) :
    ∃ v' w', (Builtin.append_ #[t, t] ty #[.slice (some ⟨g, 0, none⟩) 0 0, .slice (some a) m c]).run P w = .ok v' w' ∧ w'.ownsRow B e size v' m news ∧ Below w.heap.size w w' := by
  subst hsize
  subst hby
  have hgl := (Array.getElem?_eq_some_iff.1 hg).1
  by_cases hm : m = 0
  · subst hm
    have hn : news = [] := List.eq_nil_of_length_eq_zero (by simpa using hl)
    subst hn
    have hr := run_append_room (P := P) w t ty e i ht hi g 0 0 #[] hg a 0 c [] hl hnews h1 (Nat.le_refl _) (by simp)
    have hs : w.setRow g #[] = w := setRow_sameD hg
    refine ⟨_, _, hr, ?_, ?_⟩
    · simp only [List.append_nil, List.take_nil, List.drop_nil, List.append_nil]
      rw [show ([] : List Value).toArray = #[] from rfl]
      first
        | (rw [hs]; exact ⟨by simp, .inr ⟨g, 0, #[], rfl, hB, hg, Nat.le_refl _, by decide, by simp, by simp⟩⟩)
        | (refine ⟨by simp, .inr ⟨g, 0, _, rfl, hB, setRow_heap w g #[] _ e _ hg, Nat.le_refl _, by decide, by simp, by simp⟩⟩)
    · have : (w.setRow g (([] : List Value)).toArray) = w := hs
      first
        | (simp only [List.append_nil, List.take_nil, List.drop_nil]; rw [this]; exact Below.refl _ _)
        | (rw [show _ = w from hs]; exact Below.refl _ _)
  · have hmx := h63
    unfold maxLen at hmx
    have hr := run_append_grow (P := P) w t ty e i z ht hi hz ⟨g, 0, none⟩ 0 0 [] (by simp) (fun j u h => by cases h) a m c news hl hnews (by omega) (by omega) (growslice_fits (by omega) (by simpa using hbytes))
    have hge := grownCap_ge w (0 + m) 0 e
    have hcm : grownCap w (0 + m) 0 e ≤ maxLen := grownCap_le_maxLen w (0 + m) 0 e (by simpa using h63)
    refine ⟨_, _, hr, ⟨by simpa using hl, .inr ⟨w.heap.size, grownCap w (0 + m) 0 e, _, by simp, Nat.le_of_lt (Nat.lt_of_le_of_lt hB hgl), heap_alloc_new w.drew _, by simpa using hge, hcm, ?_, ?_⟩⟩, ((Below.refl w.heap.size w).drew).alloc (Nat.le_refl _) _⟩
    · simp only [Array.size_append, List.size_toArray, size_zeroCells, hzs, hl, ← Nat.add_mul, List.length_nil, Nat.zero_add, List.nil_append, Array.size_empty]
      have hge' : m ≤ grownCap w m 0 e := by simpa using hge
      rw [show m + (grownCap w m 0 e - m) = grownCap w m 0 e by omega]
    · simp only [Array.toList_append, List.append_assoc, List.nil_append]
      first | (rw [← hl]; exact List.take_left) | simp [hl]
theorem clone_B {P : Program} (w : World) (B : Nat) (t ty e : TypeId) (ht : P.underlying t = some (.slice e)) (hinfo : (P.info? e).map (fun i => (i.zero, i.size, i.bytes)) = some (some (.int .u8 0), 1, 1))
    (g : Nat) (hg : w.heap[g]? = some (.cells #[] e (0, 0))) (hB : B ≤ g) (sv : Value) (l : List Int) (hr : RdB w sv l) (hlen : l.length ≤ 1000000) :
    ∃ v' w', (Builtin.append_ #[t, t] ty #[.slice (some ⟨g, 0, none⟩) 0 0, sv]).run P w = .ok v' w' ∧ OwnB B e w' v' l ∧ Below w.heap.size w w' := by
  obtain ⟨i, hi, hz, hs, hb⟩ := info_parts hinfo
  have how : OwnB B e w (.slice (some ⟨g, 0, none⟩) 0 0) [] := ⟨rfl, .inr ⟨g, 0, _, rfl, hB, hg, Nat.le_refl _, by decide, rfl, rfl⟩⟩
  rcases hr with ⟨sa, sc, rfl, hsn, rfl⟩ | ⟨b, o, c, rfl, h1, h2, h3, h4⟩
  · cases sa with
    | some sa =>
      obtain ⟨v', w', hrun, ho, hbe⟩ := run_clone (P := P) w B t ty e i (.int .u8 0) 1 1 ht hi hz hs hb rfl (by omega) g hg hB sa 0 sc (u8v []) (by rw [u8v_length]; rfl) (fun k x hx => by cases hx) (u8v_one []) (by decide) (by omega)
      exact ⟨v', w', hrun, ho, hbe⟩
    | none =>
      obtain rfl := hsn rfl
      exact ⟨_, w, run_append_owned_none (P := P) (w := w) B t ty e i 1 ht hi _ 0 (u8v []) how, how, Below.refl _ _⟩
  · obtain ⟨v', w', hrun, ho, hbe⟩ := run_clone (P := P) w B t ty e i (.int .u8 0) 1 1 ht hi hz hs hb rfl (by omega) g hg hB ⟨b, o, none⟩ l.length c (u8v l) (by rw [u8v_length]; omega) (RdB.src h4) (u8v_one l) (by unfold maxLen; omega) (by omega)
    exact ⟨v', w', hrun, ho, hbe⟩
def Z8 : V8 := ⟨0, 0, 0, 0, 0, 0, 0, 0⟩
theorem validB_of {N : Int} {n : Nat} (h : validB N n = true) : ∃ M : Nat, N = (M : Int) ∧ M ≤ 200000 ∧ n = M % 64 := by
  unfold validB at h
  simp only [Bool.and_eq_true, decide_eq_true_eq] at h
  refine ⟨N.toNat, ?_, ?_, ?_⟩ <;> omega
/-- What Add answers, in the program and in the reference. -/
structure AddP (Tg Tf : TypeId) (V : V8) (N : Int) (r l : List Int) (G : V8) (R : List Int) (NN E : Int) : Prop where
  p : ∀ (rv bv : Value) (wz : World), RdB wz rv r → RdB wz bv l → GlO Tg Tf wz → Calls Tryd.prog 5 #[millV V rv N, bv] wz fun e w' => ∃ q, e = .returned (.tuple #[millV G q NN, .int .i64 E]) ∧ OwnB wz.heap.size 5 w' q R ∧ Below wz.heap.size wz w'
  q : ∀ (rv bv : Value) (wz : World), RdB wz rv r → RdB wz bv l → Calls Tryd.prog 6 #[millV V rv N, bv] wz fun e w' => ∃ q, e = .returned (.tuple #[millV G q NN, .int .i64 E]) ∧ RdB w' q R ∧ NewB wz.heap.size q ∧ Below wz.heap.size wz w'
  len : R.length ≤ 1000000
theorem rd_nilD (w : World) : RdB w (.slice none 0 0) [] := .inl ⟨none, 0, rfl, fun _ => rfl, rfl⟩
theorem add_packD {Tg Tf : TypeId} (V : V8) (N : Int) (r l : List Int) (hV : V.ok) (hr : Bytes r) (hl : Bytes l) (nl : l.length ≤ 1500) : ∃ G R NN E, AddP Tg Tf V N r l G R NN E := by
  cases hv : validB N r.length with
  | false =>
    refine ⟨Z8, [], 0, 8, ?_, ?_, by simp⟩
    · intro rv bv wz h1 h2 h3
      obtain ⟨a, c, rfl⟩ := h1.slice
      exact (add_bad V _ r.length N bv wz ⟨a, c, rfl⟩ hv).mono fun e w' ⟨he, hb⟩ => ⟨_, he, OwnB.nil _ _ _, hb⟩
    · intro rv bv wz h1 h2
      obtain ⟨a, c, rfl⟩ := h1.slice
      exact (radd_bad V _ r.length N bv wz ⟨a, c, rfl⟩ hv).mono fun e w' ⟨he, hb⟩ => ⟨_, he, rd_nilD _, NewB.nil _ _ _, hb⟩
  | true =>
    obtain ⟨M, rfl, hM, hn⟩ := validB_of hv
    by_cases hm : 200000 - (M : Int) < (l.length : Int)
    · refine ⟨Z8, [], 0, 4, ?_, ?_, by simp⟩
      · intro rv bv wz h1 h2 h3
        obtain ⟨a, c, rfl⟩ := h1.slice
        obtain ⟨ba, bc, rfl⟩ := h2.slice
        exact (add_many V _ r.length M ba l.length bc wz ⟨a, c, rfl⟩ hv hm (by omega) (by omega)).mono fun e w' ⟨he, hb⟩ => ⟨_, he, OwnB.nil _ _ _, hb⟩
      · intro rv bv wz h1 h2
        obtain ⟨a, c, rfl⟩ := h1.slice
        obtain ⟨ba, bc, rfl⟩ := h2.slice
        exact (radd_many V _ r.length M ba l.length bc wz ⟨a, c, rfl⟩ hv hm (by omega) (by omega)).mono fun e w' ⟨he, hb⟩ => ⟨_, he, rd_nilD _, NewB.nil _ _ _, hb⟩
    · refine ⟨blocksF V (r ++ l), restF (r ++ l), ((M + l.length : Nat) : Int), 0, ?_, ?_, by rw [restF_length]; omega⟩
      · intro rv bv wz h1 h2 h3
        exact add_ok (Tg := Tg) V _ rv r M bv l wz hV h1 h2 hr hl hn (by omega) rfl h3.1
      · intro rv bv wz h1 h2
        exact radd_ok V _ rv r M bv l wz hV h1 h2 hr hl hn (by omega) rfl
/-- What End answers, in the program and in the reference. -/
structure EndP (Tg Tf : TypeId) (V : V8) (N : Int) (r : List Int) (D : List Int) (E : Int) : Prop where
  p : ∀ (rv : Value) (wz : World), RdB wz rv r → GlO Tg Tf wz → Calls Tryd.prog 7 #[millV V rv N] wz fun e w' => e = .returned (.tuple #[.agg (u8s D), .int .i64 E]) ∧ Below wz.heap.size wz w'
  q : ∀ (rv : Value) (wz : World), RdB wz rv r → Calls Tryd.prog 8 #[millV V rv N] wz fun e w' => e = .returned (.tuple #[.agg (u8s D), .int .i64 E]) ∧ Below wz.heap.size wz w'
  len : D.length = 32
theorem end_packD {Tg Tf : TypeId} (V : V8) (N : Int) (r : List Int) (hV : V.ok) (hr : Bytes r) : ∃ D E, EndP Tg Tf V N r D E := by
  cases hv : validB N r.length with
  | false =>
    refine ⟨zerosB 32, 8, ?_, ?_, zerosB_length 32⟩
    · intro rv wz h1 h3
      obtain ⟨a, c, rfl⟩ := h1.slice
      exact end_bad V _ r.length N wz ⟨a, c, rfl⟩ hv
    · intro rv wz h1
      obtain ⟨a, c, rfl⟩ := h1.slice
      exact rend_bad V _ r.length N wz ⟨a, c, rfl⟩ hv
  | true =>
    obtain ⟨M, rfl, hM, hn⟩ := validB_of hv
    refine ⟨endF V r M, 0, ?_, ?_, writtenN_length _ 8⟩
    · intro rv wz h1 h3
      exact end_ok (Tg := Tg) V rv r M wz hV h1 hr hn hM h3.1
    · intro rv wz h1
      exact rend_ok V rv r M wz hV h1 hr hn hM
/-- Bytes of the block k were changed, and nothing else. -/
def Inc (k : Nat) (w w' : World) : Prop :=
  Below k w w' ∧ w'.heap.size = w.heap.size ∧ (∀ g, g ≠ k → w'.heap[g]? = w.heap[g]?) ∧ ∀ cs : Array Value, w.heap[k]? = some (.cells cs 5 (0, 0)) → ∃ cs' : Array Value, w'.heap[k]? = some (.cells cs' 5 (0, 0)) ∧ ∀ (i : Nat) (x : Int), cs[i]? = some (Value.int .u8 x) → ∃ y : Int, cs'[i]? = some (Value.int .u8 y)
theorem Inc.refl (k : Nat) (w : World) : Inc k w w := ⟨Below.refl _ _, rfl, fun _ _ => rfl, fun cs h => ⟨cs, h, fun i x hx => ⟨x, hx⟩⟩⟩
theorem Inc.trans {k : Nat} {a b c : World} (h : Inc k a b) (h' : Inc k b c) : Inc k a c :=
  ⟨h.1.trans h'.1, h'.2.1.trans h.2.1, fun g hg => (h'.2.2.1 g hg).trans (h.2.2.1 g hg), fun cs hc => (by
    obtain ⟨c1, h1, h2⟩ := h.2.2.2 cs hc
    obtain ⟨c3, h3, h4⟩ := h'.2.2.2 c1 h1
    exact ⟨c3, h3, fun i x hx => (by obtain ⟨y, hy⟩ := h2 i x hx; exact h4 i y hy)⟩)⟩
theorem Inc.row {k : Nat} {w w' : World} (h : Inc k w w') {g : Nat} {o : Obj} (hg : w.heap[g]? = some o) (hne : g ≠ k) : w'.heap[g]? = some o := (h.2.2.1 g hne).trans hg
theorem Inc.rd {k : Nat} {w w' : World} (h : Inc k w w') {v : Value} {l : List Int} (hr : RdB w v l) {B : Nat} (hv : NewB B v) (hk : k < B ∨ w.heap.size ≤ k) : RdB w' v l := by
  rcases hr with hn | ⟨b, o, c, rfl, h1, h2, h3, h4⟩
  · exact .inl hn
  · have := hv b o _ _ rfl
    refine .inr ⟨b, o, c, rfl, h1, h2, by rw [h.2.1]; exact h3, fun i hi => ?_⟩
    have := h4 i hi
    unfold World.cell? at this ⊢
    rw [h.2.2.1 b (by omega)]
    exact this
theorem Inc.set {k : Nat} {w : World} {cs : Array Value} (hk : w.heap[k]? = some (.cells cs 5 (0, 0))) (i : Nat) (y : Int) : Inc k w (w.setCell ⟨k, i, none⟩ (.int .u8 y)) := by
  refine ⟨(Below.refl k w).setCell (p := ⟨k, i, none⟩) (Nat.le_refl k) _, World.size_setCell w ⟨k, i, none⟩ _, fun g hg => setCell_rows k i _ g hg, fun cs' hcs' => ?_⟩
  · rw [hk] at hcs'
    cases hcs'
    refine ⟨_, setCell_row hk i _, fun j x hx => ?_⟩
    by_cases e : i = j
    · subst e
      have hj := (Array.getElem?_eq_some_iff.1 hx).1
      exact ⟨y, by simp [hj]⟩
    · exact ⟨x, by simp [e]; exact hx⟩
theorem Inc.below {k B : Nat} {w w' : World} (h : Inc k w w') (hB : B ≤ k) {w0 : World} (h0 : Below B w0 w) : Below B w0 w' := h0.trans (h.1.mono hB)
theorem own_newB {B : Nat} {E : TypeId} {w : World} {v : Value} {l : List Int} (h : OwnB B E w v l) : NewB B v := by
  intro b o n c e
  rcases h.2 with ⟨rfl, _⟩ | ⟨g, cap, cur, rfl, hb, _⟩
  · cases e
  · cases e; exact hb
theorem own_oldB {B : Nat} {E : TypeId} {w : World} {a : Option Addr} {n c : Nat} {l : List Int} (h : OwnB B E w (.slice a n c) l) : ∀ g, a = some ⟨g, 0, none⟩ → B ≤ g ∧ g < w.heap.size := by
  intro k e
  rcases h.2 with ⟨e2, _⟩ | ⟨g, cap, cur, e2, hb, hg, _⟩
  · rw [e] at e2; cases e2
  · rw [e] at e2; cases e2; exact ⟨hb, (Array.getElem?_eq_some_iff.1 hg).1⟩
/-- A slice of bytes of one's own, whatever they are. -/
def U8S (w : World) (v : Value) (n : Nat) : Prop := ∃ a c, v = .slice a n c ∧ (0 < n → ∃ g cs, a = some ⟨g, 0, none⟩ ∧ w.heap[g]? = some (.cells cs 5 (0, 0)) ∧ ∀ i, i < n → ∃ x, cs[i]? = some (Value.int .u8 x))
theorem U8S.inc {k : Nat} {w w' : World} (h : Inc k w w') {v : Value} {n : Nat} (hv : U8S w v n) : U8S w' v n := by
  obtain ⟨a, c, rfl, hh⟩ := hv
  refine ⟨a, c, rfl, fun hn => ?_⟩
  obtain ⟨g, cs, rfl, h1, h2⟩ := hh hn
  by_cases e : g = k
  · subst e
    obtain ⟨cs', h3, h4⟩ := h.2.2.2 cs h1
    exact ⟨g, cs', rfl, h3, fun i hi => (by obtain ⟨x, hx⟩ := h2 i hi; exact h4 i x hx)⟩
  · exact ⟨g, cs, rfl, h.row h1 e, h2⟩
theorem U8S.mono {w w' : World} {v : Value} {n : Nat} (hv : U8S w v n) (hb : Below w.heap.size w w') : U8S w' v n := by
  obtain ⟨a, c, rfl, hh⟩ := hv
  refine ⟨a, c, rfl, fun hn => ?_⟩
  obtain ⟨g, cs, rfl, h1, h2⟩ := hh hn
  exact ⟨g, cs, rfl, rowD h1 hb, h2⟩
theorem bk_of {w : World} {a : Option Addr} {n c B M : Nat} (h : U8S w (.slice a n c) n) (hk : ∀ g, a = some ⟨g, 0, none⟩ → B ≤ g ∧ g < M) (hB : B ≤ w.heap.size) :
    ∃ k, (0 < n → a = some ⟨k, 0, none⟩ ∧ ∃ cs : Array Value, w.heap[k]? = some (.cells cs 5 (0, 0)) ∧ ∀ i, i < n → ∃ x : Int, cs[i]? = some (Value.int .u8 x)) ∧ B ≤ k ∧ (k < M ∧ (∃ cs : Array Value, w.heap[k]? = some (.cells cs 5 (0, 0))) ∨ w.heap.size ≤ k) := by
  obtain ⟨a', c', e, hh⟩ := h
  cases e
  by_cases h0 : 0 < n
  · obtain ⟨g, cs, rfl, h1, h2⟩ := hh h0
    exact ⟨g, fun _ => ⟨rfl, cs, h1, h2⟩, (hk g rfl).1, .inl ⟨(hk g rfl).2, cs, h1⟩⟩
  · exact ⟨w.heap.size, fun h => absurd h h0, hB, .inr (Nat.le_refl _)⟩
theorem bk_ne {w : World} {k M g : Nat} {ds : Array Value} {T : TypeId} (h : k < M ∧ (∃ cs : Array Value, w.heap[k]? = some (.cells cs 5 (0, 0))) ∨ w.heap.size ≤ k) (hg : w.heap[g]? = some (.cells ds T (0, 0))) (hT : T ≠ 5) : g ≠ k := by
  intro e
  subst e
  rcases h with ⟨_, cs, h1⟩ | h1
  · rw [hg] at h1
    injection h1 with h1
    injection h1 with _ h2 _
    exact hT h2
  · have := (Array.getElem?_eq_some_iff.1 hg).1
    omega
theorem bk_lt {w : World} {k M B : Nat} (h : k < M ∧ (∃ cs : Array Value, w.heap[k]? = some (.cells cs 5 (0, 0))) ∨ w.heap.size ≤ k) (hM : M ≤ B) : k < B ∨ w.heap.size ≤ k := h.imp (fun x => Nat.lt_of_lt_of_le x.1 hM) id
theorem wpList_eqID {P : Program} {ops : Array Oper} {rest : List Oper} {o : Oper} {a : Act} {w : World} {Q : Exit → Act → World → Prop} (hw : Region.wanted o (yielded ops a.tmps) = true) (t elem : TypeId) (x y : Operand) (ho : o.op = .binOp .eql t x y t) (ht : P.underlying t = some (.array 32 elem)) (he : P.underlying elem = some (.int .u8)) (hs : (P.info? elem).map (·.size) = some 1) (h0 : P.eqGuardType P.depth t = false)
    (D : List Int) (hD : D.length = 32) (hx : a.eval x = .agg (u8s D)) (hy : a.eval y = .agg (u8s D)) (h : wpList P ops Q rest (a.put o.dst (.bool true)) w) : wpList P ops Q (o :: rest) a w :=
  wpList_step fun K hK => by
    rw [if_pos hw]
    have hg := run_eqGuard_agg (P := P) w .eql t x y (u8s D) (u8s D) h0
    have hq := run_equalArr (P := P) w 9998 t elem 32 ht he hs D D hD hD
    unfold Oper.wp execOp
    generalize a.eval = ev at *
    simp only [ho]
    simp [go_sem, hx, hy, hg, hq]
    exact hK _ _ h
theorem own_u8s {B : Nat} {w : World} {v : Value} {l : List Int} (h : OwnB B 5 w v l) : U8S w v l.length := by
  rcases h.2 with ⟨rfl, h0⟩ | ⟨g, cap, cur, rfl, hb, hg, hn, hm, hs, ht⟩
  · rw [h0]; exact ⟨none, 0, rfl, fun h => absurd h (Nat.lt_irrefl 0)⟩
  · refine ⟨_, cap, rfl, fun _ => ⟨g, cur, rfl, hg, fun i hi => ?_⟩⟩
    have hx := u8v_get l i hi
    rw [← ht, List.getElem?_take, if_pos (by simpa using hi)] at hx
    exact ⟨_, by simpa using hx⟩
end Go.Proofs.YtdlblhoaddfanaaDoor
namespace Go.Proofs.YtdlblhoaddfanaaDoor
open Go.RowKit Go.YtdlblhoaddfanaaDoor
set_option linter.unusedVariables false
theorem ownB_setRowT {B : Nat} {E T : TypeId} {w : World} {v : Value} {l : List Int} (h : OwnB B E w v l) {g : Nat} {cs : Array Value} {fr : Nat × Nat} (hg : w.heap[g]? = some (.cells cs T fr)) (hT : T ≠ E) (cs' : Array Value) : OwnB B E (w.setRow g cs') v l := by
  refine ⟨h.1, ?_⟩
  rcases h.2 with hn | ⟨k, cap, cur, rfl, hbg, hk, rest⟩
  · exact .inl hn
  · refine .inr ⟨k, cap, cur, rfl, hbg, (setRow_other w g k cs' (fun e => ?_)).trans hk, rest⟩
    subst e
    rw [hg] at hk
    injection hk with hk
    injection hk with _ h2 _
    exact hT h2
end Go.Proofs.YtdlblhoaddfanaaDoor
namespace Go.Proofs.YtdlblhoaddfanaaDoor
open Go.RowKit Go.YtdlblhoaddfanaaDoor
set_option linter.unusedVariables false
def mlA : List (List Nat) := [[], [0], [], [], [3], [2, 3, 4], [], [6], [0, 1, 2, 3, 4, 5, 6, 7], [], [], [2, 3, 4, 5, 9, 10], [], [0, 1, 2, 3, 4, 5, 6, 7, 8, 9, 10, 11, 12], [0, 1, 2, 3, 4, 5, 6, 7, 8, 9, 10, 11, 12, 13]]
def mlΦ (B gm : Nat) (V : V8) (rv bv : Value) (N : Int) (r l : List Int) : Nat → Value → World → Prop
  | 0, v, _ => v = .pointer (some ⟨gm, 0, none⟩)
  | 1, v, _ => v = .agg #[.int .u32 V.a, .int .u32 V.b, .int .u32 V.c, .int .u32 V.d, .int .u32 V.e, .int .u32 V.f, .int .u32 V.g, .int .u32 V.h]
  | 2, v, w => ∃ g, v = .slice (some ⟨g, 0, none⟩) 0 0 ∧ B ≤ g ∧ w.heap[g]? = some (.cells #[] 5 (0, 0))
  | 3, v, _ => v = .pointer (some ⟨gm, 8, none⟩)
  | 4, v, _ => v = rv
  | 5, v, w => OwnB B 5 w v r
  | 6, v, _ => v = .pointer (some ⟨gm, 9, none⟩)
  | 7, v, _ => v = .int .i64 N
  | 8, v, w => ∃ q, v = millV V q N ∧ OwnB B 5 w q r
  | 9, v, w => ∃ g, v = .slice (some ⟨g, 0, none⟩) 0 0 ∧ B ≤ g ∧ w.heap[g]? = some (.cells #[] 5 (0, 0))
  | 10, v, _ => v = bv
  | 11, v, w => OwnB B 5 w v l
  | _, v, w => ∃ g, v = .pointer (some ⟨g, 0, none⟩) ∧ B ≤ g ∧ w.heap[g]? = some (.cells #[.int .u32 0, .int .u32 0, .int .u32 0, .int .u32 0, .int .u32 0, .int .u32 0, .int .u32 0, .int .u32 0, .slice none 0 0, .int .i64 0] 26 (0, 0))
theorem ml_keep {B gm : Nat} {V : V8} {rv bv : Value} {N : Int} {r l : List Int} (j : Nat) (v : Value) (w w' : World) (hj : j < 13) (h : mlΦ B gm V rv bv N r l j v w) (hb : Below w.heap.size w w') : mlΦ B gm V rv bv N r l j v w' := by
  match j, hj with
  | 0, _ => exact h
  | 1, _ => exact h
  | 2, _ => obtain ⟨g, e, h1, h2⟩ := h; exact ⟨g, e, h1, rowD h2 hb⟩
  | 3, _ => exact h
  | 4, _ => exact h
  | 5, _ => exact OwnB.kept h hb
  | 6, _ => exact h
  | 7, _ => exact h
  | 8, _ => obtain ⟨q, e, h1⟩ := h; exact ⟨q, e, OwnB.kept h1 hb⟩
  | 9, _ => obtain ⟨g, e, h1, h2⟩ := h; exact ⟨g, e, h1, rowD h2 hb⟩
  | 10, _ => exact h
  | 11, _ => exact OwnB.kept h hb
  | 12, _ => obtain ⟨g, e, h1, h2⟩ := h; exact ⟨g, e, h1, rowD h2 hb⟩
  | j' + 13, hj' => exact absurd hj' (by omega)
set_option maxHeartbeats 8000000 in
set_option maxRecDepth 100000 in
theorem mills_far (V : V8) (N : Int) (r l : List Int) (rv bv : Value) (w : World) (hr : RdB w rv r) (hl : RdB w bv l) (h : 1500 < l.length ∨ 200 < r.length) :
    Calls Tryd.prog 3 #[millV V rv N, bv] w fun e w' => e = .returned (.bool true) ∧ Below w.heap.size w w' := by
  obtain ⟨a, c, rfl⟩ := hr.slice
  obtain ⟨b, d, rfl⟩ := hl.slice
  generalize l.length = ln at *
  generalize r.length = rn at *
  clear hr hl
  unfold millV
  go_enter Tryd.func3, Tryd.ntmps3
  by_cases h1 : 1500 < ln
  · have h1' : (1500 : Int) < (ln : Int) := by omega
    have d1 : decide ((1500 : Int) < (ln : Int)) = true := by simpa using h1'
    clear h
    go_wp2
    go_ret
    exact ⟨rfl, (Below.refl _ _).alloc (Nat.le_refl _) _⟩
  · have h1' : ¬ (1500 : Int) < (ln : Int) := by omega
    have d1 : decide ((1500 : Int) < (ln : Int)) = false := by simpa using h1'
    have h2 : (200 : Int) < (rn : Int) := by omega
    have d2 : decide ((200 : Int) < (rn : Int)) = true := by simpa using h2
    clear h
    go_wp2
    go_ret
    exact ⟨rfl, (Below.refl _ _).alloc (Nat.le_refl _) _⟩
set_option maxHeartbeats 16000000 in
set_option maxRecDepth 100000 in
theorem mills_near {Tg Tf : TypeId} (V : V8) (N : Int) (r l : List Int) (rv bv : Value) (w : World) (hr : RdB w rv r) (hl : RdB w bv l) (hG : GlO Tg Tf w) (h1 : l.length ≤ 1500) (h2 : r.length ≤ 200)
    (G : V8) (R : List Int) (NN E : Int) (P : AddP Tg Tf V N r l G R NN E) (D : List Int) (E2 : Int) (Q : EndP Tg Tf V N r D E2) (F : V8) (hF : firstW = F) :
    Calls Tryd.prog 3 #[millV V rv N, bv] w fun e w' => e = .returned (.bool true) ∧ Below w.heap.size w w' := by
  obtain ⟨a, c, rfl⟩ := hr.slice
  obtain ⟨b, d, rfl⟩ := hl.slice
  have hra := Lib.hid hr
  have hla := Lib.hid hl
  have hP := Lib.hid P
  have hQ := Lib.hid Q
  have hGw := Lib.hid hG
  have hFF := Lib.hid hF
  clear hr hl P Q hG hF
  generalize hln : l.length = ln at *
  generalize hrn : r.length = rn at *
  have hlnh := Lib.hid hln
  have hrnh := Lib.hid hrn
  clear hln hrn
  have i1 : ¬ (1500 : Int) < (ln : Int) := by omega
  have d1 : decide ((1500 : Int) < (ln : Int)) = false := by simpa using i1
  have i2 : ¬ (200 : Int) < (rn : Int) := by omega
  have d2 : decide ((200 : Int) < (rn : Int)) = false := by simpa using i2
  unfold millV
  obtain ⟨W, hW⟩ : ∃ W, W = w.alloc (.cells #[.int .u32 V.a, .int .u32 V.b, .int .u32 V.c, .int .u32 V.d, .int .u32 V.e, .int .u32 V.f, .int .u32 V.g, .int .u32 V.h, (.slice a rn c), .int .i64 N] 26) := ⟨_, rfl⟩
  have hS0 := Lib.hid (show Below w.heap.size w W by rw [hW]; exact below_aD w _)
  have r0 := Lib.hid (show W.heap[w.heap.size]? = some (.cells #[.int .u32 V.a, .int .u32 V.b, .int .u32 V.c, .int .u32 V.d, .int .u32 V.e, .int .u32 V.f, .int .u32 V.g, .int .u32 V.h, (.slice a rn c), .int .i64 N] 26 (0, 0)) by rw [hW]; exact heap_alloc_new w _)
  replace hra := Lib.hid (hra.out.mono hS0.out)
  replace hla := Lib.hid (hla.out.mono hS0.out)
  have hWl := Lib.hid (show w.heap.size < W.heap.size by rw [hW]; simp)
  have c8 : W.cell? ⟨w.heap.size, 8, none⟩ = some (.slice a rn c) := by rw [cell_of_row _ _ _ _ _ _ r0.out]; rfl
  go_enter Tryd.func3, Tryd.ntmps3
  go_upto_region 1 with fail
  rw [← hW]
  clear hW
  go_upto_region 3 with fail
  clear c8 d1 d2 i1 i2
  refine wp_region_fx 13 mlA (by kernel_rfl) (by kernel_rfl) (mlΦ W.heap.size w.heap.size V (.slice a rn c) (.slice b ln d) N r l) (fun _ a b => Below a.heap.size a b) (fun wz => Below W.heap.size W wz) (fun _ _ => True)
    (Below.refl _ _).drew (fun _ _ => trivial) (fun i a b hi h hg => h.trans (Below.mono hg h.size)) (fun i j v a b hi hj ha _ h hg => ml_keep j v a b hj h hg) (fun i j a b hi hj ha _ h hg => trivial) ?hstep ?hdone
  case hstep =>
    intro i op vs wz hi hop hinv hpre hd
    match i, hi with
    | 0, _ =>
      simp only [List.getElem?_toArray, List.getElem?_cons_zero, List.getElem?_cons_succ, Option.some.injEq] at hop
      subst hop
      generalize hfr : fxF _ vs fxT _ 0 = fr
      have e : fr.eval (.tmp 2) = .pointer (some ⟨w.heap.size, 0, none⟩) := by rw [← hfr]; exact fx_old 0 (by kernel_rfl)
      clear hfr
      refine fx_val (v := .pointer (some ⟨w.heap.size, 0, none⟩)) (w' := wz) rfl ?_ ⟨rfl, Below.refl _ _⟩
      unfold execOp
      generalize fr.eval = ev at e ⊢
      simp [go_sem, e]
    | 1, _ =>
      simp only [List.getElem?_toArray, List.getElem?_cons_zero, List.getElem?_cons_succ, Option.some.injEq] at hop
      subst hop
      have h0 : vs 0 = .pointer (some ⟨w.heap.size, 0, none⟩) := hd 0 (by decide)
      generalize hfr : fxF _ vs fxT _ 1 = fr
      have e : fr.eval (.tmp 26) = .pointer (some ⟨w.heap.size, 0, none⟩) := by rw [← hfr]; exact (fx_new (by simp) 1 (by kernel_rfl)).trans h0
      clear hfr
      obtain ⟨c0, c1, c2, c3, c4, c5, c6, c7, c8, c9⟩ := cells10 (rowD r0.out hinv)
      exact fx_midD 23 (.tmp 26) rfl rfl w.heap.size 0 e _ _ Tryd.underlying23 rfl (by kernel_rfl) (range_mill c0 c1 c2 c3 c4 c5 c6 c7) ⟨rfl, Below.refl _ _⟩
    | 2, _ =>
      simp only [List.getElem?_toArray, List.getElem?_cons_zero, List.getElem?_cons_succ, Option.some.injEq] at hop
      subst hop
      refine fx_val (v := .slice (some ⟨wz.heap.size, 0, none⟩) 0 0) (w' := wz.alloc (.cells #[] 5)) rfl ?_ ⟨⟨_, rfl, hinv.size, heap_alloc_new wz _⟩, below_aD _ _⟩
      generalize fxF _ vs fxT _ 2 = fr
      unfold execOp
      generalize fr.eval = ev
      simp [go_sem]
    | 3, _ =>
      simp only [List.getElem?_toArray, List.getElem?_cons_zero, List.getElem?_cons_succ, Option.some.injEq] at hop
      subst hop
      generalize hfr : fxF _ vs fxT _ 3 = fr
      have e : fr.eval (.tmp 2) = .pointer (some ⟨w.heap.size, 0, none⟩) := by rw [← hfr]; exact fx_old 3 (by kernel_rfl)
      clear hfr
      refine fx_val (v := .pointer (some ⟨w.heap.size, 8, none⟩)) (w' := wz) rfl ?_ ⟨rfl, Below.refl _ _⟩
      unfold execOp
      generalize fr.eval = ev at e ⊢
      simp [go_sem, e]
    | 4, _ =>
      simp only [List.getElem?_toArray, List.getElem?_cons_zero, List.getElem?_cons_succ, Option.some.injEq] at hop
      subst hop
      have h3 : vs 3 = .pointer (some ⟨w.heap.size, 8, none⟩) := hd 3 (by decide)
      generalize hfr : fxF _ vs fxT _ 4 = fr
      have e : fr.eval (.tmp 29) = .pointer (some ⟨w.heap.size, 8, none⟩) := by rw [← hfr]; exact (fx_new (by simp) 4 (by kernel_rfl)).trans h3
      clear hfr
      have hcc := cells10 (rowD r0.out hinv)
      exact fx_cellD 24 (.tmp 29) rfl rfl w.heap.size 8 e (.slice a rn c) hcc.2.2.2.2.2.2.2.2.1 (Tryd.isAgg24 wz) ⟨rfl, Below.refl _ _⟩
    | 5, _ =>
      simp only [List.getElem?_toArray, List.getElem?_cons_zero, List.getElem?_cons_succ, Option.some.injEq] at hop
      subst hop
      obtain ⟨g2, h2, hg2, hr2⟩ : ∃ g, vs 2 = .slice (some ⟨g, 0, none⟩) 0 0 ∧ W.heap.size ≤ g ∧ wz.heap[g]? = some (.cells #[] 5 (0, 0)) := hd 2 (by decide)
      have h4 : vs 4 = .slice a rn c := hd 4 (by decide)
      generalize hfr : fxF _ vs fxT _ 5 = fr
      have e1 : fr.eval (.tmp 28) = .slice (some ⟨g2, 0, none⟩) 0 0 := by rw [← hfr]; exact (fx_new (by simp) 5 (by kernel_rfl)).trans h2
      have e2 : fr.eval (.tmp 30) = .slice a rn c := by rw [← hfr]; exact (fx_new (by simp) 5 (by kernel_rfl)).trans h4
      clear hfr
      obtain ⟨v', w', hrun, o1, o2⟩ := clone_B (P := Tryd.prog) wz W.heap.size 24 24 5 Tryd.underlying24 (by kernel_rfl) g2 hr2 hg2 (.slice a rn c) r (hra.out.mono hinv) (by rw [hrnh.out]; omega)
      exact fxu_append2 (.tmp 28) (.tmp 30) 24 rfl rfl e1 e2 hrun ⟨o1, o2⟩
    | 6, _ =>
      simp only [List.getElem?_toArray, List.getElem?_cons_zero, List.getElem?_cons_succ, Option.some.injEq] at hop
      subst hop
      generalize hfr : fxF _ vs fxT _ 6 = fr
      have e : fr.eval (.tmp 2) = .pointer (some ⟨w.heap.size, 0, none⟩) := by rw [← hfr]; exact fx_old 6 (by kernel_rfl)
      clear hfr
      refine fx_val (v := .pointer (some ⟨w.heap.size, 9, none⟩)) (w' := wz) rfl ?_ ⟨rfl, Below.refl _ _⟩
      unfold execOp
      generalize fr.eval = ev at e ⊢
      simp [go_sem, e]
    | 7, _ =>
      simp only [List.getElem?_toArray, List.getElem?_cons_zero, List.getElem?_cons_succ, Option.some.injEq] at hop
      subst hop
      have h6 : vs 6 = .pointer (some ⟨w.heap.size, 9, none⟩) := hd 6 (by decide)
      generalize hfr : fxF _ vs fxT _ 7 = fr
      have e : fr.eval (.tmp 32) = .pointer (some ⟨w.heap.size, 9, none⟩) := by rw [← hfr]; exact (fx_new (by simp) 7 (by kernel_rfl)).trans h6
      clear hfr
      have hcc := cells10 (rowD r0.out hinv)
      exact fx_cellD 3 (.tmp 32) rfl rfl w.heap.size 9 e (.int .i64 N) hcc.2.2.2.2.2.2.2.2.2 (Tryd.isAgg3 wz) ⟨rfl, Below.refl _ _⟩
    | 8, _ =>
      simp only [List.getElem?_toArray, List.getElem?_cons_zero, List.getElem?_cons_succ, Option.some.injEq] at hop
      subst hop
      have h1 : vs 1 = .agg #[.int .u32 V.a, .int .u32 V.b, .int .u32 V.c, .int .u32 V.d, .int .u32 V.e, .int .u32 V.f, .int .u32 V.g, .int .u32 V.h] := hd 1 (by decide)
      have h5 : OwnB W.heap.size 5 wz (vs 5) r := hd 5 (by decide)
      have h7 : vs 7 = .int .i64 N := hd 7 (by decide)
      obtain ⟨qa, qc, h5v⟩ := h5.rd.slice
      generalize hfr : fxF _ vs fxT _ 8 = fr
      have e1 : fr.eval (.tmp 27) = .agg #[.int .u32 V.a, .int .u32 V.b, .int .u32 V.c, .int .u32 V.d, .int .u32 V.e, .int .u32 V.f, .int .u32 V.g, .int .u32 V.h] := by rw [← hfr]; exact (fx_new (by simp) 8 (by kernel_rfl)).trans h1
      have e2 : fr.eval (.tmp 31) = .slice qa r.length qc := by rw [← hfr]; exact (fx_new (by simp) 8 (by kernel_rfl)).trans h5v
      have e3 : fr.eval (.tmp 33) = .int .i64 N := by rw [← hfr]; exact (fx_new (by simp) 8 (by kernel_rfl)).trans h7
      clear hfr
      rw [h5v] at h5
      refine fx_val (v := millV V (.slice qa r.length qc) N) (w' := wz) rfl ?_ ⟨⟨_, rfl, h5⟩, Below.refl _ _⟩
      unfold execOp millV
      generalize fr.eval = ev at e1 e2 e3 ⊢
      simp [go_sem, e1, e2, e3]
    | 9, _ =>
      simp only [List.getElem?_toArray, List.getElem?_cons_zero, List.getElem?_cons_succ, Option.some.injEq] at hop
      subst hop
      refine fx_val (v := .slice (some ⟨wz.heap.size, 0, none⟩) 0 0) (w' := wz.alloc (.cells #[] 5)) rfl ?_ ⟨⟨_, rfl, hinv.size, heap_alloc_new wz _⟩, below_aD _ _⟩
      generalize fxF _ vs fxT _ 9 = fr
      unfold execOp
      generalize fr.eval = ev
      simp [go_sem]
    | 10, _ =>
      simp only [List.getElem?_toArray, List.getElem?_cons_zero, List.getElem?_cons_succ, Option.some.injEq] at hop
      subst hop
      generalize hfr : fxF _ vs fxT _ 10 = fr
      have e : fr.eval (.tmp 1) = .slice b ln d := by rw [← hfr]; exact fx_old 10 (by kernel_rfl)
      clear hfr
      refine fx_move (.tmp 1) rfl rfl ⟨e, Below.refl _ _⟩
    | 11, _ =>
      simp only [List.getElem?_toArray, List.getElem?_cons_zero, List.getElem?_cons_succ, Option.some.injEq] at hop
      subst hop
      obtain ⟨g2, h2, hg2, hr2⟩ : ∃ g, vs 9 = .slice (some ⟨g, 0, none⟩) 0 0 ∧ W.heap.size ≤ g ∧ wz.heap[g]? = some (.cells #[] 5 (0, 0)) := hd 9 (by decide)
      have h4 : vs 10 = .slice b ln d := hd 10 (by decide)
      generalize hfr : fxF _ vs fxT _ 11 = fr
      have e1 : fr.eval (.tmp 35) = .slice (some ⟨g2, 0, none⟩) 0 0 := by rw [← hfr]; exact (fx_new (by simp) 11 (by kernel_rfl)).trans h2
      have e2 : fr.eval (.tmp 36) = .slice b ln d := by rw [← hfr]; exact (fx_new (by simp) 11 (by kernel_rfl)).trans h4
      clear hfr
      obtain ⟨v', w', hrun, o1, o2⟩ := clone_B (P := Tryd.prog) wz W.heap.size 24 24 5 Tryd.underlying24 (by kernel_rfl) g2 hr2 hg2 (.slice b ln d) l (hla.out.mono hinv) (by rw [hlnh.out]; omega)
      exact fxu_append2 (.tmp 35) (.tmp 36) 24 rfl rfl e1 e2 hrun ⟨o1, o2⟩
    | 12, _ =>
      simp only [List.getElem?_toArray, List.getElem?_cons_zero, List.getElem?_cons_succ, Option.some.injEq] at hop
      subst hop
      refine fx_val (v := .pointer (some ⟨wz.heap.size, 0, none⟩)) (w' := wz.alloc (.cells #[.int .u32 0, .int .u32 0, .int .u32 0, .int .u32 0, .int .u32 0, .int .u32 0, .int .u32 0, .int .u32 0, .slice none 0 0, .int .i64 0] 26)) rfl ?_ ⟨⟨_, rfl, hinv.size, heap_alloc_new wz _⟩, below_aD _ _⟩
      generalize fxF _ vs fxT _ 12 = fr
      unfold execOp
      generalize fr.eval = ev
      simp [go_sem]
    | i' + 13, hi' => exact absurd hi' (by omega)
  case hdone =>
    intro vs w5 hinv hf
    obtain ⟨q8, h8, o8⟩ : ∃ q, vs 8 = millV V q N ∧ OwnB W.heap.size 5 w5 q r := hf 8 (by decide)
    have o11 : OwnB W.heap.size 5 w5 (vs 11) l := hf 11 (by decide)
    obtain ⟨g12, h12, hg12, hr12⟩ : ∃ g, vs 12 = .pointer (some ⟨g, 0, none⟩) ∧ W.heap.size ≤ g ∧ w5.heap[g]? = some (.cells #[.int .u32 0, .int .u32 0, .int .u32 0, .int .u32 0, .int .u32 0, .int .u32 0, .int .u32 0, .int .u32 0, .slice none 0 0, .int .i64 0] 26 (0, 0)) := hf 12 (by decide)
    obtain ⟨qa, qc, hq⟩ := o8.rd.slice
    subst hq
    obtain ⟨xa, xc, hx⟩ := o11.rd.slice
    rw [hx] at o11
    rw [hrnh.out] at o8 h8
    rw [hlnh.out] at o11 hx
    simp only [fxF, fxT, if_true, List.drop_succ_cons, List.drop_zero, List.getElem?_toArray, List.getElem?_cons_zero, List.getElem?_cons_succ, Option.bind_some]
    rw [h8, h12, hx]
    unfold millV
    clear hf h8 h12 hx
    generalize vs 0 = z0 at *
    generalize vs 1 = z1 at *
    generalize vs 2 = z2 at *
    generalize vs 3 = z3 at *
    generalize vs 4 = z4 at *
    generalize vs 5 = z5 at *
    generalize vs 6 = z6 at *
    generalize vs 7 = z7 at *
    generalize vs 9 = z9 at *
    generalize vs 10 = z10 at *
    have o8 := Lib.hid (show OwnB W.heap.size 5 (w5.setRow g12 #[.int .u32 V.a, .int .u32 V.b, .int .u32 V.c, .int .u32 V.d, .int .u32 V.e, .int .u32 V.f, .int .u32 V.g, .int .u32 V.h, (.slice qa rn qc), .int .i64 N]) (.slice qa rn qc) r from ownB_setRowT o8 hr12 (by decide) _)
    have o11 := Lib.hid (show OwnB W.heap.size 5 (w5.setRow g12 #[.int .u32 V.a, .int .u32 V.b, .int .u32 V.c, .int .u32 V.d, .int .u32 V.e, .int .u32 V.f, .int .u32 V.g, .int .u32 V.h, (.slice qa rn qc), .int .i64 N]) (.slice xa ln xc) l from ownB_setRowT o11 hr12 (by decide) _)
    have r12 := Lib.hid (setRow_heap w5 g12 _ #[.int .u32 V.a, .int .u32 V.b, .int .u32 V.c, .int .u32 V.d, .int .u32 V.e, .int .u32 V.f, .int .u32 V.g, .int .u32 V.h, (.slice qa rn qc), .int .i64 N] _ _ hr12)
    have hB1 := Lib.hid (below_setRow' (g := g12) hinv hg12 #[.int .u32 V.a, .int .u32 V.b, .int .u32 V.c, .int .u32 V.d, .int .u32 V.e, .int .u32 V.f, .int .u32 V.g, .int .u32 V.h, (.slice qa rn qc), .int .i64 N])
    have hg12 := Lib.hid hg12
    have hrr := Lib.hid hr12
    clear hinv hr12
    refine wpList_store_row (P := Tryd.prog) rfl 26 (.tmp 5) (.tmp 34) rfl g12 #[.int .u32 V.a, .int .u32 V.b, .int .u32 V.c, .int .u32 V.d, .int .u32 V.e, .int .u32 V.f, .int .u32 V.g, .int .u32 V.h, (.slice qa rn qc), .int .i64 N] (by kernel_rfl) (by kernel_rfl) 26 _ hrr.out (by kernel_rfl) rfl (by simp [Value.oneCell']) ?_
    generalize w5.setRow g12 #[.int .u32 V.a, .int .u32 V.b, .int .u32 V.c, .int .u32 V.d, .int .u32 V.e, .int .u32 V.f, .int .u32 V.g, .int .u32 V.h, (.slice qa rn qc), .int .i64 N] = W2 at *
    clear hrr
    replace r0 := Lib.hid (rowD r0.out hB1.out)
    replace hra := Lib.hid (hra.out.mono hB1.out)
    replace hla := Lib.hid (hla.out.mono hB1.out)
    replace hS0 := Lib.hid (hS0.out.trans (hB1.out.mono hS0.out.size))
    have hWg := Lib.hid (show w.heap.size < W.heap.size from hWl.out)
    have hWW := Lib.hid hB1.out.size
    clear hB1
    have hS2 := Lib.hid (Below.refl W2.heap.size W2)
    have old8 := Lib.hid (own_oldB o8.out)
    have old11 := Lib.hid (own_oldB o11.out)
    have xR := Lib.hid o8.out.rd
    have xB := Lib.hid o11.out.rd
    obtain ⟨Rn, hRn⟩ : ∃ n, R.length = n := ⟨_, rfl⟩
    replace hRn := Lib.hid hRn
    have cA := hP.out.p
    unfold millV at cA
    replace cA := Lib.hid cA
    have cR := hP.out.q
    unfold millV at cR
    replace cR := Lib.hid cR
    have cE := hQ.out.p
    unfold millV at cE
    replace cE := Lib.hid cE
    have cF := hQ.out.q
    unfold millV at cF
    replace cF := Lib.hid cF
    have di := Lib.hid (show (Tryd.prog.info? 33).map (·.size) = some (u8s D).size by rw [u8s_size, hQ.out.len]; kernel_rfl)
    have ds := Lib.hid (show 32 = (u8s D).size by rw [u8s_size, hQ.out.len])
    go_upto_region 5 with (first | (refine wpList_load_row_g rfl 26 _ rfl g12 rfl 26 #[.int .u32 V.a, .int .u32 V.b, .int .u32 V.c, .int .u32 V.d, .int .u32 V.e, .int .u32 V.f, .int .u32 V.g, .int .u32 V.h, (.slice qa rn qc), .int .i64 N] (0, 0) _ r12.out Tryd.underlying26 rfl (by kernel_rfl) ?_) | (go_at_call 5; (with_reducible refine (cA.out _ _ _ xR.out xB.out (hGw.out.mono hS0.out)).mono ?_); rintro e9 w4 ⟨y, rfl, q1, q2⟩; have hz2 := hS2.out.size; (try replace r0 := Lib.hid (rowD r0.out q2)); (try replace r12 := Lib.hid (rowD r12.out q2)); (try replace hra := Lib.hid (hra.out.mono q2)); (try replace hla := Lib.hid (hla.out.mono q2)); (try replace xR := Lib.hid (xR.out.mono q2)); (try replace xB := Lib.hid (xB.out.mono q2)); (try replace o8 := Lib.hid (o8.out.kept q2)); (try replace o11 := Lib.hid (o11.out.kept q2)); replace hS0 := Lib.hid (hS0.out.trans (q2.mono hS0.out.size)); replace hS2 := Lib.hid (hS2.out.trans (q2.mono hS2.out.size)); obtain ⟨ya, yc, hy⟩ : ∃ a c, y = .slice a Rn c := (by obtain ⟨a, c, e⟩ := q1.rd.slice; rw [hRn.out] at e; exact ⟨a, c, e⟩); subst hy; have oA := Lib.hid q1; have nA := Lib.hid (show NewB W2.heap.size (.slice ya Rn yc) from fun b o n c e => Nat.le_trans hz2 (own_newB q1 b o n c e)); clear q1; clear q2))
    have xA := Lib.hid oA.out.rd
    clear oA hz2
    obtain ⟨w5, hw5⟩ : ∃ W, W = w4.alloc (.cells #[.int .u32 G.a, .int .u32 G.b, .int .u32 G.c, .int .u32 G.d, .int .u32 G.e, .int .u32 G.f, .int .u32 G.g, .int .u32 G.h, (.slice ya Rn yc), .int .i64 NN] 26) := ⟨_, rfl⟩
    rw [← hw5]
    have hbn := Lib.hid (show Below w4.heap.size w4 w5 by rw [hw5]; exact below_aD w4 _)
    have r7 := Lib.hid (show w5.heap[w4.heap.size]? = some (.cells #[.int .u32 G.a, .int .u32 G.b, .int .u32 G.c, .int .u32 G.d, .int .u32 G.e, .int .u32 G.f, .int .u32 G.g, .int .u32 G.h, (.slice ya Rn yc), .int .i64 NN] 26 (0, 0)) by rw [hw5]; exact heap_alloc_new w4 _)
    (try replace r0 := Lib.hid (rowD r0.out hbn.out))
    (try replace r12 := Lib.hid (rowD r12.out hbn.out))
    (try replace hra := Lib.hid (hra.out.mono hbn.out))
    (try replace hla := Lib.hid (hla.out.mono hbn.out))
    (try replace xR := Lib.hid (xR.out.mono hbn.out))
    (try replace xB := Lib.hid (xB.out.mono hbn.out))
    (try replace xA := Lib.hid (xA.out.mono hbn.out))
    (try replace o8 := Lib.hid (o8.out.kept hbn.out))
    (try replace o11 := Lib.hid (o11.out.kept hbn.out))
    replace hS0 := Lib.hid (hS0.out.trans (hbn.out.mono hS0.out.size))
    replace hS2 := Lib.hid (hS2.out.trans (hbn.out.mono hS2.out.size))
    obtain ⟨g7, hg7⟩ : ∃ g, g = w4.heap.size := ⟨_, rfl⟩
    rw [← hg7] at r7
    rw [← hg7]
    clear hw5 hbn hg7 w4
    go_upto_region 6 with (first | (refine wpList_load_row_g rfl 26 _ rfl w.heap.size rfl 26 #[.int .u32 V.a, .int .u32 V.b, .int .u32 V.c, .int .u32 V.d, .int .u32 V.e, .int .u32 V.f, .int .u32 V.g, .int .u32 V.h, (.slice a rn c), .int .i64 N] (0, 0) _ r0.out Tryd.underlying26 rfl (by kernel_rfl) ?_) | (go_at_call 6; (with_reducible refine (cR.out _ _ _ hra.out hla.out).mono ?_); rintro e9 w4 ⟨y, rfl, q1, q3, q2⟩; have hz2 := hS2.out.size; (try replace r0 := Lib.hid (rowD r0.out q2)); (try replace r12 := Lib.hid (rowD r12.out q2)); (try replace r7 := Lib.hid (rowD r7.out q2)); (try replace hra := Lib.hid (hra.out.mono q2)); (try replace hla := Lib.hid (hla.out.mono q2)); (try replace xR := Lib.hid (xR.out.mono q2)); (try replace xB := Lib.hid (xB.out.mono q2)); (try replace xA := Lib.hid (xA.out.mono q2)); (try replace o8 := Lib.hid (o8.out.kept q2)); (try replace o11 := Lib.hid (o11.out.kept q2)); replace hS0 := Lib.hid (hS0.out.trans (q2.mono hS0.out.size)); replace hS2 := Lib.hid (hS2.out.trans (q2.mono hS2.out.size)); obtain ⟨za, zc, hy⟩ : ∃ a c, y = .slice a Rn c := (by obtain ⟨a, c, e⟩ := q1.slice; rw [hRn.out] at e; exact ⟨a, c, e⟩); subst hy; have xC := Lib.hid q1; have nC := Lib.hid (show NewB W2.heap.size (.slice za Rn zc) from fun b o n c e => Nat.le_trans hz2 (q3 b o n c e)); clear q1 q3; clear q2))
    clear hz2
    obtain ⟨w6, hw6⟩ : ∃ W, W = w4.alloc (.cells #[.int .u32 G.a, .int .u32 G.b, .int .u32 G.c, .int .u32 G.d, .int .u32 G.e, .int .u32 G.f, .int .u32 G.g, .int .u32 G.h, (.slice za Rn zc), .int .i64 NN] 26) := ⟨_, rfl⟩
    rw [← hw6]
    have hbn := Lib.hid (show Below w4.heap.size w4 w6 by rw [hw6]; exact below_aD w4 _)
    have r9 := Lib.hid (show w6.heap[w4.heap.size]? = some (.cells #[.int .u32 G.a, .int .u32 G.b, .int .u32 G.c, .int .u32 G.d, .int .u32 G.e, .int .u32 G.f, .int .u32 G.g, .int .u32 G.h, (.slice za Rn zc), .int .i64 NN] 26 (0, 0)) by rw [hw6]; exact heap_alloc_new w4 _)
    (try replace r0 := Lib.hid (rowD r0.out hbn.out))
    (try replace r12 := Lib.hid (rowD r12.out hbn.out))
    (try replace r7 := Lib.hid (rowD r7.out hbn.out))
    (try replace hra := Lib.hid (hra.out.mono hbn.out))
    (try replace hla := Lib.hid (hla.out.mono hbn.out))
    (try replace xR := Lib.hid (xR.out.mono hbn.out))
    (try replace xB := Lib.hid (xB.out.mono hbn.out))
    (try replace xA := Lib.hid (xA.out.mono hbn.out))
    (try replace xC := Lib.hid (xC.out.mono hbn.out))
    (try replace o8 := Lib.hid (o8.out.kept hbn.out))
    (try replace o11 := Lib.hid (o11.out.kept hbn.out))
    replace hS0 := Lib.hid (hS0.out.trans (hbn.out.mono hS0.out.size))
    replace hS2 := Lib.hid (hS2.out.trans (hbn.out.mono hS2.out.size))
    obtain ⟨g9, hg9⟩ : ∃ g, g = w4.heap.size := ⟨_, rfl⟩
    rw [← hg9] at r9
    rw [← hg9]
    clear hw6 hbn hg9 w4
    go_upto_region 7 with (first | (refine wpList_load_row_g rfl 26 _ rfl g12 rfl 26 #[.int .u32 V.a, .int .u32 V.b, .int .u32 V.c, .int .u32 V.d, .int .u32 V.e, .int .u32 V.f, .int .u32 V.g, .int .u32 V.h, (.slice qa rn qc), .int .i64 N] (0, 0) _ r12.out Tryd.underlying26 rfl (by kernel_rfl) ?_) | (go_at_call 7; (with_reducible refine (cE.out _ _ xR.out (hGw.out.mono hS0.out)).mono ?_); rintro e9 w4 ⟨rfl, q2⟩; (try replace r0 := Lib.hid (rowD r0.out q2)); (try replace r12 := Lib.hid (rowD r12.out q2)); (try replace r7 := Lib.hid (rowD r7.out q2)); (try replace r9 := Lib.hid (rowD r9.out q2)); (try replace hra := Lib.hid (hra.out.mono q2)); (try replace hla := Lib.hid (hla.out.mono q2)); (try replace xR := Lib.hid (xR.out.mono q2)); (try replace xB := Lib.hid (xB.out.mono q2)); (try replace xA := Lib.hid (xA.out.mono q2)); (try replace xC := Lib.hid (xC.out.mono q2)); (try replace o8 := Lib.hid (o8.out.kept q2)); (try replace o11 := Lib.hid (o11.out.kept q2)); replace hS0 := Lib.hid (hS0.out.trans (q2.mono hS0.out.size)); replace hS2 := Lib.hid (hS2.out.trans (q2.mono hS2.out.size)); clear q2) | (refine storeNew w4 rfl 33 _ _ rfl (u8s D) 33 rfl rfl di.out (Eq.trans (by kernel_rfl) ds.out) (u8s_one _) ?_; intro wx hrx hbx; (try replace r0 := Lib.hid (rowD r0.out hbx)); (try replace r12 := Lib.hid (rowD r12.out hbx)); (try replace r7 := Lib.hid (rowD r7.out hbx)); (try replace r9 := Lib.hid (rowD r9.out hbx)); (try replace hra := Lib.hid (hra.out.mono hbx)); (try replace hla := Lib.hid (hla.out.mono hbx)); (try replace xR := Lib.hid (xR.out.mono hbx)); (try replace xB := Lib.hid (xB.out.mono hbx)); (try replace xA := Lib.hid (xA.out.mono hbx)); (try replace xC := Lib.hid (xC.out.mono hbx)); (try replace o8 := Lib.hid (o8.out.kept hbx)); (try replace o11 := Lib.hid (o11.out.kept hbx)); replace hS0 := Lib.hid (hS0.out.trans (hbx.mono hS0.out.size)); replace hS2 := Lib.hid (hS2.out.trans (hbx.mono hS2.out.size)); have r11 := Lib.hid hrx; clear hrx hbx))
    generalize w4.heap.size = g11 at *
    clear w4
    go_upto_region 8 with (first | (refine wpList_load_row_g rfl 26 _ rfl w.heap.size rfl 26 #[.int .u32 V.a, .int .u32 V.b, .int .u32 V.c, .int .u32 V.d, .int .u32 V.e, .int .u32 V.f, .int .u32 V.g, .int .u32 V.h, (.slice a rn c), .int .i64 N] (0, 0) _ r0.out Tryd.underlying26 rfl (by kernel_rfl) ?_) | (go_at_call 8; (with_reducible refine (cF.out _ _ hra.out).mono ?_); rintro e9 w4 ⟨rfl, q2⟩; (try replace r0 := Lib.hid (rowD r0.out q2)); (try replace r12 := Lib.hid (rowD r12.out q2)); (try replace r7 := Lib.hid (rowD r7.out q2)); (try replace r9 := Lib.hid (rowD r9.out q2)); (try replace r11 := Lib.hid (rowD r11.out q2)); (try replace hra := Lib.hid (hra.out.mono q2)); (try replace hla := Lib.hid (hla.out.mono q2)); (try replace xR := Lib.hid (xR.out.mono q2)); (try replace xB := Lib.hid (xB.out.mono q2)); (try replace xA := Lib.hid (xA.out.mono q2)); (try replace xC := Lib.hid (xC.out.mono q2)); (try replace o8 := Lib.hid (o8.out.kept q2)); (try replace o11 := Lib.hid (o11.out.kept q2)); replace hS0 := Lib.hid (hS0.out.trans (q2.mono hS0.out.size)); replace hS2 := Lib.hid (hS2.out.trans (q2.mono hS2.out.size)); clear q2) | (refine storeNew w4 rfl 33 _ _ rfl (u8s D) 33 rfl rfl di.out (Eq.trans (by kernel_rfl) ds.out) (u8s_one _) ?_; intro wx hrx hbx; (try replace r0 := Lib.hid (rowD r0.out hbx)); (try replace r12 := Lib.hid (rowD r12.out hbx)); (try replace r7 := Lib.hid (rowD r7.out hbx)); (try replace r9 := Lib.hid (rowD r9.out hbx)); (try replace r11 := Lib.hid (rowD r11.out hbx)); (try replace hra := Lib.hid (hra.out.mono hbx)); (try replace hla := Lib.hid (hla.out.mono hbx)); (try replace xR := Lib.hid (xR.out.mono hbx)); (try replace xB := Lib.hid (xB.out.mono hbx)); (try replace xA := Lib.hid (xA.out.mono hbx)); (try replace xC := Lib.hid (xC.out.mono hbx)); (try replace o8 := Lib.hid (o8.out.kept hbx)); (try replace o11 := Lib.hid (o11.out.kept hbx)); replace hS0 := Lib.hid (hS0.out.trans (hbx.mono hS0.out.size)); replace hS2 := Lib.hid (hS2.out.trans (hbx.mono hS2.out.size)); have r13 := Lib.hid hrx; clear hrx hbx))
    generalize w4.heap.size = g13 at *
    clear w4
    have sM := Lib.hid (fun (wz : World) h1 h2 => same_yes V (.slice qa rn qc) (.slice a rn c) r N wz (by rw [hrnh.out]; omega) h1 h2)
    replace sM := Lib.hid (by have h := sM.out; unfold millV at h; exact h)
    have sB := Lib.hid (fun (wz : World) h1 h2 => sameb_yes xa b xc d ln l wz hlnh.out (by omega) h1 h2)
    go_upto_region 10 with (first | (refine wpList_load_row_g rfl 26 _ rfl g12 rfl 26 #[.int .u32 V.a, .int .u32 V.b, .int .u32 V.c, .int .u32 V.d, .int .u32 V.e, .int .u32 V.f, .int .u32 V.g, .int .u32 V.h, (.slice qa rn qc), .int .i64 N] (0, 0) _ r12.out Tryd.underlying26 rfl (by kernel_rfl) ?_) | (refine wpList_load_row_g rfl 26 _ rfl w.heap.size rfl 26 #[.int .u32 V.a, .int .u32 V.b, .int .u32 V.c, .int .u32 V.d, .int .u32 V.e, .int .u32 V.f, .int .u32 V.g, .int .u32 V.h, (.slice a rn c), .int .i64 N] (0, 0) _ r0.out Tryd.underlying26 rfl (by kernel_rfl) ?_) | (go_at_call 9; (with_reducible refine (sM.out _ xR.out hra.out).mono ?_); rintro e9 w4 ⟨rfl, q2⟩; (try replace r0 := Lib.hid (rowD r0.out q2)); (try replace r12 := Lib.hid (rowD r12.out q2)); (try replace r7 := Lib.hid (rowD r7.out q2)); (try replace r9 := Lib.hid (rowD r9.out q2)); (try replace r11 := Lib.hid (rowD r11.out q2)); (try replace r13 := Lib.hid (rowD r13.out q2)); (try replace hra := Lib.hid (hra.out.mono q2)); (try replace hla := Lib.hid (hla.out.mono q2)); (try replace xR := Lib.hid (xR.out.mono q2)); (try replace xB := Lib.hid (xB.out.mono q2)); (try replace xA := Lib.hid (xA.out.mono q2)); (try replace xC := Lib.hid (xC.out.mono q2)); (try replace o8 := Lib.hid (o8.out.kept q2)); (try replace o11 := Lib.hid (o11.out.kept q2)); replace hS0 := Lib.hid (hS0.out.trans (q2.mono hS0.out.size)); replace hS2 := Lib.hid (hS2.out.trans (q2.mono hS2.out.size)); clear q2) | (go_at_call 10; (with_reducible refine (sB.out _ xB.out hla.out).mono ?_); rintro e9 w4 ⟨rfl, q2⟩; (try replace r0 := Lib.hid (rowD r0.out q2)); (try replace r12 := Lib.hid (rowD r12.out q2)); (try replace r7 := Lib.hid (rowD r7.out q2)); (try replace r9 := Lib.hid (rowD r9.out q2)); (try replace r11 := Lib.hid (rowD r11.out q2)); (try replace r13 := Lib.hid (rowD r13.out q2)); (try replace hra := Lib.hid (hra.out.mono q2)); (try replace hla := Lib.hid (hla.out.mono q2)); (try replace xR := Lib.hid (xR.out.mono q2)); (try replace xB := Lib.hid (xB.out.mono q2)); (try replace xA := Lib.hid (xA.out.mono q2)); (try replace xC := Lib.hid (xC.out.mono q2)); (try replace o8 := Lib.hid (o8.out.kept q2)); (try replace o11 := Lib.hid (o11.out.kept q2)); replace hS0 := Lib.hid (hS0.out.trans (q2.mono hS0.out.size)); replace hS2 := Lib.hid (hS2.out.trans (q2.mono hS2.out.size)); clear q2))
    have uR := Lib.hid (show U8S _ (.slice qa rn qc) rn by rw [← hrnh.out]; have h := own_u8s o8.out; rw [hrnh.out] at h ⊢; exact h)
    have uB := Lib.hid (show U8S _ (.slice xa ln xc) ln by have h := own_u8s o11.out; rw [hlnh.out] at h; exact h)
    clear o8 o11 r0 hra hla xR xB sM sB cA cR cE cF
    have hw4 := Lib.hid (Nat.le_trans hWW.out hS2.out.size)
    have hw0 := Lib.hid (show w.heap.size ≤ W.heap.size from Nat.le_of_lt hWl.out)
    obtain ⟨kb, hb0, hbB, hbk⟩ := bk_of uB.out old11.out hw4.out
    replace hb0 := Lib.hid hb0; replace hbB := Lib.hid hbB; replace hbk := Lib.hid hbk
    clear hS2 uB old11 hWg
    go_wp2
    go_loopw [15] (fun i wr => ∃ j : Nat, j ≤ ln ∧ i = .int .i64 (j : Int) ∧ Inc kb w4 wr) (fun i _ => ln - (intOf i).toNat)
    case atStart => exact ⟨0, Nat.zero_le _, rfl, Inc.refl _ _⟩
    case round =>
      obtain ⟨j, hj, rfl, hI0⟩ := hrel
      have hI := Lib.hid hI0
      clear hI0
      by_cases hlt : j < ln
      · obtain ⟨hxa, cs, hcs, hx⟩ := hb0.out (by omega)
        obtain ⟨y0, hy0⟩ := hx j hlt
        obtain ⟨cs', hcs', hx'⟩ := hI.out.2.2.2 cs hcs
        obtain ⟨y, hy⟩ := hx' j y0 hy0
        subst hxa
        have kc : wr.cell? ⟨kb, j, none⟩ = some (.int .u8 y) := by rw [cell_of_row _ _ _ _ _ _ hcs']; exact hy
        have kf : wr.frozen? ⟨kb, j, none⟩ = false := frozen_of_row _ _ _ _ _ hcs'
        have kl : kb < wr.heap.size := (Array.getElem?_eq_some_iff.1 hcs').1
        have hjI : (j : Int) < (ln : Int) := by omega
        have hjl := Lib.hid hlt
        have hI2 := Lib.hid (fun z => hI.out.trans (Inc.set hcs' j z))
        clear hx hx' hy hy0 hcs hcs' hj
        go_wp2
        have hw1 : IntKind.i64.wrap ((j : Int) + 1) = ((j + 1 : Nat) : Int) := by rw [IntWalk.i64_in _ (by omega)]; omega
        go_roundw
        case rel => exact ⟨j + 1, by have := hjl.out; omega, by go_num, hI2.out _⟩
        case measure => simp [intOf]; have := hjl.out; omega
      · obtain rfl : ln = j := by omega
        clear hlt hj
        replace r7 := Lib.hid (hI.out.row r7.out (bk_ne hbk.out r7.out (by decide)))
        replace r9 := Lib.hid (hI.out.row r9.out (bk_ne hbk.out r9.out (by decide)))
        replace r11 := Lib.hid (hI.out.row r11.out (bk_ne hbk.out r11.out (by decide)))
        replace r13 := Lib.hid (hI.out.row r13.out (bk_ne hbk.out r13.out (by decide)))
        replace r12 := Lib.hid (hI.out.row r12.out (bk_ne hbk.out r12.out (by decide)))
        replace xA := Lib.hid (hI.out.rd xA.out nA.out (bk_lt hbk.out (Nat.le_refl _)))
        replace xC := Lib.hid (hI.out.rd xC.out nC.out (bk_lt hbk.out (Nat.le_refl _)))
        replace uR := Lib.hid (uR.out.inc hI.out)
        replace hS0 := Lib.hid (hI.out.below (Nat.le_trans hw0.out hbB.out) hS0.out)
        replace hw4 := Lib.hid (show W.heap.size ≤ wr.heap.size by rw [hI.out.2.1]; exact hw4.out)
        clear hI hbk hb0 hbB
        obtain ⟨WL, rfl⟩ : ∃ x, x = wr := ⟨_, rfl⟩
        obtain ⟨kr, hb0, hbB, hbk⟩ := bk_of uR.out old8.out hw4.out
        replace hb0 := Lib.hid hb0; replace hbB := Lib.hid hbB; replace hbk := Lib.hid hbk
        clear uR old8 hw4
        go_wp2
        go_loopw [16] (fun i wr => ∃ j : Nat, j ≤ rn ∧ i = .int .i64 (j : Int) ∧ Inc kr WL wr) (fun i _ => rn - (intOf i).toNat)
        case atStart => exact ⟨0, Nat.zero_le _, rfl, Inc.refl _ _⟩
        case round =>
          obtain ⟨j, hj, rfl, hI0⟩ := hrel
          have hI := Lib.hid hI0
          clear hI0
          by_cases hlt : j < rn
          · obtain ⟨hxa, cs, hcs, hx⟩ := hb0.out (by omega)
            obtain ⟨y0, hy0⟩ := hx j hlt
            obtain ⟨cs', hcs', hx'⟩ := hI.out.2.2.2 cs hcs
            obtain ⟨y, hy⟩ := hx' j y0 hy0
            subst hxa
            have kc : wr.cell? ⟨kr, j, none⟩ = some (.int .u8 y) := by rw [cell_of_row _ _ _ _ _ _ hcs']; exact hy
            have kf : wr.frozen? ⟨kr, j, none⟩ = false := frozen_of_row _ _ _ _ _ hcs'
            have kl : kr < wr.heap.size := (Array.getElem?_eq_some_iff.1 hcs').1
            have hjI : (j : Int) < (rn : Int) := by omega
            have hjl := Lib.hid hlt
            have hI2 := Lib.hid (fun z => hI.out.trans (Inc.set hcs' j z))
            have c12 : wr.cell? ⟨g12, 8, none⟩ = some (.slice (some ⟨kr, 0, none⟩) rn qc) := by rw [cell_of_row _ _ _ _ _ _ (hI.out.row r12.out (bk_ne hbk.out r12.out (by decide)))]; rfl
            have g12n := Lib.hid (bk_ne hbk.out r12.out (by decide))
            clear hx hx' hy hy0 hcs hcs' hj
            go_wp2
            have hw1 : IntKind.i64.wrap ((j : Int) + 1) = ((j + 1 : Nat) : Int) := by rw [IntWalk.i64_in _ (by omega)]; omega
            go_roundw
            case rel => exact ⟨j + 1, by have := hjl.out; omega, by go_num, hI2.out _⟩
            case measure => simp [intOf]; have := hjl.out; omega
          · obtain rfl : rn = j := by omega
            have c12 : wr.cell? ⟨g12, 8, none⟩ = some (.slice qa rn qc) := by rw [cell_of_row _ _ _ _ _ _ (hI.out.row r12.out (bk_ne hbk.out r12.out (by decide)))]; rfl
            clear hlt hj
            replace r7 := Lib.hid (hI.out.row r7.out (bk_ne hbk.out r7.out (by decide)))
            replace r9 := Lib.hid (hI.out.row r9.out (bk_ne hbk.out r9.out (by decide)))
            replace r11 := Lib.hid (hI.out.row r11.out (bk_ne hbk.out r11.out (by decide)))
            replace r13 := Lib.hid (hI.out.row r13.out (bk_ne hbk.out r13.out (by decide)))
            replace xA := Lib.hid (hI.out.rd xA.out nA.out (bk_lt hbk.out (Nat.le_refl _)))
            replace xC := Lib.hid (hI.out.rd xC.out nC.out (bk_lt hbk.out (Nat.le_refl _)))
            replace hS0 := Lib.hid (hI.out.below (Nat.le_trans hw0.out hbB.out) hS0.out)
            clear hI hbk hb0 hbB r12
            have cS := Lib.hid (fun (wz : World) (hg : GlO Tg Tf wz) => (by have h := start_any (Tf := Tf) wz hg.2; rw [hFF.out] at h; exact h : Calls Tryd.prog 11 #[] wz fun e w' => e = .returned (.agg #[.int .u32 F.a, .int .u32 F.b, .int .u32 F.c, .int .u32 F.d, .int .u32 F.e, .int .u32 F.f, .int .u32 F.g, .int .u32 F.h, .slice none 0 0, .int .i64 0]) ∧ Below wz.heap.size wz w'))
            have cT := Lib.hid (fun (wz : World) => rstart_F F hFF.out wz)
            have sF := fun (wz : World) => same_yes F (.slice none 0 0) (.slice none 0 0) [] 0 wz (by simp) (rd_nilD wz) (rd_nilD wz)
            unfold millV at sF
            replace sF := Lib.hid sF
            have sG := fun (wz : World) h1 h2 => same_yes G (.slice ya Rn yc) (.slice za Rn zc) R NN wz (by have := hP.out.len; omega) h1 h2
            unfold millV at sG
            replace sG := Lib.hid sG
            have dl := hQ.out.len
            replace dl := Lib.hid dl
            go_wp2_with (first | (refine wpList_load_row_g rfl 26 _ rfl g7 rfl 26 #[.int .u32 G.a, .int .u32 G.b, .int .u32 G.c, .int .u32 G.d, .int .u32 G.e, .int .u32 G.f, .int .u32 G.g, .int .u32 G.h, (.slice ya Rn yc), .int .i64 NN] (0, 0) _ r7.out Tryd.underlying26 rfl (by kernel_rfl) ?_) | (refine wpList_load_row_g rfl 26 _ rfl g9 rfl 26 #[.int .u32 G.a, .int .u32 G.b, .int .u32 G.c, .int .u32 G.d, .int .u32 G.e, .int .u32 G.f, .int .u32 G.g, .int .u32 G.h, (.slice za Rn zc), .int .i64 NN] (0, 0) _ r9.out Tryd.underlying26 rfl (by kernel_rfl) ?_) | (refine wpList_load_row_g rfl 33 _ rfl g11 rfl 33 (u8s D) (0, 0) _ r11.out Tryd.underlying33 rfl di.out ?_) | (refine wpList_load_row_g rfl 33 _ rfl g13 rfl 33 (u8s D) (0, 0) _ r13.out Tryd.underlying33 rfl di.out ?_) | (go_at_call 11; (with_reducible refine (cS.out _ (hGw.out.mono hS0.out)).mono ?_); rintro e9 w4 ⟨rfl, q2⟩; (try replace r7 := Lib.hid (rowD r7.out q2)); (try replace r9 := Lib.hid (rowD r9.out q2)); (try replace r11 := Lib.hid (rowD r11.out q2)); (try replace r13 := Lib.hid (rowD r13.out q2)); (try replace xA := Lib.hid (xA.out.mono q2)); (try replace xC := Lib.hid (xC.out.mono q2)); replace hS0 := Lib.hid (hS0.out.trans (q2.mono hS0.out.size)); clear q2) | (go_at_call 12; (with_reducible refine (cT.out _).mono ?_); rintro e9 w4 ⟨rfl, q2⟩; (try replace r7 := Lib.hid (rowD r7.out q2)); (try replace r9 := Lib.hid (rowD r9.out q2)); (try replace r11 := Lib.hid (rowD r11.out q2)); (try replace r13 := Lib.hid (rowD r13.out q2)); (try replace xA := Lib.hid (xA.out.mono q2)); (try replace xC := Lib.hid (xC.out.mono q2)); replace hS0 := Lib.hid (hS0.out.trans (q2.mono hS0.out.size)); clear q2) | (go_at_call 9; (with_reducible refine (sF.out _).mono ?_); rintro e9 w4 ⟨rfl, q2⟩; (try replace r7 := Lib.hid (rowD r7.out q2)); (try replace r9 := Lib.hid (rowD r9.out q2)); (try replace r11 := Lib.hid (rowD r11.out q2)); (try replace r13 := Lib.hid (rowD r13.out q2)); (try replace xA := Lib.hid (xA.out.mono q2)); (try replace xC := Lib.hid (xC.out.mono q2)); replace hS0 := Lib.hid (hS0.out.trans (q2.mono hS0.out.size)); clear q2) | (go_at_call 9; (with_reducible refine (sG.out _ xA.out xC.out).mono ?_); rintro e9 w4 ⟨rfl, q2⟩; (try replace r7 := Lib.hid (rowD r7.out q2)); (try replace r9 := Lib.hid (rowD r9.out q2)); (try replace r11 := Lib.hid (rowD r11.out q2)); (try replace r13 := Lib.hid (rowD r13.out q2)); (try replace xA := Lib.hid (xA.out.mono q2)); (try replace xC := Lib.hid (xC.out.mono q2)); replace hS0 := Lib.hid (hS0.out.trans (q2.mono hS0.out.size)); clear q2) | (refine wpList_eqID rfl 33 5 _ _ rfl Tryd.underlying33 Tryd.underlying5 (by kernel_rfl) (by kernel_rfl) D dl.out rfl rfl ?_))
            go_ret
            exact ⟨rfl, hS0.out⟩
end Go.Proofs.YtdlblhoaddfanaaDoor
namespace Go.Proofs.YtdlblhoaddfanaaDoor
open Go.ChangeShapes Go.WideShapes Go.ChangeAt Go.WideMaps Go.WideElems Go.RowKit Go.YtdlblhoaddfanaaDoor
set_option linter.unusedVariables false
theorem own : ownKnob Tryd.prog.godebug = none := by kernel_rfl
theorem laidOut : laidOutB Tryd.prog = true := by kernel_rfl
theorem gFirst : Tryd.prog.globalNamed "braid/digest.firstWords" = some 0 := by kernel_rfl
theorem gConst : Tryd.prog.globalNamed "braid/digest.constants" = some 2 := by kernel_rfl
theorem tFirst : (Tryd.prog.globals[0]?).map (·.type) = some 23 := by kernel_rfl
theorem tConst : (Tryd.prog.globals[2]?).map (·.type) = some 66 := by kernel_rfl
def laidL : List (String × DataW Unit) := [("braid/digest.firstWords", Rows.laid_braid_digest_firstWords), ("braid/digest.constants", Rows.laid_braid_digest_constants)]
section
variable {H : Type} {enc : TypeId × Value → H} {P : Program} {w : World} {base : Nat} {sp : Nat → Bool} {held : Bool}
def theInt : Value → Int
  | .int _ k => k
  | _ => 0
theorem trod_ints {fuel : Nat} {t e : TypeId} {n : Nat} {kd : IntKind} {cs : List Value} {x : DataW H × List MemPlace} (ht : P.underlying t = some (.array n e)) (he : P.underlying e = some (.int kd)) (hc : P.cellsOf e = 1) (hct : P.cellsOf t = n)
    (h : DataW.trod enc P w base sp held fuel t cs = some x) : ∃ ks : List Int, cs = ks.map (Value.int kd) ∧ ks.length = n ∧ (∀ k ∈ ks, (Lit.int kd k).wf = true) ∧ x.1 = .agg (ks.map fun k => .lit (.int kd k)) := by
  obtain ⟨xs, m, rfl, rfl, hl, hn, hel⟩ := DataW.trod_array ht h
  have hlen : cs.length = n := hl.trans hct
  have key : ∀ i, i < n → ∃ k, cs[i]? = some (.int kd k) ∧ (Lit.int kd k).wf = true ∧ xs[i]? = some (.lit (.int kd k), []) := by
    intro i hi
    have hx : xs[i]? = some xs[i] := List.getElem?_eq_getElem (by omega)
    have h1 := hel i hi
    rw [hc, Nat.mul_one, hx] at h1
    obtain ⟨k, e1, e2, e3⟩ := DataW.trod_int he h1
    refine ⟨k, ?_, e3, by rw [hx, e2]⟩
    have e4 : ((cs.drop i).take 1)[0]? = some (.int kd k) := by rw [e1]; rfl
    simpa [List.getElem?_take, List.getElem?_drop] using e4
  refine ⟨cs.map theInt, ?_, by simp [hlen], ?_, ?_⟩
  · apply List.ext_getElem?
    intro i
    by_cases hi : i < n
    · obtain ⟨k, e1, _, _⟩ := key i hi
      simp [e1, theInt]
    · rw [List.getElem?_eq_none (by omega), List.getElem?_eq_none (by simp; omega)]
  · intro k hk
    obtain ⟨i, hi, rfl⟩ := List.getElem_of_mem hk
    have hi' : i < n := by simpa [hlen] using hi
    obtain ⟨k, e1, e2, _⟩ := key i hi'
    have : (cs.map theInt)[i]? = some k := by simp [e1, theInt]
    rw [List.getElem?_eq_getElem hi] at this
    rw [Option.some.inj this]; exact e2
  · show DataW.agg _ = DataW.agg _
    congr 1
    apply List.ext_getElem?
    intro i
    by_cases hi : i < n
    · obtain ⟨k, e1, _, e3⟩ := key i hi
      simp [e1, e3, theInt]
    · rw [List.getElem?_eq_none (by simp; omega), List.getElem?_eq_none (by simp; omega)]
theorem trodAll_stays (hl : laidOutB P = true) {W W' : World} {sp' : Nat → Bool} : ∀ {ts : List TypeId} {vs : List Value} {ds : List (DataW H)} {ps : List MemPlace}, (∀ t ∈ ts, P.readableRec t = true ∧ t < P.types.size) →
    DataW.TrodAll enc P W base (fun _ => true) true ts vs ds ps → (∀ p ∈ ps, W.sameAt W' p) → (∀ p ∈ ps, sp' p.block = true) → DataW.TrodAll enc P W' base sp' true ts vs ds ps
  | [], [], [], _, _, h, _, _ => h
  | [], [], _ :: _, _, _, h, _, _ => h.elim
  | [], _ :: _, _, _, _, h, _, _ => by cases ‹List (DataW H)› <;> exact h.elim
  | _ :: _, [], _, _, _, h, _, _ => by cases ‹List (DataW H)› <;> exact h.elim
  | _ :: _, _ :: _, [], _, _, h, _, _ => h.elim
  | t :: ts, v :: vs, d :: ds, ps, ht, h, hs, hp => by
    obtain ⟨p, q, h1, h2, rfl⟩ := h
    obtain ⟨r1, r2⟩ := ht t List.mem_cons_self
    exact ⟨p, q, Trod_stays hl r1 r2 h1 (fun x hx => hs x (List.mem_append_left _ hx)) (fun x hx => hp x (List.mem_append_left _ hx)),
      trodAll_stays hl (fun u hu => ht u (List.mem_cons_of_mem _ hu)) h2 (fun x hx => hs x (List.mem_append_right _ hx)) (fun x hx => hp x (List.mem_append_right _ hx)), rfl⟩
/-- A law's end: true, in a world whose old memory is as' it was. -/
theorem law_post {f : Func} {s : ChangeSpec} {apart fresh handsOn : Bool} {W W' : World} {args : Array Value} {v : Value} {ds gs : List (DataW H)} {before : List MemPlace} (hl : laidOutB P = true)
    (hts : ∀ t ∈ f.params.toList, P.readableRec t = true ∧ t < P.types.size) (hvs : varsRowed P s.vars = true)
    (hW : DataW.Whole enc P f.params.toList s.vars apart W args.toList ds gs before) (hb : Below W.heap.size W W')
    (hres : ∀ (b : Nat) (sp : Nat → Bool) (hd : Bool), DataW.TrodAll enc P W' b sp hd f.resultTypes.toList (v.resultList f.resultTypes.size) (s.fn H (ds ++ gs)).results [])
    (hargs : (s.fn H (ds ++ gs)).args = ds) (hvars : (s.fn H (ds ++ gs)).vars = gs) :
    s.post enc P f apart fresh handsOn false W args v W' := by
  have hW2 := hW
  have hlt : ∀ p ∈ before, p.block < W.heap.size := fun p hp => hW.lt p hp
  obtain ⟨p, q, hA, hV, rfl, hfz, hnd⟩ := hW
  refine ⟨ds, gs, p ++ q, [], p, q, hW2, hres _ _ _, ?_, ?_, hb.frame _, fun h => by cases h⟩
  · rw [hargs]
    exact trodAll_stays hl hts hA (fun x hx => hb.same (hlt x (List.mem_append_left _ hx))) (fun x hx => by simpa using hlt x (List.mem_append_left _ hx))
  · rw [hvars]
    exact Below.trodVars hl hb hvs hV
end
theorem u32s_of {cs : Array Value} {ks : List Int} (h : cs.toList = ks.map (Value.int .u32)) : cs = u32s ks := by
  apply Array.toList_inj.1
  rw [h]; simp [u32s]
theorem lits_inj : ∀ {a b : List Int}, (a.map fun k => (DataW.lit (.int .u32 k) : DataW Unit)) = b.map (fun k => .lit (.int .u32 k)) → a = b
  | [], [], _ => rfl
  | [], _ :: _, h => by simp at h
  | _ :: _, [], h => by simp at h
  | a :: xs, b :: ys, h => by
    simp only [List.map_cons, List.cons.injEq, DataW.lit.injEq, Lit.int.injEq, true_and] at h
    rw [h.1, lits_inj h.2]
theorem bytes_of {ks : List Int} (h : ∀ k ∈ ks, (Lit.int .u8 k).wf = true) : Bytes ks := by
  intro i
  unfold ith
  cases e : ks[i]? with
  | none => simp
  | some k =>
    have h2 := h k (List.mem_of_getElem? e)
    have h3 : 0 ≤ k ∧ k ≤ 255 := by simpa [Lit.wf, IntKind.min, IntKind.max, IntKind.signed, IntKind.bits] using h2
    show 0 ≤ k ∧ k < 256
    omega
/-- What the condition on the listed variables gives the walks. -/
theorem of_laid {W : World} (h : laidMetH Tryd.prog laidL W) : ∃ Tg Tf : TypeId, W.heap[2]? = some (.cells (u32s constW) Tg (0, 0)) ∧ W.heap[0]? = some (.cells firstW.cells Tf (0, 0)) := by
  rw [MakeChecks.laidMetH_plain _ _ _ (by kernel_rfl)] at h
  obtain ⟨ps, ⟨g0, t0, cs0, f0, p0, q0, hg0, ht0, hv0, hd0, ⟨g1, t1, cs1, f1, p1, q1, hg1, ht1, hv1, hd1, _, eq1⟩, eq0⟩, _, hm⟩ := h
  obtain rfl := Option.some.inj (gFirst.symm.trans hg0)
  obtain rfl := Option.some.inj (gConst.symm.trans hg1)
  obtain rfl := Option.some.inj (tFirst.symm.trans ht0)
  obtain rfl := Option.some.inj (tConst.symm.trans ht1)
  obtain ⟨k0, a0, l0, _, x0⟩ := trod_ints Tryd.underlying23 Tryd.underlying22 (by kernel_rfl) (by kernel_rfl) hd0
  obtain ⟨k1, a1, l1, _, x1⟩ := trod_ints Tryd.underlying66 Tryd.underlying22 (by kernel_rfl) (by kernel_rfl) hd1
  have c0 := u32s_of a0
  have c1 := u32s_of a1
  have d0 : k0 = firstW.list := lits_inj (DataW.agg.inj (x0.symm.trans rfl))
  have d1 : k1 = constW := lits_inj (DataW.agg.inj (x1.symm.trans rfl))
  have z0 : cs0.size = 8 := by rw [c0]; simpa [u32s] using l0
  have z1 : cs1.size = 64 := by rw [c1]; simpa [u32s] using l1
  have m0 := (hm 0 0 (by rw [eq0]; exact List.mem_append_left _ (List.mem_append_left _ (MemPlace.mem_row.2 ⟨0, by omega, rfl⟩)))).1
  have m1 := (hm 2 0 (by rw [eq0, eq1]; exact List.mem_append_right _ (List.mem_append_left _ (List.mem_append_left _ (MemPlace.mem_row.2 ⟨0, by omega, rfl⟩))))).1
  obtain ⟨e0, T0, m0⟩ := m0
  obtain ⟨e1, T1, m1⟩ := m1
  unfold World.var? at hv0 hv1
  rw [gFirst] at hv0
  rw [gConst] at hv1
  simp only [Option.bind_some, m0, m1, Option.some.injEq] at hv0 hv1
  refine ⟨T1, T0, ?_, ?_⟩
  · rw [m1, hv1, c1, d1]
  · rw [m0, hv0, c0, d0]; rfl
/-- The door's own heap meets the condition. -/
theorem door_met (os : Os) (args : Array Value) : laidMetH Tryd.prog laidL ((World.doorLaid Tryd.prog 400 os).forCall (fun _ _ => 0) ⟨#[], args, []⟩).memory :=
  laidMetH_of_parts3 (fuel := 8) (laidMet_of_run' 8 (by kernel_rfl) (by kernel_rfl)) (by kernel_rfl) (by kernel_rfl)
end Go.Proofs.YtdlblhoaddfanaaDoor
namespace Go.Proofs.YtdlblhoaddfanaaDoor
open Go.ChangeShapes Go.WideShapes Go.ChangeAt Go.WideMaps Go.WideElems Go.RowKit Go.YtdlblhoaddfanaaDoor
set_option linter.unusedVariables false
section
variable {H : Type} {enc : TypeId × Value → H} {P : Program} {W : World}
theorem trod_bytes {t e : TypeId} (ht : P.underlying t = some (.slice e)) (he : P.underlying e = some (.int .u8)) (hc : P.cellsOf e = 1) {fuel : Nat} {cs : List Value} {x : DataW H × List MemPlace}
    (h : DataW.trod enc P W 0 (fun _ => true) true fuel t cs = some x) : ∃ v l, cs = [v] ∧ RdB W v l ∧ Bytes l := by
  rcases open_ints ht he hc h with ⟨rfl, _⟩ | ⟨a, len, cap, zs, rfl, hb, hl, hm, hz, _, hcell, hwf⟩
  · exact ⟨_, [], rfl, .inl ⟨none, 0, rfl, fun _ => rfl, rfl⟩, bytes_nil⟩
  · simp only [if_true] at hz
    refine ⟨_, zs.take len, rfl, ?_, bytes_of fun k hk => hwf k (List.mem_of_mem_take hk)⟩
    have hln : (zs.take len).length = len := by rw [List.length_take]; omega
    by_cases h0 : len = 0
    · subst h0
      exact .inl ⟨some a, cap, rfl, (fun h => by cases h), rfl⟩
    · obtain ⟨b, o, spot⟩ := a
      have hspot : spot = none := by simpa [Addr.add] using World.cell?_spot (hcell 0 (by omega))
      subst hspot
      refine .inr ⟨b, o, cap, by rw [hln], by rw [hln]; exact hl, hm, World.block_lt_of_cell? _ _ (hcell 0 (by omega)), fun i hi => ?_⟩
      rw [hln] at hi
      have := hcell i (by omega)
      rw [addr_add] at this
      rw [this]
      simp [ith, List.getD, hi]
theorem open_bytes {t e : TypeId} {v : Value} {d : DataW H} {p : List MemPlace} (ht : P.underlying t = some (.slice e)) (he : P.underlying e = some (.int .u8)) (hc : P.cellsOf e = 1) (hct : P.cellsOf t = 1)
    {r : Reach} {b0 : Nat} (hv : Value.okWide P W r b0 t v) (h : DataW.Trod enc P W 0 (fun _ => true) true t v d p) : ∃ l, RdB W v l ∧ Bytes l := by
  obtain ⟨fuel, hf⟩ := h
  obtain ⟨v', l, h1, h2, h3⟩ := trod_bytes ht he hc hf
  refine ⟨l, ?_, h3⟩
  unfold Value.okWide at hv
  rw [ht] at hv
  simp only [Cell.okWide, ht] at hv
  cases v <;> simp [Cell.ok, ht] at hv
  simp [Value.cells] at h1
  rw [h1]; exact h2
end
end Go.Proofs.YtdlblhoaddfanaaDoor

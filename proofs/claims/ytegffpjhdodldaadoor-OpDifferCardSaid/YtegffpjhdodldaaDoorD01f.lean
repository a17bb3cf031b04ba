/- Contract of digest.put: bytes put into a mill. -/
import Derived.Test.YtegffpjhdodldaaDoorD01c
import Derived.Test.YtegffpjhdodldaaDoorLibB
import Derived.Deep.DeepCutAuto
namespace Go.Proofs.YtegffpjhdodldaaDoor
open Go.RowKit Go.YtegffpjhdodldaaDoor
set_option linter.unusedVariables false
variable {Tg Tf : TypeId}
theorem grindAll_lit (v G : V8) (bv : Value) (l : List Int) (w : World) (hG : blocksF v l = G) (hv : v.ok) (hl : Bytes l) (hr : RdB w bv l)
   (hg : w.heap[1]? = some (.cells (u32s constW) Tg (0, 0))) :
    Calls Tryd.prog 62 #[.agg #[.int .u32 v.a, .int .u32 v.b, .int .u32 v.c, .int .u32 v.d, .int .u32 v.e, .int .u32 v.f, .int .u32 v.g, .int .u32 v.h], bv] w
     fun e w' => ∃ r, e = .returned (.tuple #[.agg #[.int .u32 G.a, .int .u32 G.b, .int .u32 G.c, .int .u32 G.d, .int .u32 G.e, .int .u32 G.f, .int .u32 G.g, .int .u32 G.h], r]) ∧ RdB w' r (restF l) ∧ Below w.heap.size w w' := by
  subst hG
  exact grindAll_any (Tg := Tg) v bv l w hv hl hr hg
set_option maxRecDepth 100000 in
set_option maxHeartbeats 1000000 in
theorem put_any (v G : V8) (rv : Value) (r : List Int) (N : Nat) (bv : Value) (l : List Int) (w : World) (hv : v.ok) (hr : RdB w rv r) (hl : RdB w bv l) (hrb : Bytes r) (hlb : Bytes l) (hrl : r.length < 64) (hN : N + l.length ≤ 200000) (hG : blocksF v (r ++ l) = G)
   (hg : w.heap[1]? = some (.cells (u32s constW) Tg (0, 0))) :
    Calls Tryd.prog 39 #[.agg #[.int .u32 v.a, .int .u32 v.b, .int .u32 v.c, .int .u32 v.d, .int .u32 v.e, .int .u32 v.f, .int .u32 v.g, .int .u32 v.h, rv, .int .i64 N], bv] w
     fun e w' => ∃ r', e = .returned (.agg #[.int .u32 G.a, .int .u32 G.b, .int .u32 G.c, .int .u32 G.d, .int .u32 G.e, .int .u32 G.f, .int .u32 G.g, .int .u32 G.h, r', .int .i64 (N + l.length : Nat)]) ∧ OwnB w.heap.size 5 w' r' (restF (r ++ l)) ∧ Below w.heap.size w w' := by
  have hG' := Lib.hid hG; clear hG
  obtain ⟨ra, rc, rfl⟩ := hr.slice
  obtain ⟨ba, bc, rfl⟩ := hl.slice
  have hlt : 1 < w.heap.size := (Array.getElem?_eq_some_iff.1 hg).1
  have hmk : ∀ wx, (Instr.makeSlice 40 (.int .i64 0) (.int .i64 ((r.length : Int) + (l.length : Int)))).run Tryd.prog wx = .ok (.slice (some ⟨wx.heap.size, 0, none⟩) 0 (r.length + l.length)) (wx.alloc (.cells (u8s (zerosB (r.length + l.length))) 5)) := fun wx => run_makeB wx _ _ Tryd.underlying40 (by kernel_rfl) 0 (r.length + l.length) (by omega) (by omega)
  have hrW : ∀ o1 o2 o3, RdB (((w.alloc o1).alloc o2).alloc o3) (.slice ra r.length rc) r := fun o1 o2 o3 => hr.mono ((((Below.refl _ _).alloc (Nat.le_refl _) _).alloc (by simp) _).alloc (by simp; omega) _)
  have hrW' := Lib.hid hrW; have hl' := Lib.hid hl; have hg' := Lib.hid hg; clear hrW hl hg hr
  have hown : ∀ o1 o2, OwnB (w.heap.size + 2) 5 (((w.alloc o1).alloc o2).alloc (.cells (u8s (zerosB (r.length + l.length))) 5)) (.slice (some ⟨w.heap.size + 2, 0, none⟩) 0 (r.length + l.length)) [] := by
    intro o1 o2
    have h := World.ownsRow_made ((w.alloc o1).alloc o2) (base := w.heap.size + 2) (e := 5) (size := 1) (u8s (zerosB (r.length + l.length))) (r.length + l.length) (by simp) (by unfold maxLen; omega) (by rw [u8s_size, zerosB_length]; omega)
    rw [World.size_alloc, World.size_alloc] at h
    exact h
  have hown' := Lib.hid hown; clear hown
  go_enter Tryd.func39, Tryd.ntmps39
  go_wp2_with (refine appendB rfl _ _ 40 rfl (w.heap.size + 2) 5 Tryd.underlying40 (by kernel_rfl) _ rfl [] (hown'.out _ _) _ rfl r (hrW'.out _ _ _) (by simp; omega) (by simp) ?_)
  intro v1 w1 ho1 hg1
  have hW : w1.heap[w.heap.size]? = some (.cells #[.int .u32 v.a, .int .u32 v.b, .int .u32 v.c, .int .u32 v.d, .int .u32 v.e, .int .u32 v.f, .int .u32 v.g, .int .u32 v.h, .slice ra r.length rc, .int .i64 N] 51 (0, 0)) ∧ w1.heap[w.heap.size + 1]? = some (.cells #[.int .u32 0, .int .u32 0, .int .u32 0, .int .u32 0, .int .u32 0, .int .u32 0, .int .u32 0, .int .u32 0, .slice none 0 0, .int .i64 0] 51 (0, 0)) ∧ Below w.heap.size w w1 ∧ w.heap.size + 2 ≤ w1.heap.size := by
    have hb := OwnB.below (hown'.out _ _) hg1 (by simp)
    refine ⟨(hb.block _ (by omega)).trans ?_, (hb.block _ (by omega)).trans ?_, ?_, Nat.le_trans (by simp) hb.size⟩
    · exact (hp2 _ _ _ _ (by simp)).trans (heap_alloc_new w _)
    · exact (hp1 _ _ _ (by simp)).trans (hn2 w _ _)
    · exact ((((Below.refl _ _).alloc (Nat.le_refl _) _).alloc (by simp) _).alloc (by simp; omega) _).trans (hb.mono (by omega))
  obtain ⟨hq0, hq1, hB1, hz1⟩ := hW
  have hl1 := hl'.out.mono hB1
  have hq0' := Lib.hid hq0; have hq1' := Lib.hid hq1; have hl1' := Lib.hid hl1; have ho1' := Lib.hid ho1; have hz1' := Lib.hid hz1
  clear hq0 hq1 hl1 hg1 ho1 hmk
  refine Stop.go ?_
  go_wp2_with (refine appendB rfl _ _ 40 rfl (w.heap.size + 2) 5 Tryd.underlying40 (by kernel_rfl) _ rfl _ ho1'.out _ rfl l hl1'.out (by omega) hz1'.out ?_)
  intro v2 w2 ho2 hg2
  have hb := OwnB.below ho1'.out hg2 hz1'.out
  have hq0 := (hb.block _ (by omega)).trans hq0'.out
  have hq1 := (hb.block _ (by omega)).trans hq1'.out
  have hB2 : Below w.heap.size w w2 := hB1.trans (hb.mono (by omega))
  have hz2 := Nat.le_trans hz1'.out hb.size
  have hgr2 := (hB2.block _ hlt).trans hg'.out
  have hc : ∀ j, w2.cell? ⟨w.heap.size, j, none⟩ = (#[.int .u32 v.a, .int .u32 v.b, .int .u32 v.c, .int .u32 v.d, .int .u32 v.e, .int .u32 v.f, .int .u32 v.g, .int .u32 v.h, .slice ra r.length rc, .int .i64 N] : Array Value)[j]? := fun j => cell_of_row _ _ _ _ _ _ hq0
  have c0 := hc 0; have c1 := hc 1; have c2 := hc 2; have c3 := hc 3; have c4 := hc 4; have c5 := hc 5; have c6 := hc 6; have c7 := hc 7
  simp at c0 c1 c2 c3 c4 c5 c6 c7
  clear hq0' hq1' hl1' ho1' hz1' hB1 hg2 hb hc hrW' hown'
  have hq0' := Lib.hid hq0; have hq1' := Lib.hid hq1; have ho2' := Lib.hid ho2; have hz2' := Lib.hid hz2; have hgr2' := Lib.hid hgr2
  clear hq0 hq1 ho2 hgr2
  refine Stop.go ?_
  go_upto_region 5 with (go_at_call 62; refine (grindAll_lit (Tg := Tg) v G v2 (r ++ l) _ hG'.out hv (bytes_append _ _ hrb hlb) ho2'.out.rd hgr2'.out).mono ?_; rintro e w3 ⟨rest, rfl, hr3, hb3⟩; have hr3' := Lib.hid hr3; have hb3' := Lib.hid hb3; clear hr3 hb3)
  clear c0 c1 c2 c3 c4 c5 c6 c7
  obtain ⟨qa, qc, rfl⟩ := hr3'.out.slice
  have hz3 := Nat.le_trans hz2'.out hb3'.out.size
  have hq0 := (hb3'.out.block _ (by have := hz2'.out; omega)).trans hq0'.out
  have hq1 := (hb3'.out.block _ (by have := hz2'.out; omega)).trans hq1'.out
  have c9 : w3.cell? ⟨w.heap.size, 9, none⟩ = some (.int .i64 N) := by rw [cell_of_row _ _ _ _ _ _ hq0]; rfl
  have d : ∀ j, w3.cell? ⟨w.heap.size + 1, j, none⟩ = (#[.int .u32 0, .int .u32 0, .int .u32 0, .int .u32 0, .int .u32 0, .int .u32 0, .int .u32 0, .int .u32 0, .slice none 0 0, .int .i64 0] : Array Value)[j]? := fun j => cell_of_row _ _ _ _ _ _ hq1
  have hB3 : Below w.heap.size w w3 := hB2.trans (hb3'.out.mono (by have := hz2'.out; omega))
  have hS : IntKind.i64.wrap ((N : Int) + (l.length : Int)) = (N : Int) + (l.length : Int) := IntWalk.i64_in _ (by omega)
  have hlen : Hid (([] : List Int).length + (restF (r ++ l)).length ≤ 140737488355328) := Lib.hid (by have := restF_length (r ++ l); rw [List.length_nil]; omega)
  generalize hWx : w3.alloc (Obj.cells #[Value.int IntKind.u32 G.a, Value.int IntKind.u32 G.b, Value.int IntKind.u32 G.c, Value.int IntKind.u32 G.d, Value.int IntKind.u32 G.e, Value.int IntKind.u32 G.f, Value.int IntKind.u32 G.g, Value.int IntKind.u32 G.h] 49) = Wx
  have hWb : Below w3.heap.size w3 Wx := by rw [← hWx]; exact (Below.refl _ _).alloc (Nat.le_refl _) _
  have hWz : Wx.heap.size = w3.heap.size + 1 := by rw [← hWx]; simp
  have hWn : Wx.heap[w3.heap.size]? = some (.cells #[.int .u32 G.a, .int .u32 G.b, .int .u32 G.c, .int .u32 G.d, .int .u32 G.e, .int .u32 G.f, .int .u32 G.g, .int .u32 G.h] 49 (0, 0)) := by rw [← hWx]; exact heap_alloc_new _ _
  have hrx := hr3'.out.mono hWb
  have hq0x := (hWb.block _ (by omega)).trans hq0
  have hq1x := (hWb.block _ (by omega)).trans hq1
  clear hWx c9 d hq0 hq1
  have facts : ∀ w4 : World, Below (w3.heap.size + 1) Wx w4 → (∀ j, w4.cell? ⟨w3.heap.size, j, none⟩ = (#[.int .u32 G.a, .int .u32 G.b, .int .u32 G.c, .int .u32 G.d, .int .u32 G.e, .int .u32 G.f, .int .u32 G.g, .int .u32 G.h] : Array Value)[j]?) ∧ w4.cell? ⟨w.heap.size, 9, none⟩ = some (.int .i64 N) ∧ (∀ j, w4.cell? ⟨w.heap.size + 1, j, none⟩ = (#[.int .u32 0, .int .u32 0, .int .u32 0, .int .u32 0, .int .u32 0, .int .u32 0, .int .u32 0, .int .u32 0, .slice none 0 0, .int .i64 0] : Array Value)[j]?) ∧ (∀ j, w4.frozen? ⟨w.heap.size + 1, j, none⟩ = false) ∧ Hid (w4.heap[w.heap.size + 1]? = some (.cells #[.int .u32 0, .int .u32 0, .int .u32 0, .int .u32 0, .int .u32 0, .int .u32 0, .int .u32 0, .int .u32 0, .slice none 0 0, .int .i64 0] 51 (0, 0))) := by
    intro w4 hb
    refine ⟨fun j => ?_, ?_, fun j => ?_, fun j => ?_, (hb.block _ (by omega)).trans hq1x⟩
    · exact cell_of_row _ _ _ _ _ _ ((hb.block _ (by omega)).trans hWn)
    · rw [cell_of_row _ _ _ _ _ _ ((hb.block _ (by omega)).trans hq0x)]; rfl
    · exact cell_of_row _ _ _ _ _ _ ((hb.block _ (by omega)).trans hq1x)
    · exact frozen_of_row _ _ _ _ _ ((hb.block _ (by omega)).trans hq1x)
  obtain ⟨ha, c9, hda, hfa, _⟩ := facts Wx (Below.refl _ _)
  have facts' := Lib.hid facts; have hrx' := Lib.hid hrx; have hWz' := Lib.hid hWz; have hWb' := Lib.hid hWb
  have a0 := ha 0; have a1 := ha 1; have a2 := ha 2; have a3 := ha 3; have a4 := ha 4; have a5 := ha 5; have a6 := ha 6; have a7 := ha 7
  simp at a0 a1 a2 a3 a4 a5 a6 a7
  clear facts ha hda hfa hrx hWz hWb hWn hq0x hq1x
  go_region_law ((refine step_appendB rfl _ _ 40 rfl (w3.heap.size + 1) 5 Tryd.underlying40 (by kernel_rfl) (.slice none 0 0) rfl [] (OwnB.nil _ _ _) (.slice qa (restF (r ++ l)).length qc) rfl (restF (r ++ l)) ?_ hlen.out ?_ ?_; (exact hrx'.out); (show w3.heap.size + 1 ≤ Wx.heap.size; rw [hWz'.out]; exact Nat.le_refl _); intro v4 w4 ho4 hg4; rw [List.nil_append] at ho4; obtain ⟨pa, pc, rfl⟩ := ho4.rd.slice; have hb4 : Below (w3.heap.size + 1) Wx w4 := ⟨hg4.os, hg4.tape, hg4.output, hg4.size, fun k hk => hg4.block k (by show k < Wx.heap.size; rw [hWz'.out]; exact hk) (by intro h; cases h)⟩; obtain ⟨hb, c9', hdb, hfb, hrow⟩ := facts'.out w4 hb4; have b0 := hb 0; have b1 := hb 1; have b2 := hb 2; have b3 := hb 3; have b4 := hb 4; have b5 := hb 5; have b6 := hb 6; have b7 := hb 7; simp at b0 b1 b2 b3 b4 b5 b6 b7; have d0 := hdb 0; have d1 := hdb 1; have d2 := hdb 2; have d3 := hdb 3; have d4 := hdb 4; have d5 := hdb 5; have d6 := hdb 6; have d7 := hdb 7; have d8 := hdb 8; have d9 := hdb 9; simp at d0 d1 d2 d3 d4 d5 d6 d7 d8 d9; have g0 := hfb 0; have g1 := hfb 1; have g2 := hfb 2; have g3 := hfb 3; have g4 := hfb 4; have g5 := hfb 5; have g6 := hfb 6; have g7 := hfb 7; have g8 := hfb 8; have g9 := hfb 9; have ho4' := Lib.hid ho4; have hb4' := Lib.hid hb4; clear ho4 hb4 hg4 hb hdb hfb))
  all_goals
    go_wp2
    try simp only [Exit.inBlock, Exit.then]
    rw [set10_world hrow.out]
    have hBz : Below w.heap.size w w4 := (hB3.trans (hWb'.out.mono (by omega))).trans (hb4'.out.mono (by omega))
    exact bodyPost_ret (results_cell_row rfl _ _ (w.heap.size + 1) 51 _ _ _ rfl (setRow_heap _ _ _ _ _ _ hrow.out) Tryd.underlying51 rfl (by kernel_rfl)) rfl ⟨_, rfl, ownB_setRow (ho4'.out) (by omega) (by omega) _, below_setRow' (g := w.heap.size + 1) hBz (by omega) _⟩
end Go.Proofs.YtegffpjhdodldaaDoor

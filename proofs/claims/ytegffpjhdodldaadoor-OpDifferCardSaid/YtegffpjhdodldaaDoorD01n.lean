import Derived.Test.YtegffpjhdodldaaDoorD01m
import Derived.Test.YtegffpjhdodldaaDoorD01h
import Derived.Lib.SlBytesConst
import Derived.Test.YtegffpjhdodldaaDoorLibE
import Derived.Test.YtegffpjhdodldaaDoorLibD
namespace Go.Proofs.YtegffpjhdodldaaDoor
open Go.RowKit Go.YtegffpjhdodldaaDoor
set_option linter.unusedVariables false
variable {Tg Tf : TypeId}
theorem rd_rowM {w : World} {g : Nat} {cs : List Int} {E : TypeId} {m : Nat × Nat} (hg : w.heap[g]? = some (.cells (u8s cs) E m)) (n c : Nat) (hn : cs.length = n) (hc : n ≤ c) (hm : c ≤ maxLen) :
    RdB w (.slice (some ⟨g, 0, none⟩) n c) cs :=
  .inr ⟨g, 0, c, by rw [hn], by omega, hm, (Array.getElem?_eq_some_iff.1 hg).1, fun i hi => by rw [Nat.zero_add, cell_of_row _ _ _ _ _ _ hg]; exact u8s_get _ _ hi⟩
def StopP (p : Prop) : Prop := p
theorem Stop.go'' (p : Prop) (h : StopP p) : p := h
theorem StopP.go {p : Prop} (h : p) : StopP p := h
theorem abc_bytes : Bytes [97, 98, 99] := by
  intro i
  match i with
  | 0 => decide
  | 1 => decide
  | 2 => decide
  | n + 3 => simp [ith]
theorem sum_abc (A : List Int) (hA : shaF [97, 98, 99] = A) (w : World) (m : Nat × Nat)
   (hg : w.heap[1]? = some (.cells (u32s constW) Tg (0, 0))) (hgf : w.heap[0]? = some (.cells firstW.cells Tf (0, 0))) :
    Calls Tryd.prog 34 #[.slice (some ⟨w.heap.size, 0, none⟩) 3 3] (w.alloc (.cells #[.int .u8 97, .int .u8 98, .int .u8 99] 5 m))
     fun e w' => e = .returned (.tuple #[.agg (u8s A), .int .i64 0]) ∧ Below w.heap.size w w' := by
  have hlt : 1 < w.heap.size := (Array.getElem?_eq_some_iff.1 hg).1
  have hltf : 0 < w.heap.size := (Array.getElem?_eq_some_iff.1 hgf).1
  have hB : Below w.heap.size w (w.alloc (.cells #[.int .u8 97, .int .u8 98, .int .u8 99] 5 m)) := (Below.refl _ _).alloc (Nat.le_refl _) _
  refine (sum_any (Tg := Tg) (Tf := Tf) A _ [97, 98, 99] _ (rd_rowM (cs := [97, 98, 99]) (heap_alloc_new w _) 3 3 rfl (Nat.le_refl _) (by decide)) abc_bytes (by decide) hA ((hB.block _ hlt).trans hg) ((hB.block _ hltf).trans hgf)).mono ?_
  rintro e w' ⟨rfl, hb⟩
  exact ⟨rfl, hB.trans (hb.mono (by simp))⟩
theorem pieces_abc (A : List Int) (hA : shaF [97, 98, 99] = A) (w : World) (m1 m2 : Nat × Nat)
   (hg : w.heap[1]? = some (.cells (u32s constW) Tg (0, 0))) (hgf : w.heap[0]? = some (.cells firstW.cells Tf (0, 0))) :
    Calls Tryd.prog 35 #[.slice (some ⟨w.heap.size + 1 + 1, 0, none⟩) 3 3] (((w.alloc (.cells #[.int .u8 97] 5 m1)).alloc (.cells #[.int .u8 98, .int .u8 99] 5 m2)).alloc (.cells #[.slice (some ⟨w.heap.size, 0, none⟩) 1 1, .slice none 0 0, .slice (some ⟨w.heap.size + 1, 0, none⟩) 2 2] 40))
     fun e w' => e = .returned (.tuple #[.agg (u8s A), .int .i64 0]) ∧ Below w.heap.size w w' := by
  have hlt : 1 < w.heap.size := (Array.getElem?_eq_some_iff.1 hg).1
  have hltf : 0 < w.heap.size := (Array.getElem?_eq_some_iff.1 hgf).1
  generalize hW : ((w.alloc (.cells #[.int .u8 97] 5 m1)).alloc (.cells #[.int .u8 98, .int .u8 99] 5 m2)).alloc (.cells #[.slice (some ⟨w.heap.size, 0, none⟩) 1 1, .slice none 0 0, .slice (some ⟨w.heap.size + 1, 0, none⟩) 2 2] 40) = W
  have hB : Below w.heap.size w W := by rw [← hW]; exact (((Below.refl _ _).alloc (Nat.le_refl _) _).alloc (by simp) _).alloc (by simp; omega) _
  have hz : w.heap.size + 3 = W.heap.size := by rw [← hW]; simp
  have r1 : W.heap[w.heap.size]? = some (.cells (u8s [97]) 5 m1) := by rw [← hW]; exact (hp1 _ _ _ (by simp; omega)).trans ((hp1 _ _ _ (by simp)).trans (heap_alloc_new w _))
  have r2 : W.heap[w.heap.size + 1]? = some (.cells (u8s [98, 99]) 5 m2) := by rw [← hW]; exact (hp1 _ _ _ (by simp)).trans (hn2 w _ _)
  have r3 : W.heap[w.heap.size + 1 + 1]? = some (.cells #[.slice (some ⟨w.heap.size, 0, none⟩) 1 1, .slice none 0 0, .slice (some ⟨w.heap.size + 1, 0, none⟩) 2 2] 40 (0, 0)) := by rw [← hW]; exact hn3 w _ _ _
  have h := pieces_any (Tg := Tg) (Tf := Tf) [[97], [], [98, 99]] (.slice (some ⟨w.heap.size + 1 + 1, 0, none⟩) 3 3) (w.heap.size + 1 + 1) 0 3 rfl W (Nat.le_refl _) (by decide) (by omega) (fun i hi => by
    rw [Nat.zero_add]
    match i, hi with
    | 0, _ => exact ⟨_, cell_of_row _ _ _ _ _ _ r3, rd_rowM r1 1 1 rfl (Nat.le_refl _) (by decide)⟩
    | 1, _ => exact ⟨_, cell_of_row _ _ _ _ _ _ r3, .inl ⟨none, 0, rfl, fun _ => rfl, rfl⟩⟩
    | 2, _ => exact ⟨_, cell_of_row _ _ _ _ _ _ r3, rd_rowM r2 2 2 rfl (Nat.le_refl _) (by decide)⟩) (by decide) (fun i => by
    match i with
    | 0 => decide
    | 1 => decide
    | 2 => decide
    | n + 3 => simp [nthL]) (fun i => by
    match i with
    | 0 => exact fun j => match j with | 0 => by decide | n + 1 => by simp [nthL, ith]
    | 1 => exact fun j => by simp [nthL, ith]
    | 2 => exact fun j => match j with | 0 => by decide | 1 => by decide | n + 2 => by simp [nthL, ith]
    | n + 3 => exact fun j => by simp [nthL, ith]) ((hB.block _ hlt).trans hg) ((hB.block _ hltf).trans hgf)
  rw [show ([[97], [], [98, 99]] : List (List Int)).flatten = [97, 98, 99] from rfl, hA] at h
  refine h.mono ?_
  rintro e w' ⟨rfl, hb⟩
  exact ⟨rfl, hB.trans (hb.mono (by omega))⟩
theorem is_empty (w : World)
   (hg : w.heap[1]? = some (.cells (u32s constW) Tg (0, 0))) (hgf : w.heap[0]? = some (.cells firstW.cells Tf (0, 0))) :
    Calls Tryd.prog 37 #[.string { data := #[] }, .agg #[.int .u8 227, .int .u8 176, .int .u8 196, .int .u8 66], .int .u8 85] w fun e w' => e = .returned (.bool true) ∧ Below w.heap.size w w' := by
  have h := sha_empty
  simp only [Bool.and_eq_true, beq_iff_eq] at h
  obtain ⟨⟨⟨⟨h0, h1⟩, h2⟩, h3⟩, h31⟩ := h
  exact is_any (shaF []) _ _ _ _ _ _ w (by decide) rfl h0 h1 h2 h3 h31 hg hgf
theorem is_abc (w : World)
   (hg : w.heap[1]? = some (.cells (u32s constW) Tg (0, 0))) (hgf : w.heap[0]? = some (.cells firstW.cells Tf (0, 0))) :
    Calls Tryd.prog 37 #[.string { data := #[97, 98, 99] }, .agg #[.int .u8 186, .int .u8 120, .int .u8 22, .int .u8 191], .int .u8 173] w fun e w' => e = .returned (.bool true) ∧ Below w.heap.size w w' := by
  have h := sha_abc
  simp only [Bool.and_eq_true, beq_iff_eq] at h
  obtain ⟨⟨⟨⟨h0, h1⟩, h2⟩, h3⟩, h31⟩ := h
  exact is_any (shaF [97, 98, 99]) _ _ _ _ _ _ w (by decide) rfl h0 h1 h2 h3 h31 hg hgf
theorem load_row {w : World} {g : Nat} {A : List Int} {T : TypeId} (hr : w.heap[g]? = some (.cells (u8s A) T (0, 0))) (hn : A.length = 32) : (loadCells ⟨g, 0, none⟩ 32).run Tryd.prog w = .ok (u8s A) w := by
  have h := run_loadCells_list (P := Tryd.prog) w ⟨g, 0, none⟩ (u8v A) (fun j v hv => by
    rw [addr_add, Nat.zero_add, cell_of_row _ _ _ _ _ _ hr]
    simpa [u8s_eq] using hv)
  rw [u8v_length, hn] at h
  exact h
theorem heq_ten (A : List Int) (w4 : World) (h : (Op.equalIn (9998 + 2) 55 (.agg (u8s A)) (.agg (u8s A))).run Tryd.prog w4 = .ok true w4) : (Op.equalIn 10000 55 (.agg (u8s A)) (.agg (u8s A))).run Tryd.prog w4 = .ok true w4 := h
theorem fin10 {B g : Nat} {w0 w2 : World} {a0 a1 a2 a3 a4 a5 a6 a7 a8 a9 x0 x1 x2 x3 x4 x5 x6 x7 x8 x9 : Value} {T : TypeId} (hrow : w2.heap[g]? = some (.cells #[a0, a1, a2, a3, a4, a5, a6, a7, a8, a9] T (0, 0))) (hB : Below B w0 w2) (hBg : B ≤ g) :
    ((((((((((w2.setCell ⟨g, 0, none⟩ x0).setCell ⟨g, 1, none⟩ x1).setCell ⟨g, 2, none⟩ x2).setCell ⟨g, 3, none⟩ x3).setCell ⟨g, 4, none⟩ x4).setCell ⟨g, 5, none⟩ x5).setCell ⟨g, 6, none⟩ x6).setCell ⟨g, 7, none⟩ x7).setCell ⟨g, 8, none⟩ x8).setCell ⟨g, 9, none⟩ x9).heap[g]? = some (.cells #[x0, x1, x2, x3, x4, x5, x6, x7, x8, x9] T (0, 0)) ∧
    Below B w0 ((((((((((w2.setCell ⟨g, 0, none⟩ x0).setCell ⟨g, 1, none⟩ x1).setCell ⟨g, 2, none⟩ x2).setCell ⟨g, 3, none⟩ x3).setCell ⟨g, 4, none⟩ x4).setCell ⟨g, 5, none⟩ x5).setCell ⟨g, 6, none⟩ x6).setCell ⟨g, 7, none⟩ x7).setCell ⟨g, 8, none⟩ x8).setCell ⟨g, 9, none⟩ x9) := by
  rw [set10_world hrow]
  exact ⟨setRow_heap _ _ _ _ _ _ hrow, below_setRow' (g := g) hB hBg _⟩
theorem fin10' {B g : Nat} {w0 W w2 : World} {a0 a1 a2 a3 a4 a5 a6 a7 a8 a9 x0 x1 x2 x3 x4 x5 x6 x7 x8 x9 : Value} {T : TypeId} (hb : Below W.heap.size W w2) (hrow : W.heap[g]? = some (.cells #[a0, a1, a2, a3, a4, a5, a6, a7, a8, a9] T (0, 0))) (hS : Below B w0 W) (hBW : B ≤ W.heap.size) (hBg : B ≤ g) :
    ((((((((((w2.setCell ⟨g, 0, none⟩ x0).setCell ⟨g, 1, none⟩ x1).setCell ⟨g, 2, none⟩ x2).setCell ⟨g, 3, none⟩ x3).setCell ⟨g, 4, none⟩ x4).setCell ⟨g, 5, none⟩ x5).setCell ⟨g, 6, none⟩ x6).setCell ⟨g, 7, none⟩ x7).setCell ⟨g, 8, none⟩ x8).setCell ⟨g, 9, none⟩ x9).heap[g]? = some (.cells #[x0, x1, x2, x3, x4, x5, x6, x7, x8, x9] T (0, 0)) ∧
    Below B w0 ((((((((((w2.setCell ⟨g, 0, none⟩ x0).setCell ⟨g, 1, none⟩ x1).setCell ⟨g, 2, none⟩ x2).setCell ⟨g, 3, none⟩ x3).setCell ⟨g, 4, none⟩ x4).setCell ⟨g, 5, none⟩ x5).setCell ⟨g, 6, none⟩ x6).setCell ⟨g, 7, none⟩ x7).setCell ⟨g, 8, none⟩ x8).setCell ⟨g, 9, none⟩ x9) :=
  fin10 ((hb.block g (Array.getElem?_eq_some_iff.1 hrow).1).trans hrow) (hS.trans (hb.mono hBW)) hBg
theorem add_65 (w wz : World) (b : Nat) (hB : Below w.heap.size w wz) (hrow : wz.heap[b]? = some (.cells (u8s (zerosB 65)) 5 (0, 0)))
   (hg : w.heap[1]? = some (.cells (u32s constW) Tg (0, 0))) :
    Calls Tryd.prog 18 #[.agg #[.int .u32 firstW.a, .int .u32 firstW.b, .int .u32 firstW.c, .int .u32 firstW.d, .int .u32 firstW.e, .int .u32 firstW.f, .int .u32 firstW.g, .int .u32 firstW.h, .slice none 0 0, .int .i64 0], .slice (some ⟨b, 0, none⟩) 65 65] wz
     fun e w' => ∃ (G : V8) (a : Option Addr) (c : Nat), e = .returned (.tuple #[.agg #[.int .u32 G.a, .int .u32 G.b, .int .u32 G.c, .int .u32 G.d, .int .u32 G.e, .int .u32 G.f, .int .u32 G.g, .int .u32 G.h, .slice a 1 c, .int .i64 65], .int .i64 0]) ∧ Below wz.heap.size wz w' := by
  have hlt : 1 < w.heap.size := (Array.getElem?_eq_some_iff.1 hg).1
  refine (add_ok (Tg := Tg) firstW _ (.slice none 0 0) [] 0 (.slice (some ⟨b, 0, none⟩) 65 65) (zerosB 65) wz firstW_ok (.inl ⟨none, 0, rfl, fun _ => rfl, rfl⟩) (rd_rowM hrow 65 65 (by simp [zerosB]) (Nat.le_refl _) (by decide)) bytes_nil (bytes_replicate 65) rfl (by simp [zerosB]) rfl ((hB.block _ hlt).trans hg)).mono ?_
  rintro e w' ⟨r', rfl, ho, hb⟩
  obtain ⟨a, c, rfl⟩ := ho.rd.slice
  exact ⟨_, a, c, rfl, hb⟩
set_option maxRecDepth 100000 in
set_option maxHeartbeats 20000000 in
theorem alive_any (w : World) (A : List Int) (hA : shaF [97, 98, 99] = A)
   (hg : w.heap[1]? = some (.cells (u32s constW) Tg (0, 0))) (hgf : w.heap[0]? = some (.cells firstW.cells Tf (0, 0))) : 
    Calls Tryd.prog 17 #[] w fun e w' => e = .returned (.bool true) ∧ Below w.heap.size w w' := by
  have hlt : 1 < w.heap.size := (Array.getElem?_eq_some_iff.1 hg).1
  have hltf : 0 < w.heap.size := (Array.getElem?_eq_some_iff.1 hgf).1
  have kc := fun (w : World) (C : Array Value) (n c : Nat) => Lib.run_convert_bytes_const (P := Tryd.prog) w 40 5 C n c Tryd.underlying40 Tryd.underlying5
  have kc2 : ∀ (w : World) (o : Obj) (C : Array Value) (n c : Nat), (convert 40 40 (.slice (some ⟨w.heap.size + 1, 0, none⟩) n c)).run Tryd.prog ((w.alloc o).alloc (.cells C 5)) = .ok (.slice (some ⟨w.heap.size + 1, 0, none⟩) n c) ((w.alloc o).alloc (.cells C 5 (C.size, C.size + 1))) := fun w o C n c => by
    have h := kc (w.alloc o) C n c
    rw [World.size_alloc] at h
    exact h
  have hDl : A.length = 32 := by rw [← hA]; exact shaF_length _
  have hi : (Tryd.prog.info? 55).map (·.size) = some (u8s A).size := by rw [u8s_size, hDl]; kernel_rfl
  have hs2 : 32 = (u8s A).size := by rw [u8s_size, hDl]
  have hi' := Lib.hid hi; have hs2' := Lib.hid hs2; have hA' := Lib.hid hA; have hg' := Lib.hid hg; have hgf' := Lib.hid hgf
  clear hi hs2 hDl hA hg hgf
  go_enter Tryd.func17, Tryd.ntmps17
  go_wp2_with (first | (go_at_call 34; refine (sum_abc (Tg := Tg) (Tf := Tf) A hA'.out w _ hg'.out hgf'.out).mono ?_; rintro e w1 ⟨rfl, hb1⟩; have hb1' := Lib.hid hb1; have hz1 := hb1.size; clear hb1) | (refine storeNew w1 rfl 55 _ _ rfl (u8s A) 55 rfl rfl hi'.out (Eq.trans (by kernel_rfl) hs2'.out) (u8s_one _) ?_; intro wx hr hb2; have hz2 : w1.heap.size < wx.heap.size := (Array.getElem?_eq_some_iff.1 hr).1; have hq1 := Lib.hid hr; have hB2 := Lib.hid (hb1'.out.trans (hb2.mono hz1)); have hz2w : w.heap.size ≤ w1.heap.size := hz1; clear hb2 hr hb1' hz1; (refine Stop.go' _ ?_)))
  generalize w1.heap.size = g1 at *
  clear w1
  refine Stop.go ?_
  have hgx := (hB2.out.block _ hlt).trans hg'.out
  have hgfx := (hB2.out.block _ hltf).trans hgf'.out
  have hgx' := Lib.hid hgx; have hgfx' := Lib.hid hgfx
  clear hgx hgfx
  go_wp2_with (first | (go_at_call 35; refine (pieces_abc (Tg := Tg) (Tf := Tf) A hA'.out wx _ _ hgx'.out hgfx'.out).mono ?_; rintro e w1 ⟨rfl, hb1⟩; have hb1' := Lib.hid hb1; have hz1 := hb1.size; clear hb1) | (refine storeNew w1 rfl 55 _ _ rfl (u8s A) 55 rfl rfl hi'.out (Eq.trans (by kernel_rfl) hs2'.out) (u8s_one _) ?_; intro wy hr hb2; have hz3 : w1.heap.size < wy.heap.size := (Array.getElem?_eq_some_iff.1 hr).1; have hq2 := Lib.hid hr; have hb3 := Lib.hid (hb1'.out.trans (hb2.mono hz1)); have hz3w : wx.heap.size ≤ w1.heap.size := hz1; clear hb2 hr hb1' hz1; (refine Stop.go' _ ?_)))
  generalize w1.heap.size = g2 at *
  clear w1 hgx' hgfx'
  have hq1y := Lib.hid ((hb3.out.block _ hz2).trans hq1.out)
  have hzx := hB2.out.size
  have hB3 := Lib.hid (hB2.out.trans (hb3.out.mono hzx))
  have hne : g1 < g2 := by omega
  have hz4 : g1 < wy.heap.size := by omega
  have hz5 : w.heap.size ≤ wy.heap.size := by omega
  clear hb3 hq1 hB2 hz2 hz3w hzx
  refine Stop.go ?_
  go_upto_region 3 with fail
  go_cut [5, 6] (fun s5 s6 wz => ∃ (g5 : Nat) (G : V8) (a : Option Addr) (c : Nat), s5 = .pointer (some ⟨g5, 0, none⟩) ∧ s6 = .int .i64 0 ∧ wy.heap.size ≤ g5 ∧ wz.heap[g5]? = some (.cells #[.int .u32 G.a, .int .u32 G.b, .int .u32 G.c, .int .u32 G.d, .int .u32 G.e, .int .u32 G.f, .int .u32 G.g, .int .u32 G.h, .slice a 1 c, .int .i64 65] 51 (0, 0)) ∧ Below wy.heap.size wy wz)
  case first =>
    have hgy := (hB3.out.block _ hlt).trans hg'.out
    have hlty : 1 < wy.heap.size := by omega
    have hltfy : 0 < wy.heap.size := by omega
    have hst : ∀ wz, Below wy.heap.size wy wz → _ := fun wz hb => start_any (Tf := Tf) wz ((hb.block _ hltfy).trans ((hB3.out.block _ hltf).trans hgf'.out))
    have had : ∀ wz b, Below wy.heap.size wy wz → wz.heap[b]? = some (Obj.cells (u8s (zerosB 65)) 5 (0, 0)) → _ := fun wz b hb hr => add_65 (Tg := Tg) wy wz b hb hr hgy
    simp only [firstW] at hst had
    have hst' := Lib.hid hst; have had' := Lib.hid had
    have hmk := fun wz => run_makeB (P := Tryd.prog) wz 40 5 Tryd.underlying40 (by kernel_rfl) 65 65 (Nat.le_refl _) (by decide)
    rw [show (((65 : Nat) : Int)) = 65 from rfl] at hmk
    clear hst had hgy hi' hs2' hA' kc kc2 hq2 hq1y
    go_region_with (first | (go_at_call 36; refine (hst'.out _ ?_).mono ?_; (first | exact (Below.refl _ _).drew | exact ((Below.refl _ _).alloc (Nat.le_refl _) _).drew | exact (((Below.refl _ _).alloc (Nat.le_refl _) _).alloc (by rw [World.size_alloc]; exact Nat.le_succ _) _).drew); rintro e w1 ⟨rfl, hb1⟩; obtain ⟨hc1, hf1⟩ := bcell hb1; have hz1 := hb1.size; have hb1' := Lib.hid hb1; have hz1w : wy.heap.size ≤ w1.heap.size := (by (try simp only [World.size_drew, World.size_alloc] at hz1); omega); have hS1 := Lib.hid (show Below wy.heap.size wy w1 from (by first | exact (Below.refl _ wy).drew.trans hb1 | exact ((Below.refl _ wy).alloc (Nat.le_refl _) _).drew.trans (hb1.mono (by rw [World.size_drew, World.size_alloc]; omega)) | exact (((Below.refl _ wy).alloc (Nat.le_refl _) _).alloc (by rw [World.size_alloc]; exact Nat.le_succ _) _).drew.trans (hb1.mono (by rw [World.size_drew, World.size_alloc, World.size_alloc]; omega)))); (try simp only [World.size_drew, World.size_alloc] at hz1); have q1 : w1.heap.size < w1.heap.size + 1 + 1 := Nat.lt_succ_of_lt (Nat.lt_succ_self _); have q2 : wy.heap.size < wy.heap.size + 1 + 1 := Nat.lt_succ_of_lt (Nat.lt_succ_self _); (first | have q3 := Nat.lt_of_succ_le hz1 | skip); (first | have q4 := Nat.lt_of_succ_lt q3 | skip); (first | have q5 := Nat.lt_succ_of_lt q3 | skip); (first | have q6 := Nat.lt_succ_of_lt q4 | skip); have hs1 := fun b (h : b < _) => Nat.lt_of_lt_of_le h hb1'.out.size; have hs1' := fun b (h : b < _) => Nat.lt_succ_of_lt (Nat.lt_of_lt_of_le h hb1'.out.size); (try simp only [World.size_drew, World.cell?_drew, World.frozen?_drew] at hc1 hf1 hs1 hs1'); clear hb1) | (go_at_call 18; refine (had'.out _ _ ?_ ?_).mono ?_; (first | exact hS1.out | exact hS1.out.drew | exact (hS1.out.alloc hz1w _) | exact (hS1.out.alloc hz1w _).drew | exact ((hS1.out.alloc hz1w _).alloc (by rw [World.size_alloc]; omega) _) | exact ((hS1.out.alloc hz1w _).alloc (by rw [World.size_alloc]; omega) _).drew); (first | exact heap_alloc_new w1 _ | exact (hp1 (w1.alloc _) _ w1.heap.size (by rw [World.size_alloc]; omega)).trans (heap_alloc_new w1 _) | exact hn2 w1 _ _ | exact (hb1'.out.block wy.heap.size (by (try rw [World.size_drew]); (try rw [World.size_alloc]); (try rw [World.size_alloc]); omega)).trans (heap_alloc_new wy _) | exact (hb1'.out.block (wy.heap.size + 1) (by (try rw [World.size_drew]); (try rw [World.size_alloc]); (try rw [World.size_alloc]); omega)).trans (hn2 wy _ _) | exact (hb1'.out.block wy.heap.size (by (try rw [World.size_drew]); (try rw [World.size_alloc]); (try rw [World.size_alloc]); omega)).trans ((hp1 (wy.alloc _) _ wy.heap.size (by rw [World.size_alloc]; omega)).trans (heap_alloc_new wy _)) | exact (hp1 w1 _ wy.heap.size (by omega)).trans ((hb1'.out.block wy.heap.size (by (try rw [World.size_drew]); (try rw [World.size_alloc]); (try rw [World.size_alloc]); omega)).trans (heap_alloc_new wy _))); rintro e w2 ⟨G, ra, rc, rfl, hb2⟩; obtain ⟨hc2, hf2⟩ := bcell hb2; have hb2' := Lib.hid hb2; have hs2 := fun b (h : b < _) => Nat.lt_of_lt_of_le h hb2'.out.size; have hs2' := fun b (h : b < _) => Nat.lt_succ_of_lt (Nat.lt_of_lt_of_le h hb2'.out.size); (try simp only [World.size_drew, World.cell?_drew, World.frozen?_drew] at hc2 hf2 hs2 hs2'); clear hb2))
    all_goals go_wp2_with fail
    all_goals go_meet
    · have hB2 := (hS1.out.alloc hz1w _).trans (hb2'.out.mono (by first | omega | (rw [World.size_alloc]; omega) | (rw [World.size_alloc, World.size_alloc]; omega) | (rw [World.size_drew, World.size_alloc]; omega) | (rw [World.size_drew, World.size_alloc, World.size_alloc]; omega)))
      exact ⟨w2.heap.size, G, ra, rc, rfl, rfl, hB2.size, heap_alloc_new w2 _, hB2.alloc hB2.size _⟩
    · have hf := fun x0 x1 x2 x3 x4 x5 x6 x7 x8 x9 => fin10' (x0 := x0) (x1 := x1) (x2 := x2) (x3 := x3) (x4 := x4) (x5 := x5) (x6 := x6) (x7 := x7) (x8 := x8) (x9 := x9) (g := w1.heap.size + 1) hb2'.out (hn2 w1 _ _) ((hS1.out.alloc hz1w _).alloc (by first | omega | (rw [World.size_alloc]; omega) | (rw [World.size_alloc, World.size_alloc]; omega) | (rw [World.size_drew, World.size_alloc]; omega) | (rw [World.size_drew, World.size_alloc, World.size_alloc]; omega)) _) (by first | omega | (rw [World.size_alloc]; omega) | (rw [World.size_alloc, World.size_alloc]; omega) | (rw [World.size_drew, World.size_alloc]; omega) | (rw [World.size_drew, World.size_alloc, World.size_alloc]; omega)) (by omega)
      exact ⟨w1.heap.size + 1, G, ra, rc, rfl, rfl, by omega, (hf _ _ _ _ _ _ _ _ _ _).1, (hf _ _ _ _ _ _ _ _ _ _).2⟩
    · have hf := fun x0 x1 x2 x3 x4 x5 x6 x7 x8 x9 => fin10' (x0 := x0) (x1 := x1) (x2 := x2) (x3 := x3) (x4 := x4) (x5 := x5) (x6 := x6) (x7 := x7) (x8 := x8) (x9 := x9) (g := w1.heap.size) hb2'.out ((hp1 (w1.alloc _) _ w1.heap.size (by first | omega | (rw [World.size_alloc]; omega) | (rw [World.size_alloc, World.size_alloc]; omega) | (rw [World.size_drew, World.size_alloc]; omega) | (rw [World.size_drew, World.size_alloc, World.size_alloc]; omega))).trans (heap_alloc_new w1 _)) ((hS1.out.alloc hz1w _).alloc (by first | omega | (rw [World.size_alloc]; omega) | (rw [World.size_alloc, World.size_alloc]; omega) | (rw [World.size_drew, World.size_alloc]; omega) | (rw [World.size_drew, World.size_alloc, World.size_alloc]; omega)) _) (by first | omega | (rw [World.size_alloc]; omega) | (rw [World.size_alloc, World.size_alloc]; omega) | (rw [World.size_drew, World.size_alloc]; omega) | (rw [World.size_drew, World.size_alloc, World.size_alloc]; omega)) (by omega)
      exact ⟨w1.heap.size, G, ra, rc, rfl, rfl, by omega, (hf _ _ _ _ _ _ _ _ _ _).1, (hf _ _ _ _ _ _ _ _ _ _).2⟩
    · have hB2 := hS1.out.trans (hb2'.out.mono hz1w)
      exact ⟨w2.heap.size, G, ra, rc, rfl, rfl, hB2.size, heap_alloc_new w2 _, hB2.alloc hB2.size _⟩
    · have hf := fun x0 x1 x2 x3 x4 x5 x6 x7 x8 x9 => fin10' (x0 := x0) (x1 := x1) (x2 := x2) (x3 := x3) (x4 := x4) (x5 := x5) (x6 := x6) (x7 := x7) (x8 := x8) (x9 := x9) (g := w1.heap.size) hb2'.out (heap_alloc_new w1 _) (hS1.out.alloc hz1w _) (by first | omega | (rw [World.size_alloc]; omega) | (rw [World.size_alloc, World.size_alloc]; omega) | (rw [World.size_drew, World.size_alloc]; omega) | (rw [World.size_drew, World.size_alloc, World.size_alloc]; omega)) (by omega)
      exact ⟨w1.heap.size, G, ra, rc, rfl, rfl, by omega, (hf _ _ _ _ _ _ _ _ _ _).1, (hf _ _ _ _ _ _ _ _ _ _).2⟩
    · have hf := fun x0 x1 x2 x3 x4 x5 x6 x7 x8 x9 => fin10' (x0 := x0) (x1 := x1) (x2 := x2) (x3 := x3) (x4 := x4) (x5 := x5) (x6 := x6) (x7 := x7) (x8 := x8) (x9 := x9) (g := wy.heap.size + 1) hb2'.out ((hb1'.out.block (wy.heap.size + 1) (by first | omega | (rw [World.size_alloc]; omega) | (rw [World.size_alloc, World.size_alloc]; omega) | (rw [World.size_drew, World.size_alloc]; omega) | (rw [World.size_drew, World.size_alloc, World.size_alloc]; omega))).trans (hn2 wy _ _)) (hS1.out) (by first | omega | (rw [World.size_alloc]; omega) | (rw [World.size_alloc, World.size_alloc]; omega) | (rw [World.size_drew, World.size_alloc]; omega) | (rw [World.size_drew, World.size_alloc, World.size_alloc]; omega)) (by omega)
      exact ⟨wy.heap.size + 1, G, ra, rc, rfl, rfl, by omega, (hf _ _ _ _ _ _ _ _ _ _).1, (hf _ _ _ _ _ _ _ _ _ _).2⟩
    · have hf := fun x0 x1 x2 x3 x4 x5 x6 x7 x8 x9 => fin10' (x0 := x0) (x1 := x1) (x2 := x2) (x3 := x3) (x4 := x4) (x5 := x5) (x6 := x6) (x7 := x7) (x8 := x8) (x9 := x9) (g := wy.heap.size) hb2'.out ((hp1 w1 _ wy.heap.size (by omega)).trans ((hb1'.out.block wy.heap.size (by first | omega | (rw [World.size_alloc]; omega) | (rw [World.size_alloc, World.size_alloc]; omega) | (rw [World.size_drew, World.size_alloc]; omega) | (rw [World.size_drew, World.size_alloc, World.size_alloc]; omega))).trans (heap_alloc_new wy _))) (hS1.out.alloc hz1w _) (by first | omega | (rw [World.size_alloc]; omega) | (rw [World.size_alloc, World.size_alloc]; omega) | (rw [World.size_drew, World.size_alloc]; omega) | (rw [World.size_drew, World.size_alloc, World.size_alloc]; omega)) (by omega)
      exact ⟨wy.heap.size, G, ra, rc, rfl, rfl, by omega, (hf _ _ _ _ _ _ _ _ _ _).1, (hf _ _ _ _ _ _ _ _ _ _).2⟩
    · have hf := fun x0 x1 x2 x3 x4 x5 x6 x7 x8 x9 => fin10' (x0 := x0) (x1 := x1) (x2 := x2) (x3 := x3) (x4 := x4) (x5 := x5) (x6 := x6) (x7 := x7) (x8 := x8) (x9 := x9) (g := wy.heap.size) hb2'.out ((hb1'.out.block wy.heap.size (by first | omega | (rw [World.size_alloc]; omega) | (rw [World.size_alloc, World.size_alloc]; omega) | (rw [World.size_drew, World.size_alloc]; omega) | (rw [World.size_drew, World.size_alloc, World.size_alloc]; omega))).trans ((hp1 (wy.alloc _) _ wy.heap.size (by first | omega | (rw [World.size_alloc]; omega) | (rw [World.size_alloc, World.size_alloc]; omega) | (rw [World.size_drew, World.size_alloc]; omega) | (rw [World.size_drew, World.size_alloc, World.size_alloc]; omega))).trans (heap_alloc_new wy _))) (hS1.out) (by first | omega | (rw [World.size_alloc]; omega) | (rw [World.size_alloc, World.size_alloc]; omega) | (rw [World.size_drew, World.size_alloc]; omega) | (rw [World.size_drew, World.size_alloc, World.size_alloc]; omega)) (by omega)
      exact ⟨wy.heap.size, G, ra, rc, rfl, rfl, by omega, (hf _ _ _ _ _ _ _ _ _ _).1, (hf _ _ _ _ _ _ _ _ _ _).2⟩
  case rest =>
    obtain ⟨g5, G, ra, rc, rfl, rfl, hg5, hq5, hb5⟩ := hcut
    have hAl : A.length = 32 := by rw [← hA'.out]; exact shaF_length _
    have hgc := (hb5.block _ (by omega)).trans ((hB3.out.block _ hlt).trans hg'.out)
    have hgfc := (hb5.block _ (by omega)).trans ((hB3.out.block _ hltf).trans hgf'.out)
    have hBc := hB3.out.trans (hb5.mono hz5)
    have hr1c := (hb5.block _ hz4).trans hq1y.out
    have hr2c := (hb5.block _ hz3).trans hq2.out
    have hgs : g5 < wc.heap.size := (Array.getElem?_eq_some_iff.1 hq5).1
    have hzc : w.heap.size ≤ wc.heap.size := by omega
    have hltc : 1 < wc.heap.size := by omega
    have hltfc : 0 < wc.heap.size := by omega
    have hs1c : g1 < wc.heap.size := by omega
    have hs2c : g2 < wc.heap.size := by omega
    have heq := fun (wz : World) => run_eqArr (P := Tryd.prog) wz 55 5 32 Tryd.underlying55 Tryd.underlying5 (by kernel_rfl) A A hAl hAl
    simp only [decide_true] at heq
    have hAl' := Lib.hid hAl; have hgc' := Lib.hid hgc; have hgfc' := Lib.hid hgfc; have hBc' := Lib.hid hBc; have hr1' := Lib.hid hr1c; have hr2' := Lib.hid hr2c; have hq5' := Lib.hid hq5
    clear hb5 hAl hgc hgfc hBc hr1c hr2c hq5 hq1y hq2 hB3 hz3 hz4 hne hg5 hlt hltf hg' hgf' hi' hs2' hz5 hz2w kc kc2
    go_wp2_with (go_at_call 37; refine (is_empty (Tg := Tg) (Tf := Tf) wc hgc'.out hgfc'.out).mono ?_; rintro e w3 ⟨rfl, hb3⟩; have hb3' := Lib.hid hb3; have hz3 := hb3.size; clear hb3; refine Stop.go'' _ ?_)
    refine StopP.go ?_
    clear heq
    go_wp2_with (go_at_call 37; refine (is_abc (Tg := Tg) (Tf := Tf) w3 ((hb3'.out.block _ hltc).trans hgc'.out) ((hb3'.out.block _ hltfc).trans hgfc'.out)).mono ?_; rintro e w4 ⟨rfl, hb4⟩; refine Stop.go'' _ ?_)
    have hb5 := hb3'.out.trans (hb4.mono hz3)
    have l1 := Lib.hid ((hb5.block _ hs1c).trans hr1'.out)
    have l2 := Lib.hid ((hb5.block _ hs2c).trans hr2'.out)
    have hi2 := Lib.hid (show (Tryd.prog.info? 55).map (·.size) = some (u8s A).size from (by rw [u8s_size, hAl'.out]; kernel_rfl))
    have hr5 := (hb5.block _ hgs).trans hq5'.out
    have c8 : w4.cell? ⟨g5, 8, none⟩ = some (.slice ra 1 rc) := cell_of_row _ _ _ _ _ _ hr5
    have c9 : w4.cell? ⟨g5, 9, none⟩ = some (.int .i64 65) := cell_of_row _ _ _ _ _ _ hr5
    have hB5 := Lib.hid (hBc'.out.trans (hb5.mono hzc))
    have heq := run_equalArr (P := Tryd.prog) w4 9998 55 5 32 Tryd.underlying55 Tryd.underlying5 (by kernel_rfl) A A hAl'.out hAl'.out
    rw [decide_eq_true rfl] at heq
    have heq := heq_ten A w4 heq
    clear hb3' hb4 hb5 hr5 hBc' hr1' hr2' hq5' hgc' hgfc'
    refine StopP.go ?_
    go_wp2_with (first | (refine wpList_load_row_g rfl 55 _ rfl g1 rfl 55 (u8s A) (0, 0) _ l1.out Tryd.underlying55 rfl hi2.out ?_) | (refine wpList_load_row_g rfl 55 _ rfl g2 rfl 55 (u8s A) (0, 0) _ l2.out Tryd.underlying55 rfl hi2.out ?_))
    go_ret
    exact ⟨rfl, hB5.out⟩
end Go.Proofs.YtegffpjhdodldaaDoor

/- DigestNames: the walk. -/
import Derived.Test.YtbnoomogdbnheaaDoorD03b
namespace Go.Proofs.YtbnoomogdbnheaaDoor
open Go.RowKit Go.YtbnoomogdbnheaaDoor
set_option linter.unusedVariables false
variable {Tg Tf : TypeId}
theorem info_of {A : List Int} (h : A.length = 32) : (Tryd.prog.info? 25).map (·.size) = some (u8s A).size := by rw [u8s_size, h]; kernel_rfl
theorem size_of {A : List Int} (h : A.length = 32) : 32 = (u8s A).size := by rw [u8s_size, h]
theorem nd_s2z {w : World} (h : GlD Tg Tf w) (D : List Int) (hD : shaF (zerosB 10000) = D) : IDs Tryd.prog 9 #[.slice (some ⟨w.heap.size, 0, none⟩) 10000 10000] w (w.alloc (.cells (u8s (zerosB 10000)) 5)) D 0 := nd_s2 h (zerosB 10000) D (zerosB_length _) (bytes_replicate _) hD
theorem rowk {w w' : World} {g : Nat} {b : Obj} (h : w.heap[g]? = some b) (hb : Below w.heap.size w w') : w'.heap[g]? = some b := by
  rw [hb.block g (Array.getElem?_eq_some_iff.1 h).1]; exact h
set_option maxRecDepth 100000 in
set_option maxHeartbeats 4000000 in
theorem dnames_law (w : World) (hg : w.heap[2]? = some (.cells (u32s constW) Tg (0, 0))) (hgf : w.heap[0]? = some (.cells firstW.cells Tf (0, 0))) :
    Calls Tryd.prog 3 #[] w fun e w' => e = .returned (.bool true) ∧ Below w.heap.size w w' := by
  obtain ⟨DT, hDT⟩ : ∃ D, shaF (zerosB 10000) = D := ⟨_, rfl⟩
  obtain ⟨DE, hDE⟩ : ∃ D, shaF [] = D := ⟨_, rfl⟩
  have lE : DE.length = 32 := hDE ▸ shaF_length _
  have lT : DT.length = 32 := hDT ▸ shaF_length _
  have iz := Lib.hid (info_of (zerosB_length 32)); have izs := Lib.hid (size_of (zerosB_length 32))
  have ie := Lib.hid (info_of lE); have ies := Lib.hid (size_of lE)
  have it := Lib.hid (info_of lT); have its := Lib.hid (size_of lT)
  have hDE := Lib.hid hDE; have hDT := Lib.hid hDT
  have lE := Lib.hid lE
  clear lT
  have kb1 := fun (wz : World) => run_makeB (P := Tryd.prog) wz 29 5 Tryd.underlying29 (by kernel_rfl) 10001 10001 (Nat.le_refl _) (by decide)
  have kb2 := fun (wz : World) => run_makeB (P := Tryd.prog) wz 29 5 Tryd.underlying29 (by kernel_rfl) 10000 10000 (Nat.le_refl _) (by decide)
  have kb3 := fun (wz : World) => run_makeB (P := Tryd.prog) wz 29 5 Tryd.underlying29 (by kernel_rfl) 64 64 (Nat.le_refl _) (by decide)
  have kb4 := fun (wz : World) => run_makeB (P := Tryd.prog) wz 29 5 Tryd.underlying29 (by kernel_rfl) 65 65 (Nat.le_refl _) (by decide)
  have kb5 := fun (wz : World) => run_makeLs wz 21 (by decide)
  have kb6 := fun (wz : World) => run_makeLs wz 20 (by decide)
  rw [show (((10001 : Nat) : Int)) = 10001 from rfl] at kb1
  rw [show (((10000 : Nat) : Int)) = 10000 from rfl] at kb2
  rw [show (((64 : Nat) : Int)) = 64 from rfl] at kb3
  rw [show (((65 : Nat) : Int)) = 65 from rfl] at kb4
  rw [show (((21 : Nat) : Int)) = 21 from rfl] at kb5
  rw [show (((20 : Nat) : Int)) = 20 from rfl] at kb6
  have hS := Lib.hid (Below.refl w.heap.size w)
  have hG := Lib.hid (show GlD Tg Tf w from ⟨hg, hgf⟩)
  clear hg hgf
  go_enter Tryd.func3, Tryd.ntmps3
  go_wp2_with (first
    | (go_at_call 8; (with_reducible refine (is_56 hG.out).mono ?_); rintro e wx ⟨rfl, hb⟩; have hS := Lib.hid (hS.out.trans (hb.mono hS.out.size)); have hG := Lib.hid (hG.out.mono hb); clear hb)
    | (go_at_call 9; (first | (with_reducible refine (nd_s1 _ _).mono ?_)); rintro e w1 ⟨rfl, hb⟩; have hS1 := Lib.hid (hS.out.trans (hb.mono hS.out.size)); have hG1 := Lib.hid (hG.out.mono hb); clear hb)
    | (go_at_call 9; (first | (with_reducible refine (nd_s2z hG.out DT hDT.out).mono ?_)); rintro e wt ⟨rfl, hb⟩; have hS1 := Lib.hid (hS.out.trans (hb.mono hS.out.size)); have hG1 := Lib.hid (hG.out.mono hb); clear hb)
    | (go_at_call 10; (first | (with_reducible refine (nd_p1 _ _).mono ?_)); rintro e w1 ⟨rfl, hb⟩; have hS1 := Lib.hid (hS.out.trans (hb.mono hS.out.size)); have hG1 := Lib.hid (hG.out.mono hb); clear hb)
    | (go_at_call 10; (first | (with_reducible refine (nd_p2 hG.out DE hDE.out).mono ?_)); rintro e wn ⟨rfl, hb⟩; have hS1 := Lib.hid (hS.out.trans (hb.mono hS.out.size)); have hG1 := Lib.hid (hG.out.mono hb); clear hb)
    | (refine storeNew w1 rfl 25 _ _ rfl (u8s (zerosB 32)) 25 rfl rfl iz.out (Eq.trans (by kernel_rfl) izs.out) (u8s_one _) ?_; intro wx hr hb; have hS := Lib.hid (hS1.out.trans (hb.mono hS1.out.size)); have hG := Lib.hid (hG1.out.mono hb); clear hb hr)
    | (refine storeNew wt rfl 25 _ _ rfl (u8s DT) 25 rfl rfl it.out (Eq.trans (by kernel_rfl) its.out) (u8s_one _) ?_; intro wx hr hb; have hS := Lib.hid (hS1.out.trans (hb.mono hS1.out.size)); have hG := Lib.hid (hG1.out.mono hb); clear hb hr)
    | (refine storeNew wn rfl 25 _ _ rfl (u8s DE) 25 rfl rfl ie.out (Eq.trans (by kernel_rfl) ies.out) (u8s_one _) ?_; intro wa hr hb; have q8 := Lib.hid hr; have hSwa := Lib.hid (hS1.out.trans (hb.mono hS1.out.size)); have hS := Lib.hid (Below.refl wa.heap.size wa); have hG := Lib.hid (hG1.out.mono hb); clear hb hr; refine Stop.go'' _ ?_))
  refine StopP.go ?_
  generalize wn.heap.size = g8 at *
  clear wn hS1 hG1 kb2 kb5 kb6 hDT
  go_wp2_with (first
    | (go_at_call 10; (first | (with_reducible refine (nd_p3 _ _).mono ?_)); rintro e w1 ⟨rfl, hb⟩; have hS1 := Lib.hid (hS.out.trans (hb.mono hS.out.size)); have hG1 := Lib.hid (hG.out.mono hb); clear hb)
    | (go_at_call 10; (first | (with_reducible refine (nd_p4 hG.out DE hDE.out).mono ?_)); rintro e wn ⟨rfl, hb⟩; have hS1 := Lib.hid (hS.out.trans (hb.mono hS.out.size)); have hG1 := Lib.hid (hG.out.mono hb); clear hb)
    | (refine storeNew w1 rfl 25 _ _ rfl (u8s (zerosB 32)) 25 rfl rfl iz.out (Eq.trans (by kernel_rfl) izs.out) (u8s_one _) ?_; intro wx hr hb; have hS := Lib.hid (hS1.out.trans (hb.mono hS1.out.size)); have hG := Lib.hid (hG1.out.mono hb); clear hb hr)
    | (refine storeNew wn rfl 25 _ _ rfl (u8s DE) 25 rfl rfl ie.out (Eq.trans (by kernel_rfl) ies.out) (u8s_one _) ?_; intro wb hr hb; have q12 := Lib.hid hr; have hSwb := Lib.hid (hS1.out.trans (hb.mono hS1.out.size)); have hS := Lib.hid (Below.refl wb.heap.size wb); have hG := Lib.hid (hG1.out.mono hb); clear hb hr; refine Stop.go'' _ ?_))
  refine StopP.go ?_
  generalize wn.heap.size = g12 at *
  clear wn hS1 hG1 kb1
  go_wp2_with (first
    | (go_at_call 11; (first | (with_reducible refine (na_1 _).mono ?_) | (with_reducible refine (na_2 _).mono ?_) | (with_reducible refine (na_3 _ _).mono ?_) | (with_reducible refine (na_4 _).mono ?_)); rintro e w1 ⟨rfl, hb⟩; have hS1 := Lib.hid (hS.out.trans (hb.mono hS.out.size)); have hG1 := Lib.hid (hG.out.mono hb); clear hb)
    | (refine storeNew w1 rfl 35 _ _ rfl _ 35 rfl rfl (by kernel_rfl) rfl (by simp [Value.oneCell']) ?_; intro wx hr hb; have hS := Lib.hid (hS1.out.trans (hb.mono hS1.out.size)); have hG := Lib.hid (hG1.out.mono hb); clear hb hr)
    | (go_at_call 11; (with_reducible refine (na_5 hG.out).mono ?_); rintro e wn ⟨G, ga, gc, hGo, hGc, rfl, hb⟩; have hGo' := Lib.hid hGo; have hGc' := Lib.hid hGc; have hS1 := Lib.hid (hS.out.trans (hb.mono hS.out.size)); have hG1 := Lib.hid (hG.out.mono hb); clear hb hGo hGc)
    | (refine storeNew wn rfl 35 _ _ rfl (#[.int .u32 G.a, .int .u32 G.b, .int .u32 G.c, .int .u32 G.d, .int .u32 G.e, .int .u32 G.f, .int .u32 G.g, .int .u32 G.h, .slice ga 0 gc, .int .i64 200000]) 35 rfl rfl (by kernel_rfl) rfl (by simp [Value.oneCell']) ?_; intro wc hr hb; have q22 := Lib.hid hr; have hSwc := Lib.hid (hS1.out.trans (hb.mono hS1.out.size)); have hS := Lib.hid (Below.refl wc.heap.size wc); have hG := Lib.hid (hG1.out.mono hb); clear hb hr; refine Stop.go'' _ ?_))
  refine StopP.go ?_
  generalize wn.heap.size = g22 at *
  clear wn hS1 hG1 kb3
  go_wp2_with (first
    | (go_at_call 11; (first | (with_reducible refine (na_6 _ _).mono ?_)); rintro e w1 ⟨rfl, hb⟩; have hS1 := Lib.hid (hS.out.trans (hb.mono hS.out.size)); have hG1 := Lib.hid (hG.out.mono hb); clear hb)
    | (refine storeNew w1 rfl 35 _ _ rfl _ 35 rfl rfl (by kernel_rfl) rfl (by simp [Value.oneCell']) ?_; intro wx hr hb; have hS := Lib.hid (hS1.out.trans (hb.mono hS1.out.size)); have hG := Lib.hid (hG1.out.mono hb); clear hb hr)
    | (go_at_call 12; (first | (with_reducible refine (ne_1 _).mono ?_)); rintro e wu ⟨rfl, hb⟩; have hS1 := Lib.hid (hS.out.trans (hb.mono hS.out.size)); have hG1 := Lib.hid (hG.out.mono hb); clear hb)
    | (refine storeNew wu rfl 25 _ _ rfl (u8s (zerosB 32)) 25 rfl rfl iz.out (Eq.trans (by kernel_rfl) izs.out) (u8s_one _) ?_; intro wd hr hb; have hSwd := Lib.hid (hS1.out.trans (hb.mono hS1.out.size)); have hS := Lib.hid (Below.refl wd.heap.size wd); have hG := Lib.hid (hG1.out.mono hb); clear hb hr; refine Stop.go'' _ ?_))
  refine StopP.go ?_
  have q22x := Lib.hid (rowk q22.out hSwd.out)
  have lF := endF_length G [] 200000
  have iF := Lib.hid (info_of lF); have iFs := Lib.hid (size_of lF)
  clear lF hS1 hG1 kb4
  go_upto_region 17 with (first
    | (refine wpList_load_row rfl 35 _ rfl g22 rfl 35 _ _ _ q22x.out Tryd.underlying35 rfl (by kernel_rfl) ?_)
    | (go_at_call 12; (first | (with_reducible refine (ne_2 hG.out G ga gc hGo'.out hGc'.out).mono ?_)); rintro e wu ⟨rfl, hb⟩; have hS1 := Lib.hid (hS.out.trans (hb.mono hS.out.size)); have hG1 := Lib.hid (hG.out.mono hb); clear hb)
    | (refine storeNew wu rfl 25 _ _ rfl (u8s (endF G [] 200000)) 25 rfl rfl iF.out (Eq.trans (by kernel_rfl) iFs.out) (u8s_one _) ?_; intro wx hr hb; have hS := Lib.hid (hS1.out.trans (hb.mono hS1.out.size)); have hG := Lib.hid (hG1.out.mono hb); clear hb hr)
    | (go_at_call 13; (first | (with_reducible refine (nc_1 _).mono ?_) | (with_reducible refine (nc_2 _).mono ?_)); rintro e wx ⟨rfl, hb⟩; have hS := Lib.hid (hS.out.trans (hb.mono hS.out.size)); have hG := Lib.hid (hG.out.mono hb); clear hb)
    | (go_at_call 13; (first | (with_reducible refine (nc_3 _).mono ?_)); rintro e we ⟨rfl, hb⟩; have hSwe := Lib.hid (hS.out.trans (hb.mono hS.out.size)); have hG := Lib.hid (hG.out.mono hb); clear hb))
  have q22y := rowk q22x.out hSwe.out
  have l8 := Lib.hid (rowk (rowk (rowk (rowk q8.out hSwb.out) hSwc.out) hSwd.out) hSwe.out)
  have l12 := Lib.hid (rowk (rowk (rowk q12.out hSwc.out) hSwd.out) hSwe.out)
  have c8 : we.cell? ⟨g22, 8, none⟩ = some (.slice ga 0 gc) := cell_of_row _ _ _ _ _ _ q22y
  have c9 : we.cell? ⟨g22, 9, none⟩ = some (.int .i64 200000) := cell_of_row _ _ _ _ _ _ q22y
  have hal := Lib.hid (alive_any (Tg := Tg) (Tf := Tf) we _ rfl hG.out.1 hG.out.2)
  have hB1 := hSwa.out.trans (hSwb.out.mono hSwa.out.size)
  have hB2 := hB1.trans (hSwc.out.mono hB1.size)
  have hB3 := hB2.trans (hSwd.out.mono hB2.size)
  have hB4 := hB3.trans (hSwe.out.mono hB3.size)
  have hB := Lib.hid hB4
  have heq := run_equalArr (P := Tryd.prog) we 9998 25 5 32 Tryd.underlying25 Tryd.underlying5 (by kernel_rfl) DE DE lE.out lE.out
  rw [decide_eq_true rfl] at heq
  have heq := heq_ten DE we heq
  clear hB1 hB2 hB3 hB4 q22y hG hS
  go_step
  simp only [List.append]
  go_wp2_with (first
    | (refine wpList_load_row_g rfl 25 _ rfl g8 rfl 25 (u8s DE) (0, 0) _ l8.out Tryd.underlying25 rfl ie.out ?_)
    | (refine wpList_load_row_g rfl 25 _ rfl g12 rfl 25 (u8s DE) (0, 0) _ l12.out Tryd.underlying25 rfl ie.out ?_)
    | (go_at_call 14; (with_reducible refine (hal.out).mono ?_); rintro e w9 ⟨rfl, hb⟩; have hB := Lib.hid (hB.out.trans (hb.mono hB.out.size)); clear hb))
  go_ret
  exact ⟨rfl, hB.out⟩
end Go.Proofs.YtbnoomogdbnheaaDoor

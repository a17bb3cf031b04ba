/- DigestPieces, the walk. -/
import Derived.Test.YtibfbgcnnnmdgaaDoorD01n
import Derived.Test.YtibfbgcnnnmdgaaDoorD01r
import Derived.Deep.DeepCutAuto
namespace Go.Proofs.YtibfbgcnnnmdgaaDoor
open Go.RowKit Go.YtibfbgcnnnmdgaaDoor
set_option linter.unusedVariables false
variable {Tg Tf : TypeId}
def millA (V : V8) (r : Value) (N : Int) : Array Value := #[.int .u32 V.a, .int .u32 V.b, .int .u32 V.c, .int .u32 V.d, .int .u32 V.e, .int .u32 V.f, .int .u32 V.g, .int .u32 V.h, r, .int .i64 N]
theorem info_mill (V : V8) (r : Value) (N : Int) : (Tryd.prog.info? 35).map (·.size) = some (millA V r N).size := by
  show _ = some 10
  kernel_rfl
theorem mill_size (V V' : V8) (r r' : Value) (N N' : Int) : (millA V r N).size = (millA V' r' N').size := rfl
theorem mill_one (V : V8) (a : Option Addr) (n c : Nat) (N : Int) : (millA V (.slice a n c) N).all (·.oneCell') = true := by simp [millA, Value.oneCell']
theorem fin_mill {wr W w2 : World} {a0 a1 a2 a3 a4 a5 a6 a7 a8 a9 x0 x1 x2 x3 x4 x5 x6 x7 x8 x9 v : Value} {l : List Int} {T E : TypeId} (hb : Below W.heap.size W w2) (ho : OwnB W.heap.size E w2 v l) (hrow : W.heap[wr.heap.size]? = some (.cells #[a0, a1, a2, a3, a4, a5, a6, a7, a8, a9] T (0, 0))) (hBW : Below wr.heap.size wr W) :
    ((((((((((w2.setCell ⟨wr.heap.size, 0, none⟩ x0).setCell ⟨wr.heap.size, 1, none⟩ x1).setCell ⟨wr.heap.size, 2, none⟩ x2).setCell ⟨wr.heap.size, 3, none⟩ x3).setCell ⟨wr.heap.size, 4, none⟩ x4).setCell ⟨wr.heap.size, 5, none⟩ x5).setCell ⟨wr.heap.size, 6, none⟩ x6).setCell ⟨wr.heap.size, 7, none⟩ x7).setCell ⟨wr.heap.size, 8, none⟩ x8).setCell ⟨wr.heap.size, 9, none⟩ x9).heap[wr.heap.size]? = some (.cells #[x0, x1, x2, x3, x4, x5, x6, x7, x8, x9] T (0, 0)) ∧
    OwnB wr.heap.size E ((((((((((w2.setCell ⟨wr.heap.size, 0, none⟩ x0).setCell ⟨wr.heap.size, 1, none⟩ x1).setCell ⟨wr.heap.size, 2, none⟩ x2).setCell ⟨wr.heap.size, 3, none⟩ x3).setCell ⟨wr.heap.size, 4, none⟩ x4).setCell ⟨wr.heap.size, 5, none⟩ x5).setCell ⟨wr.heap.size, 6, none⟩ x6).setCell ⟨wr.heap.size, 7, none⟩ x7).setCell ⟨wr.heap.size, 8, none⟩ x8).setCell ⟨wr.heap.size, 9, none⟩ x9) v l ∧
    Below wr.heap.size wr ((((((((((w2.setCell ⟨wr.heap.size, 0, none⟩ x0).setCell ⟨wr.heap.size, 1, none⟩ x1).setCell ⟨wr.heap.size, 2, none⟩ x2).setCell ⟨wr.heap.size, 3, none⟩ x3).setCell ⟨wr.heap.size, 4, none⟩ x4).setCell ⟨wr.heap.size, 5, none⟩ x5).setCell ⟨wr.heap.size, 6, none⟩ x6).setCell ⟨wr.heap.size, 7, none⟩ x7).setCell ⟨wr.heap.size, 8, none⟩ x8).setCell ⟨wr.heap.size, 9, none⟩ x9) := by
  have hz : wr.heap.size < W.heap.size := (Array.getElem?_eq_some_iff.1 hrow).1
  have hrow2 := (hb.block _ hz).trans hrow
  rw [set10_world hrow2]
  exact ⟨setRow_heap _ _ _ _ _ _ hrow2, ownB_setRow ho (Nat.le_of_lt hz) hz _, below_setRow' (hBW.trans (hb.mono (Nat.le_of_lt hz))) (Nat.le_refl _) _⟩
theorem nth_le (L : List (List Int)) (i : Nat) : (nthL L i).length ≤ L.flatten.length := by
  by_cases h : i < L.length
  · have := flatN_le L (i + 1) h
    rw [flatN, List.length_append] at this; omega
  · simp [nthL, List.getElem?_eq_none (Nat.le_of_not_lt h)]
set_option maxRecDepth 100000 in
set_option maxHeartbeats 8000000 in
theorem pieces_law (A : Option Addr) (c : Nat) (L : List (List Int)) (w : World) (hn : L.length ≤ 1048576) (hLc : L.length ≤ c) (hcm : c ≤ maxLen) (ht : L.flatten.length ≤ 1048576) (hby : ∀ i, Bytes (nthL L i))
    (hcell : ∀ i, i < L.length → ∃ b o, A = some ⟨b, o, none⟩ ∧ b < w.heap.size ∧ ∃ s, w.cell? ⟨b, o + i, none⟩ = some s ∧ RdB w s (nthL L i))
    (hgl : w.heap[2]? = some (.cells (u32s constW) Tg (0, 0))) (hgf : w.heap[0]? = some (.cells firstW.cells Tf (0, 0)))
    (hal : ∀ wx : World, wx.heap[2]? = some (.cells (u32s constW) Tg (0, 0)) → wx.heap[0]? = some (.cells firstW.cells Tf (0, 0)) → Calls Tryd.prog 15 #[] wx fun e w' => e = .returned (.bool true) ∧ Below wx.heap.size wx w') :
    Calls Tryd.prog 6 #[.slice A L.length c] w fun e w' => e = .returned (.bool true) ∧ Below w.heap.size w w' := by
  have hlt : 2 < w.heap.size := (Array.getElem?_eq_some_iff.1 hgl).1
  have hltf : 0 < w.heap.size := (Array.getElem?_eq_some_iff.1 hgf).1
  have hlong := Lib.hid (long_any A L.length c w (by omega) (fun i hi => by
    obtain ⟨b, o, e1, _, s, e2, e3⟩ := hcell i hi
    obtain ⟨qa, qc, rfl⟩ := e3.slice
    exact ⟨b, o, e1, qa, _, qc, e2⟩))
  have hwhole := Lib.hid (whole_any A c L w (by omega) ht hcell)
  have hal0 := Lib.hid (hal w hgl hgf)
  have hal' := Lib.hid hal; have hgl' := Lib.hid hgl; have hgf' := Lib.hid hgf; have hby' := Lib.hid hby; have hcell' := Lib.hid hcell; have hcm' := Lib.hid hcm
  have hlen' := Lib.hid (nth_le L)
  have hDl : (shaF L.flatten).length = 32 := shaF_length _
  have hfa := Lib.hid (flatN_all L)
  clear hal hgl hgf hby hcell hcm
  generalize hm : L.length = n at *
  generalize hFl : L.flatten = F at *
  generalize hDD : shaF F = D at *
  have hm' := Lib.hid hm; have hFl' := Lib.hid hFl; have hDD' := Lib.hid hDD; clear hm hFl hDD
  have hiD := Lib.hid (show (Tryd.prog.info? 25).map (·.size) = some (u8s D).size from (by rw [u8s_size, hDl]; kernel_rfl))
  have hsD := Lib.hid (show 32 = (u8s D).size from (by rw [u8s_size, hDl]))
  have hDl' := Lib.hid hDl; clear hDl
  go_enter Tryd.func6, Tryd.ntmps6
  go_wp2_with (go_at_call 16; refine (hlong.out).mono ?_; rintro e w' ⟨⟨bb, rfl⟩, hw⟩; obtain rfl : w = w' := hw.symm; refine Stop.go'' _ ?_)
  refine StopP.go ?_
  cases bb
  case true =>
    go_wp2_with (go_at_call 15; refine (hal0.out).mono ?_; rintro e w2 ⟨rfl, hb2⟩; have hb2' := Lib.hid hb2; clear hb2)
    go_ret
    exact ⟨rfl, hb2'.out⟩
  by_cases hn20 : ¬ n ≤ 20
  · go_wp2_with (go_at_call 15; refine (hal0.out).mono ?_; rintro e w2 ⟨rfl, hb2⟩; have hb2' := Lib.hid hb2; clear hb2)
    go_ret
    exact ⟨rfl, hb2'.out⟩
  replace hn20 : n ≤ 20 := by omega
  go_wp2_with (go_at_call 17; refine (hwhole.out).mono ?_; rintro e w1 ⟨r1, rfl, ho1, hb1⟩; obtain ⟨ra, rc, rfl⟩ := ho1.rd.slice; have ho1' := Lib.hid ho1; have hb1' := Lib.hid hb1; clear ho1 hb1; refine Stop.go'' _ ?_)
  refine StopP.go ?_
  have hg1 := (hb1'.out.block _ hlt).trans hgl'.out
  have hf1 := (hb1'.out.block _ hltf).trans hgf'.out
  have hz1 := hb1'.out.size
  clear hlong hwhole hal0
  by_cases h15 : ¬ F.length ≤ 1500
  · have hal1 := Lib.hid (hal'.out w1 hg1 hf1)
    clear hg1 hf1 ht
    go_wp2_with (go_at_call 15; refine (hal1.out).mono ?_; rintro e w2 ⟨rfl, hb2⟩; have hb2' := Lib.hid (hb1'.out.trans (hb2.mono hz1)); clear hb2)
    go_ret
    exact ⟨rfl, hb2'.out⟩
  replace h15 : F.length ≤ 1500 := by omega
  have hpc0 := pieces_gen (Tg := Tg) (Tf := Tf) A c L w1 (by rw [hm'.out]; exact hLc) hcm'.out (fun i hi => by
    obtain ⟨b, o, e1, e2, s, e3, e4⟩ := hcell'.out i (by rw [← hm'.out]; exact hi)
    exact ⟨b, o, e1, Nat.lt_of_lt_of_le e2 hb1'.out.size, s, (hb1'.out.cell (p := (⟨b, o + i, none⟩ : Addr)) e2).trans e3, e4.mono hb1'.out⟩) (by rw [hm'.out]; exact hn20) (fun i => Nat.le_trans (hlen'.out i) (by omega)) hby'.out hg1 hf1
  rw [flatN_all, hFl'.out, show endF (blocksF firstW F) (restF F) F.length = D from hDD'.out, hm'.out] at hpc0
  have hpc := Lib.hid hpc0
  clear hpc0
  clear hg1 hf1 ht
  go_wp2_with (first | (go_at_call 11; refine (hpc.out).mono ?_; rintro e w2 ⟨rfl, hb2⟩; have hb2' := Lib.hid hb2; have hz2 := hb2.size; clear hb2) | (refine storeNew w2 rfl 25 _ _ rfl (u8s D) 25 rfl rfl hiD.out (Eq.trans (by kernel_rfl) hsD.out) (u8s_one _) ?_; intro wA hr hbA; have hkA := Lib.hid hr; have hzA : w2.heap.size < wA.heap.size := (Array.getElem?_eq_some_iff.1 hr).1; have hbA' := Lib.hid (hb2'.out.trans (hbA.mono hz2)); clear hr hbA; refine Stop.go'' _ ?_))
  refine StopP.go ?_
  generalize hgA : w2.heap.size = gA at *
  clear hgA hpc hb2'
  have hgA1 := Lib.hid ((hb1'.out.trans (hbA'.out.mono hz1)).block _ hlt |>.trans hgl'.out)
  have hgA0 := Lib.hid ((hb1'.out.trans (hbA'.out.mono hz1)).block _ hltf |>.trans hgf'.out)
  have hrA := Lib.hid (ho1'.out.kept hbA'.out).rd
  have hbyF := Lib.hid (show Bytes F from by rw [← hfa.out]; exact flatN_bytes L hby'.out _)
  have hsum := Lib.hid (sum_any (Tg := Tg) (Tf := Tf) D _ F wA hrA.out hbyF.out (by omega) hDD'.out hgA1.out hgA0.out)
  go_wp2_with (first | (go_at_call 10; refine (hsum.out).mono ?_; rintro e w3 ⟨rfl, hb3⟩; have hb3' := Lib.hid hb3; have hz3 := hb3.size; clear hb3) | (refine storeNew w3 rfl 25 _ _ rfl (u8s D) 25 rfl rfl hiD.out (Eq.trans (by kernel_rfl) hsD.out) (u8s_one _) ?_; intro wB hr hbB; have hkB := Lib.hid hr; have hzB : w3.heap.size < wB.heap.size := (Array.getElem?_eq_some_iff.1 hr).1; have hbB' := Lib.hid (hb3'.out.trans (hbB.mono hz3)); clear hr hbB; refine Stop.go'' _ ?_))
  refine StopP.go ?_
  generalize hgB : w3.heap.size = gB at *
  clear hgB hsum hb3'
  have hzAB := hbB'.out.size
  have hB1 := Lib.hid (hb1'.out.trans (hbA'.out.mono hz1))
  have hzwA : w.heap.size ≤ wA.heap.size := Nat.le_trans hz1 hbA'.out.size
  have hB2 := Lib.hid (hB1.out.trans (hbB'.out.mono hzwA))
  have hkA2 := Lib.hid ((hbB'.out.block gA hzA).trans hkA.out)
  have hrB := Lib.hid (hrA.out.mono hbB'.out)
  have hsta := Lib.hid (start_any (Tf := Tf) wB ((hB2.out.block _ hltf).trans hgf'.out))
  have hne : gA < gB := by omega
  clear hkA hrA hgA1 hgA0 hbA' hb1' ho1'
  go_wp2_with (first | (go_at_call 25; refine (hsta.out).mono ?_; rintro e w5 ⟨rfl, hb5⟩; have hb5' := Lib.hid hb5; have hz5 := hb5.size; clear hb5) | (refine storeNew w5 rfl 35 _ _ rfl (millA firstW (.slice none 0 0) 0) 35 rfl rfl (info_mill _ _ _) rfl (mill_one _ _ _ _ _) ?_; intro wM hr hbM; have hkM := Lib.hid hr; have hzM : w5.heap.size < wM.heap.size := (Array.getElem?_eq_some_iff.1 hr).1; have hbM' := Lib.hid hbM; clear hr hbM; refine Stop.go'' _ ?_))
  refine StopP.go ?_
  generalize hgM : w5.heap.size = g at *
  have hB5 := Lib.hid (hB2.out.trans (hb5'.out.mono (Nat.le_trans hzwA hzAB)))
  have hkA5 := Lib.hid ((hb5'.out.block gA (by omega)).trans hkA2.out)
  have hkB5 := Lib.hid ((hb5'.out.block gB hzB).trans hkB.out)
  have hr5 := Lib.hid (hrB.out.mono hb5'.out)
  have hw5 : w.heap.size ≤ g := by omega
  have hgA5 : gA < g := by omega
  have hgB5 : gB < g := by omega
  generalize hVV : (fun k => blocksF firstW (flatN L k)) = VV
  have hV0 : VV 0 = firstW := by subst hVV; exact blocksF_small _ _ (by simp [flatN])
  have hVs : ∀ k, blocksF (VV k) (restF (flatN L k) ++ nthL L k) = VV (k + 1) := by subst hVV; intro k; exact (blocksF_append _ _ _).symm
  have hVok : ∀ k, (VV k).ok := by subst hVV; exact fun k => blocksF_ok _ _ firstW_ok
  have hVn : VV n = blocksF firstW F := by subst hVV; show blocksF firstW (flatN L n) = _; rw [hfa.out]
  have hV0' := Lib.hid hV0; have hVs' := Lib.hid hVs; have hVok' := Lib.hid hVok; have hVn' := Lib.hid hVn
  clear hV0 hVs hVok hVn hVV hb5' hkA2 hkB hrB hB2 hB1 hsta hbB' hz1 hz2 hz3 hz5 hzA hzB hzAB hzwA hne
  go_wp2
  go_loopw [9] (fun i wr => ∃ k : Nat, k ≤ n ∧ i = .int .i64 k ∧ Below g w5 wr ∧ g < wr.heap.size ∧ ∃ qa qc, wr.heap[g]? = some (.cells (millA (VV k) (.slice qa (restF (flatN L k)).length qc) ((flatN L k).length : Nat)) 35 (0, 0)) ∧ RdB wr (.slice qa (restF (flatN L k)).length qc) (restF (flatN L k))) (fun i _ => match i with | .int _ m => n - m.toNat | _ => 0)
  case atStart =>
    have e0 : restF (flatN L 0) = [] := by simp [flatN, restF]
    refine ⟨0, Nat.zero_le _, rfl, hbM'.out, hzM, none, 0, ?_, ?_⟩
    · rw [hV0'.out, e0]; exact hkM.out
    · rw [e0]; exact .inl ⟨none, 0, rfl, fun _ => rfl, rfl⟩
  case round =>
    obtain ⟨k, hk, rfl, hbr, hzr, qa, qc, hrow, hrd⟩ := hrel
    clear hkM hbM' hzM
    by_cases hlt' : k < n
    · obtain ⟨b, o, rfl, hbw, s, hs, hrs⟩ := hcell'.out k hlt'
      obtain ⟨sa, sc, rfl⟩ := hrs.slice
      have hBr := hB5.out.trans (hbr.mono hw5)
      have hcs := (hBr.cell (p := (⟨b, o + k, none⟩ : Addr)) hbw).trans hs
      have hrsr := Lib.hid (hrs.mono hBr)
      have hbwr : b < wr.heap.size := by omega
      have hgr := (hBr.block _ hlt).trans hgl'.out
      have hlenk : (flatN L (k + 1)).length ≤ 1500 := Nat.le_trans (by rw [← hFl'.out]; exact flatN_le L (k + 1) (by rw [hm'.out]; exact hlt')) h15
      have hle2 : (flatN L k).length + (nthL L k).length = (flatN L (k + 1)).length := by rw [flatN, List.length_append]
      have hre : restF (restF (flatN L k) ++ nthL L k) = restF (flatN L (k + 1)) := (restF_append _ _).symm
      have c0 : wr.cell? ⟨g, 0, none⟩ = some (.int .u32 (VV k).a) := cell_of_row _ _ _ _ _ _ hrow
      have c1 : wr.cell? ⟨g, 1, none⟩ = some (.int .u32 (VV k).b) := cell_of_row _ _ _ _ _ _ hrow
      have c2 : wr.cell? ⟨g, 2, none⟩ = some (.int .u32 (VV k).c) := cell_of_row _ _ _ _ _ _ hrow
      have c3 : wr.cell? ⟨g, 3, none⟩ = some (.int .u32 (VV k).d) := cell_of_row _ _ _ _ _ _ hrow
      have c4 : wr.cell? ⟨g, 4, none⟩ = some (.int .u32 (VV k).e) := cell_of_row _ _ _ _ _ _ hrow
      have c5 : wr.cell? ⟨g, 5, none⟩ = some (.int .u32 (VV k).f) := cell_of_row _ _ _ _ _ _ hrow
      have c6 : wr.cell? ⟨g, 6, none⟩ = some (.int .u32 (VV k).g) := cell_of_row _ _ _ _ _ _ hrow
      have c7 : wr.cell? ⟨g, 7, none⟩ = some (.int .u32 (VV k).h) := cell_of_row _ _ _ _ _ _ hrow
      have c8 : wr.cell? ⟨g, 8, none⟩ = some (.slice qa (restF (flatN L k)).length qc) := cell_of_row _ _ _ _ _ _ hrow
      have c9 : wr.cell? ⟨g, 9, none⟩ = some (.int .i64 ((flatN L k).length : Nat)) := cell_of_row _ _ _ _ _ _ hrow
      have had0 := fun wz (hz : Below wr.heap.size wr wz) => (add_ok (Tg := Tg) (VV k) (VV (k + 1)) _ (restF (flatN L k)) (flatN L k).length _ (nthL L k) wz (hVok'.out k) (hrd.mono hz) (hrsr.out.mono hz) (by unfold restF; exact bytes_drop _ _ (flatN_bytes L hby'.out k)) (hby'.out k) (restF_length _) (by omega) (hVs'.out k) ((hz.block _ (by omega)).trans hgr))
      rw [hre, hle2] at had0
      have had : ∀ wz, Below wr.heap.size wr wz → Calls Tryd.prog 12 #[.agg #[.int .u32 (VV k).a, .int .u32 (VV k).b, .int .u32 (VV k).c, .int .u32 (VV k).d, .int .u32 (VV k).e, .int .u32 (VV k).f, .int .u32 (VV k).g, .int .u32 (VV k).h, .slice qa (restF (flatN L k)).length qc, .int .i64 ((flatN L k).length : Nat)], .slice sa (nthL L k).length sc] wz
          fun e w' => ∃ pa pc, e = .returned (.tuple #[.agg #[.int .u32 (VV (k + 1)).a, .int .u32 (VV (k + 1)).b, .int .u32 (VV (k + 1)).c, .int .u32 (VV (k + 1)).d, .int .u32 (VV (k + 1)).e, .int .u32 (VV (k + 1)).f, .int .u32 (VV (k + 1)).g, .int .u32 (VV (k + 1)).h, .slice pa (restF (flatN L (k + 1))).length pc, .int .i64 ((flatN L (k + 1)).length : Nat)], .int .i64 0]) ∧ OwnB wz.heap.size 5 w' (.slice pa (restF (flatN L (k + 1))).length pc) (restF (flatN L (k + 1))) ∧ Below wz.heap.size wz w' :=
        fun wz hz => (had0 wz hz).mono fun e w' ⟨r', he, ho, hb⟩ => by
          obtain ⟨pa, pc, rfl⟩ := ho.rd.slice
          exact ⟨pa, pc, he, ho, hb⟩
      have had' := Lib.hid had
      have hbr' := Lib.hid hbr; have hrd' := Lib.hid hrd; have hBr' := Lib.hid hBr; have hgr' := Lib.hid hgr; have hrow' := Lib.hid hrow; have hl15 := Lib.hid hlenk
      clear had0 had hrow hrd hrs hs hBr hbr hgr hre hle2 hlenk
      go_upto_region 12 with fail
      go_cut [10, 11] (fun s10 s11 wx => ∃ (g2 : Nat) (pa : Option Addr) (pc : Nat), s10 = .pointer (some ⟨g2, 0, none⟩) ∧ s11 = .int .i64 0 ∧ wr.heap.size ≤ g2 ∧ wx.heap[g2]? = some (.cells (millA (VV (k + 1)) (.slice pa (restF (flatN L (k + 1))).length pc) ((flatN L (k + 1)).length : Nat)) 35 (0, 0)) ∧ OwnB wr.heap.size 5 wx (.slice pa (restF (flatN L (k + 1))).length pc) (restF (flatN L (k + 1))) ∧ Below wr.heap.size wr wx)
      case first =>
        clear hkA5 hkB5 hr5 hal' hcell' hby' hVs' hVok' hVn' hgr' hBr' hrd' hrsr
        go_region_with (go_at_call 12; refine (had'.out _ ?_).mono ?_; (first | exact (Below.refl _ _).drew | exact ((Below.refl _ _).alloc (Nat.le_refl _) _).drew | exact Below.refl _ _ | exact (Below.refl _ _).alloc (Nat.le_refl _) _); rintro e w2 ⟨pa, pc, rfl, ho2, hb2⟩; obtain ⟨hc2, hf2⟩ := bcell hb2; have hb2' := Lib.hid hb2; have ho2' := Lib.hid ho2; have hs2 := fun b (h : b < _) => Nat.lt_of_lt_of_le h hb2'.out.size; (try simp only [World.size_drew, World.cell?_drew, World.frozen?_drew] at hc2 hf2 hs2); clear hb2 ho2)
        all_goals go_wp2_with fail
        all_goals go_meet
        · have hB2 : Below wr.heap.size wr w2 := (Below.refl wr.heap.size wr).drew.trans hb2'.out
          exact ⟨w2.heap.size, pa, pc, rfl, rfl, hB2.size, heap_alloc_new w2 _, ho2'.out.kept ((Below.refl _ _).alloc (Nat.le_refl _) _), hB2.alloc hB2.size _⟩
        · have hf := fun x0 x1 x2 x3 x4 x5 x6 x7 x8 x9 => fin_mill (wr := wr) (x0 := x0) (x1 := x1) (x2 := x2) (x3 := x3) (x4 := x4) (x5 := x5) (x6 := x6) (x7 := x7) (x8 := x8) (x9 := x9) hb2'.out ho2'.out (heap_alloc_new wr _) ((Below.refl _ _).alloc (Nat.le_refl _) _).drew
          exact ⟨wr.heap.size, pa, pc, rfl, rfl, Nat.le_refl _, (hf _ _ _ _ _ _ _ _ _ _).1, (hf _ _ _ _ _ _ _ _ _ _).2.1, (hf _ _ _ _ _ _ _ _ _ _).2.2⟩
        · have hf := fun x0 x1 x2 x3 x4 x5 x6 x7 x8 x9 => fin_mill (wr := wr) (x0 := x0) (x1 := x1) (x2 := x2) (x3 := x3) (x4 := x4) (x5 := x5) (x6 := x6) (x7 := x7) (x8 := x8) (x9 := x9) hb2'.out ho2'.out (heap_alloc_new wr _) ((Below.refl _ _).alloc (Nat.le_refl _) _).drew
          exact ⟨wr.heap.size, pa, pc, rfl, rfl, Nat.le_refl _, (hf _ _ _ _ _ _ _ _ _ _).1, (hf _ _ _ _ _ _ _ _ _ _).2.1, (hf _ _ _ _ _ _ _ _ _ _).2.2⟩
        · have hB2 : Below wr.heap.size wr w2 := (Below.refl wr.heap.size wr).drew.trans hb2'.out
          exact ⟨w2.heap.size, pa, pc, rfl, rfl, hB2.size, heap_alloc_new w2 _, ho2'.out.kept ((Below.refl _ _).alloc (Nat.le_refl _) _), hB2.alloc hB2.size _⟩
        · have hf := fun x0 x1 x2 x3 x4 x5 x6 x7 x8 x9 => fin_mill (wr := wr) (x0 := x0) (x1 := x1) (x2 := x2) (x3 := x3) (x4 := x4) (x5 := x5) (x6 := x6) (x7 := x7) (x8 := x8) (x9 := x9) hb2'.out ho2'.out (heap_alloc_new wr _) ((Below.refl _ _).alloc (Nat.le_refl _) _).drew
          exact ⟨wr.heap.size, pa, pc, rfl, rfl, Nat.le_refl _, (hf _ _ _ _ _ _ _ _ _ _).1, (hf _ _ _ _ _ _ _ _ _ _).2.1, (hf _ _ _ _ _ _ _ _ _ _).2.2⟩
        · have hf := fun x0 x1 x2 x3 x4 x5 x6 x7 x8 x9 => fin_mill (wr := wr) (x0 := x0) (x1 := x1) (x2 := x2) (x3 := x3) (x4 := x4) (x5 := x5) (x6 := x6) (x7 := x7) (x8 := x8) (x9 := x9) hb2'.out ho2'.out (heap_alloc_new wr _) ((Below.refl _ _).alloc (Nat.le_refl _) _).drew
          exact ⟨wr.heap.size, pa, pc, rfl, rfl, Nat.le_refl _, (hf _ _ _ _ _ _ _ _ _ _).1, (hf _ _ _ _ _ _ _ _ _ _).2.1, (hf _ _ _ _ _ _ _ _ _ _).2.2⟩
        · have hf := fun x0 x1 x2 x3 x4 x5 x6 x7 x8 x9 => fin_mill (wr := wr) (x0 := x0) (x1 := x1) (x2 := x2) (x3 := x3) (x4 := x4) (x5 := x5) (x6 := x6) (x7 := x7) (x8 := x8) (x9 := x9) hb2'.out ho2'.out (heap_alloc_new wr _) ((Below.refl _ _).alloc (Nat.le_refl _) _).drew
          exact ⟨wr.heap.size, pa, pc, rfl, rfl, Nat.le_refl _, (hf _ _ _ _ _ _ _ _ _ _).1, (hf _ _ _ _ _ _ _ _ _ _).2.1, (hf _ _ _ _ _ _ _ _ _ _).2.2⟩
        · have hf := fun x0 x1 x2 x3 x4 x5 x6 x7 x8 x9 => fin_mill (wr := wr) (x0 := x0) (x1 := x1) (x2 := x2) (x3 := x3) (x4 := x4) (x5 := x5) (x6 := x6) (x7 := x7) (x8 := x8) (x9 := x9) hb2'.out ho2'.out (heap_alloc_new wr _) ((Below.refl _ _).alloc (Nat.le_refl _) _).drew
          exact ⟨wr.heap.size, pa, pc, rfl, rfl, Nat.le_refl _, (hf _ _ _ _ _ _ _ _ _ _).1, (hf _ _ _ _ _ _ _ _ _ _).2.1, (hf _ _ _ _ _ _ _ _ _ _).2.2⟩
      case rest =>
        obtain ⟨g2, pa, pc, rfl, rfl, hg2, hrow2, ho2c, hbc⟩ := hcut
        have hrd2 := ho2c.rd
        have ho2c' := Lib.hid ho2c
        clear ho2c
        have hzg2 : g2 < wc.heap.size := (Array.getElem?_eq_some_iff.1 hrow2).1
        have hbc2 := hbr'.out.trans (hbc.mono (Nat.le_of_lt hzr))
        have hrowg := Lib.hid ((hbc.block g hzr).trans hrow'.out)
        have hgc := (hbc.block _ (by omega)).trans hgr'.out
        have had2 := (add_ok (Tg := Tg) (VV (k + 1)) (VV (k + 1)) (.slice pa (restF (flatN L (k + 1))).length pc) (restF (flatN L (k + 1))) (flatN L (k + 1)).length (.slice none 0 0) [] wc (hVok'.out (k + 1)) hrd2 (.inl ⟨none, 0, rfl, fun _ => rfl, rfl⟩) (by unfold restF; exact bytes_drop _ _ (flatN_bytes L hby'.out (k + 1))) bytes_nil (restF_length _) (by have := hl15.out; simp; omega) (by rw [List.append_nil]; exact blocksF_small _ _ (by rw [restF_length]; omega)) hgc)
        rw [List.append_nil, show restF (restF (flatN L (k + 1))) = restF (flatN L (k + 1)) from restF_small _ (by rw [restF_length]; omega)] at had2
        have had3 : Calls Tryd.prog 12 #[.agg (millA (VV (k + 1)) (.slice pa (restF (flatN L (k + 1))).length pc) ((flatN L (k + 1)).length : Nat)), .slice none 0 0] wc fun e w' => ∃ qa qc, e = .returned (.tuple #[.agg (millA (VV (k + 1)) (.slice qa (restF (flatN L (k + 1))).length qc) ((flatN L (k + 1)).length : Nat)), .int .i64 0]) ∧ RdB w' (.slice qa (restF (flatN L (k + 1))).length qc) (restF (flatN L (k + 1))) ∧ Below wc.heap.size wc w' :=
          had2.mono fun e w' ⟨r', he, ho, hb⟩ => by
            obtain ⟨qa2, qc2, rfl⟩ := ho.rd.slice
            exact ⟨qa2, qc2, he, ho.rd, hb⟩
        have had3' := Lib.hid had3
        have hl47 : (restF (flatN L (k + 1))).length ≤ 140737488355328 := by rw [restF_length]; omega
        have hrow2' := Lib.hid hrow2; have hrd2' := Lib.hid hrd2; have hbc' := Lib.hid hbc; have hbc2' := Lib.hid hbc2; have hgc' := Lib.hid hgc
        clear had2 had3 hrow2 hrd2 hbc hbc2 hgc hrow' hrd' had' hgr' hBr' hbr' c0 c1 c2 c3 c4 c5 c6 c7 c8 c9 hcs
        go_wp2_with (first | (refine wpList_load_row_g rfl 35 _ rfl g2 rfl 35 (millA (VV (k + 1)) (.slice pa (restF (flatN L (k + 1))).length pc) ((flatN L (k + 1)).length : Nat)) (0, 0) _ hrow2'.out Tryd.underlying35 rfl (info_mill _ _ _) ?_) | (go_at_call 12; refine (had3'.out).mono ?_; rintro e w7 ⟨qa2, qc2, rfl, hrd7, hb7⟩; have hrd7' := Lib.hid hrd7; have hb7' := Lib.hid hb7; have hz7 := hb7.size; clear hrd7 hb7) | (refine storeNew w7 rfl 35 _ _ rfl (millA (VV (k + 1)) (.slice qa2 (restF (flatN L (k + 1))).length qc2) ((flatN L (k + 1)).length : Nat)) 35 rfl rfl (info_mill _ _ _) rfl (mill_one _ _ _ _ _) ?_; intro w8 hr hb8; have hk8 := Lib.hid hr; have hz8 : w7.heap.size < w8.heap.size := (Array.getElem?_eq_some_iff.1 hr).1; have hb8' := Lib.hid hb8; clear hr hb8; refine Stop.go'' _ ?_))
        refine StopP.go ?_
        have hb78 := hb7'.out.trans (hb8'.out.mono hz7)
        have hkn := Lib.hid ((hb78.block g2 hzg2).trans hrow2'.out)
        have hkg := Lib.hid ((hb78.block g (by omega)).trans hrowg.out)
        have hsm := Lib.hid (same_yes (VV (k + 1)) (.slice pa (restF (flatN L (k + 1))).length pc) (.slice qa2 (restF (flatN L (k + 1))).length qc2) (restF (flatN L (k + 1))) ((flatN L (k + 1)).length : Nat) w8 hl47 (hrd2'.out.mono hb78) (hrd7'.out.mono hb8'.out))
        have hb78' := Lib.hid hb78
        have hz78 := hb78.size
        clear hb78 hb7' hb8' hrow2' hrowg hrd2' hrd7' had3'
        go_wp2_with (first | (refine wpList_load_row_g rfl 35 _ rfl g2 rfl 35 (millA (VV (k + 1)) (.slice pa (restF (flatN L (k + 1))).length pc) ((flatN L (k + 1)).length : Nat)) (0, 0) _ hkn.out Tryd.underlying35 rfl (info_mill _ _ _) ?_) | (refine wpList_load_row_g rfl 35 _ rfl w7.heap.size rfl 35 (millA (VV (k + 1)) (.slice qa2 (restF (flatN L (k + 1))).length qc2) ((flatN L (k + 1)).length : Nat)) (0, 0) _ hk8.out Tryd.underlying35 rfl (info_mill _ _ _) ?_) | (go_at_call 24; refine (hsm.out).mono ?_; rintro e w9 ⟨rfl, hb9⟩; have hb9' := Lib.hid hb9; have hz9 := hb9.size; clear hb9; refine Stop.go'' _ ?_))
        refine StopP.go ?_
        have hkn9 := Lib.hid ((hb9'.out.block g2 (by omega)).trans hkn.out)
        have hkg9 := Lib.hid ((hb9'.out.block g (by omega)).trans hkg.out)
        have hB9 := Lib.hid (hb78'.out.trans (hb9'.out.mono hz78))
        clear hkn hkg hk8 hb9' hsm
        go_wp2_with (first | (refine wpList_load_row_g rfl 35 _ rfl g2 rfl 35 (millA (VV (k + 1)) (.slice pa (restF (flatN L (k + 1))).length pc) ((flatN L (k + 1)).length : Nat)) (0, 0) _ hkn9.out Tryd.underlying35 rfl (info_mill _ _ _) ?_) | (refine wpList_store_row rfl 35 _ _ rfl g (millA (VV (k + 1)) (.slice pa (restF (flatN L (k + 1))).length pc) ((flatN L (k + 1)).length : Nat)) rfl rfl 35 _ hkg9.out (info_mill _ _ _) (mill_size _ _ _ _ _ _) (mill_one _ _ _ _ _) ?_))
        go_roundw
        case rel =>
          have hrf := setRow_heap _ _ _ (millA (VV (k + 1)) (.slice pa (restF (flatN L (k + 1))).length pc) ((flatN L (k + 1)).length : Nat)) _ _ hkg9.out
          exact ⟨k + 1, by omega, by go_num, below_setRow' (hbc2'.out.trans (hB9.out.mono (by omega))) (Nat.le_refl _) _, (Array.getElem?_eq_some_iff.1 hrf).1, pa, pc, hrf, (ownB_setRow (ho2c'.out.kept hB9.out) (Nat.zero_le _) hzr _).rd⟩
        case measure => go_num
    · have hkn : k = n := by omega
      subst hkn
      rw [hfa.out] at hrow hrd
      have hBr := hB5.out.trans (hbr.mono hw5)
      have hgr := (hBr.block _ hlt).trans hgl'.out
      have hfr := (hBr.block _ hltf).trans hgf'.out
      have hbyF2 : Bytes (restF F) := by unfold restF; exact bytes_drop _ _ hbyF.out
      have hend0 := end_ok (Tg := Tg) (VV k) (.slice qa (restF F).length qc) (restF F) F.length wr (hVok'.out k) hrd hbyF2 (restF_length _) (by omega) hgr
      rw [show endF (VV k) (restF F) F.length = D by rw [hVn'.out]; exact hDD'.out] at hend0
      have hend := Lib.hid (show Calls Tryd.prog 13 #[.agg (millA (VV k) (.slice qa (restF F).length qc) (F.length : Nat))] wr _ from hend0)
      have kA := Lib.hid ((hbr.block gA hgA5).trans hkA5.out); have kB := Lib.hid ((hbr.block gB hgB5).trans hkB5.out)
      have kG := Lib.hid hrow; have hrdG := Lib.hid hrd; have hrF := Lib.hid (hr5.out.mono (show Below w5.heap.size w5 wr by rw [hgM]; exact hbr)); have hBr' := Lib.hid hBr
      have hgr' := Lib.hid hgr; have hfr' := Lib.hid hfr
      have hzA : gA < wr.heap.size := by omega
      have hzB : gB < wr.heap.size := by omega
      have hzw : w.heap.size ≤ wr.heap.size := by omega
      have hz2r : 2 < wr.heap.size := by omega
      have hz0r : 0 < wr.heap.size := by omega
      clear hrow hrd hBr hgr hfr hend0 hbr hkA5 hkB5 hr5 hbyF2
      go_wp2_with (first | (refine wpList_load_row_g rfl 35 _ rfl g rfl 35 (millA (VV k) (.slice qa (restF F).length qc) (F.length : Nat)) (0, 0) _ kG.out Tryd.underlying35 rfl (info_mill _ _ _) ?_) | (go_at_call 13; refine (hend.out).mono ?_; rintro e w6 ⟨rfl, hb6⟩; have hb6' := Lib.hid hb6; have hz6 := hb6.size; clear hb6) | (refine storeNew w6 rfl 25 _ _ rfl (u8s D) 25 rfl rfl hiD.out (Eq.trans (by kernel_rfl) hsD.out) (u8s_one _) ?_; intro wC hr hbC; have kC := Lib.hid hr; have hzC : w6.heap.size < wC.heap.size := (Array.getElem?_eq_some_iff.1 hr).1; have hbC' := Lib.hid (hb6'.out.trans (hbC.mono hz6)); clear hr hbC; refine Stop.go'' _ ?_))
      refine StopP.go ?_
      generalize hgC : w6.heap.size = gC at *
      have hzrC := hbC'.out.size
      have hst := Lib.hid (start_any (Tf := Tf) wC ((hbC'.out.block _ hz0r).trans hfr'.out))
      clear hend hb6' hgC
      go_wp2_with (go_at_call 25; refine (hst.out).mono ?_; rintro e wS ⟨rfl, hbS⟩; have hbS' := Lib.hid hbS; have hzS := hbS.size; clear hbS; refine Stop.go'' _ ?_)
      refine StopP.go ?_
      have hBS := hbC'.out.trans (hbS'.out.mono hzrC)
      have hadd0 := add_ok (Tg := Tg) firstW (VV k) (.slice none 0 0) [] 0 (.slice ra F.length rc) F wS firstW_ok (.inl ⟨none, 0, rfl, fun _ => rfl, rfl⟩) (hrF.out.mono hBS) bytes_nil hbyF.out rfl (by omega) (by rw [List.nil_append]; exact hVn'.out.symm) ((hBS.block _ hz2r).trans hgr'.out)
      rw [List.nil_append, Nat.zero_add] at hadd0
      have hadd := Lib.hid (show Calls Tryd.prog 12 #[.agg (millA firstW (.slice none 0 0) 0), .slice ra F.length rc] wS (fun e w' => ∃ oa oc, e = .returned (.tuple #[.agg (millA (VV k) (.slice oa (restF F).length oc) (F.length : Nat)), .int .i64 0]) ∧ RdB w' (.slice oa (restF F).length oc) (restF F) ∧ Below wS.heap.size wS w') from hadd0.mono fun e w' ⟨r', he, ho, hb⟩ => by
        obtain ⟨oa, oc, rfl⟩ := ho.rd.slice
        exact ⟨oa, oc, he, ho.rd, hb⟩)
      have hBS' := Lib.hid hBS
      have kC2 := Lib.hid ((hbS'.out.block gC hzC).trans kC.out)
      have hzCS : gC < wS.heap.size := by omega
      clear hadd0 hBS hbS' hbC' kC hst
      go_wp2_with (first | (go_at_call 12; refine (hadd.out).mono ?_; rintro e w10 ⟨oa, oc, rfl, hrdO, hb10⟩; have hrdO' := Lib.hid hrdO; have hb10' := Lib.hid hb10; have hz10 := hb10.size; clear hrdO hb10) | (refine storeNew w10 rfl 35 _ _ rfl (millA (VV k) (.slice oa (restF F).length oc) (F.length : Nat)) 35 rfl rfl (info_mill _ _ _) rfl (mill_one _ _ _ _ _) ?_; intro wO hr hbO; have kO := Lib.hid hr; have hzO : w10.heap.size < wO.heap.size := (Array.getElem?_eq_some_iff.1 hr).1; have hbO' := Lib.hid hbO; clear hr hbO; refine Stop.go'' _ ?_))
      refine StopP.go ?_
      have hSO := hb10'.out.trans (hbO'.out.mono hz10)
      have hzSO := hSO.size
      have hzrS := hBS'.out.size
      have hRO := hBS'.out.trans (hSO.mono hzrS)
      have fA := Lib.hid ((hRO.block gA hzA).trans kA.out); have fB := Lib.hid ((hRO.block gB hzB).trans kB.out); have fG := Lib.hid ((hRO.block g hzr).trans kG.out)
      have fC := Lib.hid ((hSO.block gC hzCS).trans kC2.out)
      have c9 : wO.cell? ⟨g, 9, none⟩ = some (.int .i64 (F.length : Nat)) := cell_of_row _ _ _ _ _ _ fG.out
      have hsame := Lib.hid (same_yes (VV k) (.slice qa (restF F).length qc) (.slice oa (restF F).length oc) (restF F) (F.length : Nat) wO (by rw [restF_length]; omega) (hrdG.out.mono hRO) (hrdO'.out.mono hbO'.out))
      have heq := run_equalArr (P := Tryd.prog) wO 9998 25 5 32 Tryd.underlying25 Tryd.underlying5 (by kernel_rfl) D D hDl'.out hDl'.out
      rw [decide_eq_true rfl] at heq
      have heq := heq_ten D wO heq
      have hWO := Lib.hid (hBr'.out.trans (hRO.mono hzw))
      have hgO := Lib.hid ((hRO.block _ hz2r).trans hgr'.out); have hfO := Lib.hid ((hRO.block _ hz0r).trans hfr'.out)
      have hzwO : w.heap.size ≤ wO.heap.size := by omega
      have hz2O : 2 < wO.heap.size := by omega
      have hz0O : 0 < wO.heap.size := by omega
      have hzgO : g < wO.heap.size := by omega
      generalize hgO2 : w10.heap.size = gO at *
      clear hSO hRO hBS' hb10' hbO' hadd hgO2
      go_wp2_with (first | (refine wpList_load_row_g rfl 25 _ rfl gA rfl 25 (u8s D) (0, 0) _ fA.out Tryd.underlying25 rfl hiD.out ?_) | (refine wpList_load_row_g rfl 25 _ rfl gB rfl 25 (u8s D) (0, 0) _ fB.out Tryd.underlying25 rfl hiD.out ?_) | (refine wpList_load_row_g rfl 25 _ rfl gC rfl 25 (u8s D) (0, 0) _ fC.out Tryd.underlying25 rfl hiD.out ?_) | (refine wpList_load_row_g rfl 35 _ rfl g rfl 35 (millA (VV k) (.slice qa (restF F).length qc) (F.length : Nat)) (0, 0) _ fG.out Tryd.underlying35 rfl (info_mill _ _ _) ?_) | (refine wpList_load_row_g rfl 35 _ rfl gO rfl 35 (millA (VV k) (.slice oa (restF F).length oc) (F.length : Nat)) (0, 0) _ kO.out Tryd.underlying35 rfl (info_mill _ _ _) ?_) | (go_at_call 24; refine (hsame.out).mono ?_; rintro e w11 ⟨rfl, hb11⟩; have c9' : w11.cell? ⟨g, 9, none⟩ = some (.int .i64 (F.length : Nat)) := (hb11.cell (p := ⟨g, 9, none⟩) hzgO).trans c9; have hal11 := Lib.hid (hal'.out w11 ((hb11.block _ hz2O).trans hgO.out) ((hb11.block _ hz0O).trans hfO.out)); have hW11 := Lib.hid (hWO.out.trans (hb11.mono hzwO)); have hz11 := hb11.size; clear hb11) | (go_at_call 15; refine (hal11.out).mono ?_; rintro e w12 ⟨rfl, hb12⟩; have hb12' := Lib.hid (hW11.out.trans (hb12.mono (Nat.le_trans hzwO hz11))); clear hb12))
      go_ret
      exact ⟨rfl, hb12'.out⟩
end Go.Proofs.YtibfbgcnnnmdgaaDoor

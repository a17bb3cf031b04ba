/- Contract of the reference's blocks. Contracts of the reference's Of and Sum. Contracts of the reference's Sum, Start, Valid, Add and End. -/
import Derived.Test.YtddelpjlcmaomaaDoorD01x
namespace Go.Proofs.YtddelpjlcmaomaaDoor
open Go.RowKit Go.YtddelpjlcmaomaaDoor
set_option linter.unusedVariables false
theorem rground_lit (v G : V8) (b o n c : Nat) (l : List Int) (w : World) (hv : v.ok) (hG : groundF v l = G) (hn : 64 ≤ n) (hnc : n ≤ c) (hcm : c ≤ maxLen) (hl : Bytes l)
    (hcell : ∀ i, i < 64 → w.cell? ⟨b, o + i, none⟩ = some (.int .u8 (ith l i))) :
    Calls Tryd.prog 106 #[.agg #[.int .u32 v.a, .int .u32 v.b, .int .u32 v.c, .int .u32 v.d, .int .u32 v.e, .int .u32 v.f, .int .u32 v.g, .int .u32 v.h], .slice (some ⟨b, o, none⟩) n c] w
      fun e w' => e = .returned (.agg #[.int .u32 G.a, .int .u32 G.b, .int .u32 G.c, .int .u32 G.d, .int .u32 G.e, .int .u32 G.f, .int .u32 G.g, .int .u32 G.h]) ∧ Below w.heap.size w w' := by
  subst hG
  exact rground_any v b o n c l w hv hn hnc hcm hl hcell
set_option maxRecDepth 100000 in
set_option maxHeartbeats 1000000 in
theorem rblocks_some (v : V8) (b o c : Nat) (l : List Int) (w : World) (hv : v.ok) (hlc : l.length ≤ c) (hcm : c ≤ maxLen) (hl : Bytes l) (hbw : b < w.heap.size) (hlm : l.length ≤ 1000000)
    (hcell : ∀ i, i < l.length → w.cell? ⟨b, o + i, none⟩ = some (.int .u8 (ith l i))) :
    Calls Tryd.prog 74 #[.agg #[.int .u32 v.a, .int .u32 v.b, .int .u32 v.c, .int .u32 v.d, .int .u32 v.e, .int .u32 v.f, .int .u32 v.g, .int .u32 v.h], .slice (some ⟨b, o, none⟩) l.length c] w
     fun e w' => e = .returned (.agg (blocksF v l).cells) ∧ Below w.heap.size w w' := by
  have hcell' := Lib.hid hcell; have hl' := Lib.hid hl
  clear hcell hl
  unfold maxLen at hcm
  generalize hn : l.length = n at *
  have hn' := Lib.hid hn; clear hn
  generalize hR : (fun k => grindN v l k) = R
  have hRok : ∀ k, (R k).ok := by subst hR; exact fun k => grindN_ok v l k hv
  have hR0 : R 0 = v := by subst hR; rfl
  have hRs : ∀ k, R (k + 1) = groundF (R k) (l.drop (64 * k)) := by subst hR; intro k; rfl
  have hRok' := Lib.hid hRok; have hR0' := Lib.hid hR0; have hRs' := Lib.hid hRs; have hR' := Lib.hid hR
  clear hRok hR0 hRs hR
  go_enter Tryd.func74, Tryd.ntmps74
  go_wp2
  go_loopw [5] (fun s wr => ∃ k : Nat, 64 * k ≤ n ∧ s = .int .i64 ((64 * k : Nat) : Int) ∧ Below w.heap.size w wr ∧ wr.heap[w.heap.size]? = some (.cells (u32s (R k).list) 70 (0, 0)) ∧ wr.heap[w.heap.size + 1]? = some (.cells (u32s [0, 0, 0, 0, 0, 0, 0, 0]) 70 (0, 0))) (fun s _ => n + 64 - (intOf s).toNat)
  case atStart =>
    refine ⟨0, by omega, rfl, ((Below.refl _ _).alloc (Nat.le_refl _) _).alloc (by simp) _, ?_, hn2 w _ _⟩
    rw [hR0'.out]; exact (hp1 _ _ _ (by simp)).trans (heap_alloc_new w _)
  case round =>
    obtain ⟨k, hk, rfl, hb, h0, h1⟩ := hrel
    have h0' := Lib.hid h0; have h1' := Lib.hid h1; have hb' := Lib.hid hb
    have hzr : w.heap.size + 1 < wr.heap.size := (Array.getElem?_eq_some_iff.1 h1).1
    clear h0 h1 hb
    by_cases hlt : 64 * k + 64 ≤ n
    · have hg := rground_lit (R k) (R (k + 1)) b (o + 64 * k) 64 (c - 64 * k) (l.drop (64 * k))
      have hS := hRs'.out k
      have hcl : ∀ wz, Below w.heap.size w wz → ∀ i, i < 64 → wz.cell? ⟨b, o + 64 * k + i, none⟩ = some (.int .u8 (ith (l.drop (64 * k)) i)) := fun wz h i hi => by
        rw [h.cell (p := (⟨b, o + 64 * k + i, none⟩ : Addr)) hbw, ith_drop, Nat.add_assoc]; exact hcell'.out _ (by omega)
      have hg2 := Lib.hid (fun wz h => hg wz (hRok'.out k) hS.symm (Nat.le_refl _) (by omega) (by unfold maxLen; omega) (bytes_drop _ _ hl'.out) (hcl wz h))
      clear hg hS hcl
      obtain ⟨c0, c1, c2, c3, c4, c5, c6, c7⟩ := cells8 h0'.out
      generalize hm : 64 * k = m at *
      have hm' := Lib.hid hm; clear hm
      have x1 : IntKind.i64.wrap ((m : Int) + 64) = (m : Int) + 64 := IntWalk.i64_in _ (by omega)
      have x2 : (0 : Int) ≤ (m : Int) + 64 := by omega
      have x3 : (m : Int) + 64 ≤ (c : Int) := by omega
      have x4 : ((m : Int) + 64).toNat = m + 64 := by omega
      have x5 : (m : Int) ≤ (m : Int) + 64 := by omega
      have x6 : m + 64 - m = 64 := by omega
      have x7 : ¬ c = m := by omega
      have x8 : ¬ c - m = 0 := by omega
      have x9 : (m : Int) + 64 ≤ (n : Int) := by omega
      go_wp2
      refine wp_region_headN (C := fun w' => ∃ n, w' = wr.drewN n) 6 [] (by kernel_rfl) (by kernel_rfl) ⟨1, rfl⟩ ?_
      simp only [List.take_succ_cons, List.take_zero, List.drop_succ_cons, List.drop_zero]
      repeat (refine head_walk (by rfl) (fun K hK => ?_); go_simp; refine hK _ ?_; clear hK K)
      refine head_nil ?_
      intro w' hw'
      obtain ⟨nz, rfl⟩ := hw'
      clear x1 x2 x3 x4 x5 x6 x7 x8 x9 c0 c1 c2 c3 c4 c5 c6 c7
      have hbz := Lib.hid (((Draws.refl wr).drewN nz).below hb'.out)
      have z0 := Lib.hid (show (wr.drewN nz).heap[w.heap.size]? = _ from h0'.out); have z1 := Lib.hid (show (wr.drewN nz).heap[w.heap.size + 1]? = _ from h1'.out)
      have hzz : w.heap.size + 1 < (wr.drewN nz).heap.size := hzr
      clear h0' h1' hb' hzr
      generalize wr.drewN nz = wz at *
      go_wp2_with (first | (go_at_call 106; refine (hg2.out wz hbz.out).mono ?_; rintro e w2 ⟨rfl, hb2⟩; have y0 := Lib.hid ((hb2.block w.heap.size (by omega)).trans z0.out); have y1 := Lib.hid ((hb2.block (w.heap.size + 1) (by omega)).trans z1.out); have hB2 := Lib.hid (hbz.out.trans (hb2.mono (by omega))); clear hb2) | (refine wpList_store_row rfl 70 _ _ rfl w.heap.size _ rfl rfl 70 _ y0.out (by kernel_rfl) (by simp [u32s, V8.list]) (by simp [Value.oneCell']) ?_))
      refine NoPanic.normal ?_
      go_wp2
      go_roundw
      case rel =>
        have h2 := setRow_heap w2 w.heap.size (u32s (R k).list) (u32s (R (k + 1)).list) 70 (0, 0) y0.out
        have h3 := (setRow_other w2 w.heap.size (w.heap.size + 1) (u32s (R (k + 1)).list) (by omega)).trans y1.out
        exact ⟨k + 1, by have := hm'.out; omega, by rw [show 64 * (k + 1) = m + 64 by have := hm'.out; omega]; go_num, below_setRow' hB2.out (Nat.le_refl _) _, h2, h3⟩
      case measure => have := hm'.out; simp [intOf]; omega
    · have hk' : k = n / 64 := by omega
      subst hk'
      have hRk : R (n / 64) = blocksF v l := by rw [← hR'.out, ← hn'.out]; rfl
      rw [hRk] at h0'
      clear hRk
      generalize hm : 64 * (n / 64) = m at *
      clear hm
      go_wp2_with (first | (refine wpList_load_row rfl 70 _ rfl w.heap.size rfl 70 _ _ _ h0'.out Tryd.underlying70 rfl (by kernel_rfl) ?_) | (refine wpList_store_row rfl 70 _ _ rfl (w.heap.size + 1) _ rfl rfl 70 _ h1'.out (by kernel_rfl) (by simp [u32s, V8.list]) (u32s_one _) ?_))
      try simp only [Exit.inBlock, Exit.then]
      exact bodyPost_ret (results_cell_row rfl _ _ (w.heap.size + 1) 70 _ _ _ rfl (setRow_heap _ _ _ _ _ _ h1'.out) Tryd.underlying70 rfl (by kernel_rfl)) rfl ⟨rfl, below_setRow' hb'.out (by omega) _⟩
theorem rblocks_none (v : V8) (a : Option Addr) (c : Nat) (w : World) :
    Calls Tryd.prog 74 #[.agg #[.int .u32 v.a, .int .u32 v.b, .int .u32 v.c, .int .u32 v.d, .int .u32 v.e, .int .u32 v.f, .int .u32 v.g, .int .u32 v.h], .slice a 0 c] w
     fun e w' => e = .returned (.agg v.cells) ∧ Below w.heap.size w w' := by
  go_enter Tryd.func74, Tryd.ntmps74
  go_wp2
  go_rounds 2
  try simp only [Exit.inBlock, Exit.then]
  exact bodyPost_ret (results_cell_row rfl _ _ (w.heap.size + 1) 70 _ _ _ rfl (hn2 w _ _) Tryd.underlying70 rfl (by kernel_rfl)) rfl ⟨rfl, ((Below.refl _ _).alloc (Nat.le_refl _) _).alloc (by simp) _⟩
theorem rblocks_any (v G : V8) (bv : Value) (l : List Int) (w : World) (hv : v.ok) (hl : Bytes l) (hr : RdB w bv l) (hlm : l.length ≤ 1000000) (hG : blocksF v l = G) :
    Calls Tryd.prog 74 #[.agg #[.int .u32 v.a, .int .u32 v.b, .int .u32 v.c, .int .u32 v.d, .int .u32 v.e, .int .u32 v.f, .int .u32 v.g, .int .u32 v.h], bv] w
     fun e w' => e = .returned (.agg #[.int .u32 G.a, .int .u32 G.b, .int .u32 G.c, .int .u32 G.d, .int .u32 G.e, .int .u32 G.f, .int .u32 G.g, .int .u32 G.h]) ∧ Below w.heap.size w w' := by
  subst hG
  rcases hr with ⟨a, c, rfl, hn, rfl⟩ | ⟨b, o, c, rfl, h1, h2, h3, h4⟩
  · exact rblocks_none v a c w
  · exact rblocks_some v b o c l w hv h1 h2 hl h3 hlm h4
end Go.Proofs.YtddelpjlcmaomaaDoor
namespace Go.Proofs.YtddelpjlcmaomaaDoor
open Go.RowKit Go.YtddelpjlcmaomaaDoor
set_option linter.unusedVariables false
def tailF (n : Nat) : List Int := tl (zT n) ++ [0, 0, 0, 0] ++ be4 (8 * (n : Int))
theorem tailF_length (n : Nat) : (tailF n).length = zT n + 9 := by simp [tailF, tl_length, be4]
theorem zT_lt (n : Nat) : zT n < 64 := Nat.mod_lt _ (by decide)
theorem tailF_bytes (n : Nat) (hn : n ≤ 300000) : Bytes (tailF n) := by
  unfold tailF
  refine bytes_append _ _ (bytes_append _ _ ?_ (bytes_replicate 4)) (be4_bytes _ ⟨by omega, by omega⟩)
  exact bytes_append [128] _ (bytes_one 128 (by omega)) (bytes_replicate _)
theorem tail_ending (r : List Int) (n : Nat) (h : r.length = n % 64) : r ++ tailF n = endingF r n := by
  have e : List.replicate (zT n) (0 : Int) ++ [0, 0, 0, 0] = List.replicate (endSize r.length - 4 - (r.length + 1)) 0 := by
    rw [show ([0, 0, 0, 0] : List Int) = List.replicate 4 0 from rfl, List.replicate_append_replicate]
    congr 1
    unfold zT endSize
    split <;> omega
  unfold tailF endingF tl
  rw [← e]
  simp
theorem rfirst_F (F : V8) (hF : firstW = F) (w : World) : Calls Tryd.prog 77 #[] w fun e w' => e = .returned (.agg #[.int .u32 F.a, .int .u32 F.b, .int .u32 F.c, .int .u32 F.d, .int .u32 F.e, .int .u32 F.f, .int .u32 F.g, .int .u32 F.h]) ∧ Below w.heap.size w w' := by
  subst hF; exact rfirst_any w
theorem rwritten_G (G : V8) (D : List Int) (w : World) (hG : G.ok) (hD : writtenF G = D) : Calls Tryd.prog 75 #[.agg #[.int .u32 G.a, .int .u32 G.b, .int .u32 G.c, .int .u32 G.d, .int .u32 G.e, .int .u32 G.f, .int .u32 G.g, .int .u32 G.h]] w fun e w' => e = .returned (.agg (u8s D)) ∧ Below w.heap.size w w' := by
  subst hD; exact rwritten_any G w hG
theorem rtail_F (n : Nat) (w : World) (hn : n ≤ 300000) : Calls Tryd.prog 76 #[.int .i64 (n : Int)] w fun e w' => ∃ ta tc, e = .returned (.slice ta (zT n + 9) tc) ∧ RdB w' (.slice ta (zT n + 9) tc) (tailF n) ∧ Below w.heap.size w w' := by
  refine (rtail_any n w hn).mono ?_
  rintro e w' ⟨r, rfl, ho, hb⟩
  have h := show RdB w' r (tailF n) from ho.rd
  obtain ⟨ta, tc, rfl⟩ := h.slice
  rw [tailF_length] at h ⊢
  exact ⟨ta, tc, rfl, h, hb⟩
theorem own0 (w : World) : OwnB w.heap.size 5 (w.alloc (.cells #[] 5)) (.slice (some ⟨w.heap.size, 0, none⟩) 0 0) [] :=
  ⟨rfl, .inr ⟨w.heap.size, 0, _, rfl, Nat.le_refl _, heap_alloc_new w _, Nat.le_refl _, by decide, rfl, rfl⟩⟩
set_option maxRecDepth 100000 in
set_option maxHeartbeats 1000000 in
theorem rof_any (bv : Value) (l D : List Int) (w : World) (hr : RdB w bv l) (hl : Bytes l) (hlm : l.length ≤ 200000) (hD : shaF l = D) :
    Calls Tryd.prog 68 #[bv] w fun e w' => e = .returned (.agg (u8s D)) ∧ Below w.heap.size w w' := by
  obtain ⟨ba, bc, rfl⟩ := hr.slice
  obtain ⟨F, hF⟩ : ∃ F, firstW = F := ⟨_, rfl⟩
  obtain ⟨G, hG⟩ : ∃ G, blocksF F (l ++ tailF l.length) = G := ⟨_, rfl⟩
  have hDl : D.length = 32 := by rw [← hD]; exact shaF_length l
  have hFok : F.ok := by rw [← hF]; exact firstW_ok
  have hGok : G.ok := by rw [← hG]; exact blocksF_ok _ _ hFok
  have hw : writtenF G = D := by
    rw [← hD, ← hG, blocksF_append, tail_ending _ _ (restF_length l), ← hF]; rfl
  have hi := Lib.hid (show (Tryd.prog.info? 42).map (·.size) = some (u8s D).size from by rw [u8s_size, hDl]; kernel_rfl)
  have hs := Lib.hid (show (u8s (zerosB 32)).size = (u8s D).size from by rw [u8s_size, u8s_size, hDl, zerosB_length])
  have hF' := Lib.hid hF; have hG' := Lib.hid hG; have hFok' := Lib.hid hFok; have hGok' := Lib.hid hGok; have hw' := Lib.hid hw; have hr' := Lib.hid hr; have hl' := Lib.hid hl
  have hll : Hid ((l ++ tailF l.length).length ≤ 1000000) := Lib.hid (by have := zT_lt l.length; rw [List.length_append, tailF_length]; omega)
  have htl := tailF_length l.length
  have hzt := zT_lt l.length
  have htl' := Lib.hid htl
  clear hF hG hDl hFok hGok hw hr hD hl htl
  generalize hn : l.length = n at *
  have hn' := Lib.hid hn; clear hn
  go_enter Tryd.func68, Tryd.ntmps68
  go_wp2_with (go_at_call 77; refine (rfirst_F F hF'.out _).mono ?_; rintro e w1 ⟨rfl, hb1⟩; have hb1' := Lib.hid hb1; clear hb1; refine Stop.go'' _ ?_)
  refine StopP.go ?_
  have hB1 := Lib.hid (show Below w.heap.size w w1 from ((Below.refl _ _).alloc (Nat.le_refl _) _).trans (hb1'.out.mono (by simp)))
  have k1 := Lib.hid (show w1.heap[w.heap.size]? = some (.cells (u8s (zerosB 32)) 42 (0, 0)) from (hb1'.out.block w.heap.size (by simp)).trans (heap_alloc_new w _))
  have hz1 : w.heap.size < w1.heap.size := (Array.getElem?_eq_some_iff.1 k1.out).1
  have r1 := Lib.hid ((hr'.out.mono hB1.out).mono ((Below.refl w1.heap.size w1).alloc (Nat.le_refl _) (.cells #[] 5)))
  clear hb1'
  go_wp2_with (refine appendB rfl _ _ 35 rfl w1.heap.size 5 Tryd.underlying35 (by kernel_rfl) _ rfl _ (own0 w1) _ rfl _ r1.out (by rw [hn'.out]; simp; omega) (by simp) ?_)
  intro v' w' h1 h2
  have hB2 := (own0 w1).below h2 (by simp)
  try rw [List.nil_append] at h1
  obtain ⟨pa, pc, rfl⟩ := h1.rd.slice
  rw [hn'.out] at h1 ⊢
  have h1' := Lib.hid h1
  have hB2' := Lib.hid (((Below.refl w1.heap.size w1).alloc (Nat.le_refl _) (.cells #[] 5)).trans hB2)
  clear h1 h2 hB2 r1
  have hz2 := hB2'.out.size
  refine Stop.go ?_
  go_wp2_with (go_at_call 76; refine (rtail_F n _ (by omega)).mono ?_; rintro e w3 ⟨ta, tc, rfl, ho4, hb3⟩; have ho4 := Lib.hid ho4; have hb3' := Lib.hid hb3; clear hb3; refine Stop.go'' _ ?_)
  refine StopP.go ?_
  have hz3 := hb3'.out.size
  have q1 := Lib.hid (h1'.out.kept hb3'.out)
  have hB3 := Lib.hid (hB2'.out.trans (hb3'.out.mono hz2))
  clear h1' hB2' hb3'
  go_wp2_with (refine appendB rfl _ _ 35 rfl w1.heap.size 5 Tryd.underlying35 (by kernel_rfl) _ rfl _ q1.out _ rfl _ ho4.out (by rw [hn'.out, htl'.out]; omega) (by omega) ?_)
  intro v' w4 h1 h2
  have hB4 := Lib.hid (hB3.out.trans (q1.out.below h2 (by omega)))
  have hrd := Lib.hid h1.rd
  have hz4 := hB4.out.size
  have k4 := Lib.hid ((hB4.out.block w.heap.size hz1).trans k1.out)
  have hB5 := Lib.hid (hB1.out.trans (hB4.out.mono (by omega)))
  obtain ⟨qa, qc, rfl⟩ := h1.rd.slice
  clear h1 h2 q1 ho4 hB3 k1 hB1
  have hlb := Lib.hid (bytes_append _ _ hl'.out (tailF_bytes n (by omega)))
  have hz5 : w.heap.size < w4.heap.size := by omega
  generalize hN : (l ++ tailF n).length = N at *
  have hN' := Lib.hid hN
  clear hN
  clear hzt hz1 hz2 hz3 hz4
  refine Stop.go ?_
  go_wp2_with (first | (go_at_call 74; refine (rblocks_any F G _ (l ++ tailF n) w4 hFok'.out hlb.out hrd.out (by rw [hN'.out]; exact hll.out) hG'.out).mono ?_; rintro e w5 ⟨rfl, hb5⟩; have k5 := Lib.hid ((hb5.block w.heap.size hz5).trans k4.out); have hB6 := Lib.hid (hB5.out.trans (hb5.mono (by omega))); have hz6 := hb5.size; clear hb5) | (go_at_call 75; refine (rwritten_G G D _ hGok'.out hw'.out).mono ?_; rintro e w6 ⟨rfl, hb6⟩; have k6 := Lib.hid ((hb6.block w.heap.size (by omega)).trans k5.out); have hB7 := Lib.hid (hB6.out.trans (hb6.mono (by omega))); clear hb6) | (refine wpList_store_row rfl 42 _ _ rfl w.heap.size _ rfl rfl 42 _ k6.out hi.out hs.out (u8s_one _) ?_))
  try simp only [Exit.inBlock, Exit.then]
  exact bodyPost_ret (results_cell_row rfl _ _ w.heap.size 42 _ _ _ rfl (setRow_heap _ _ _ _ _ _ k6.out) Tryd.underlying42 rfl hi.out) rfl ⟨rfl, below_setRow' hB7.out (Nat.le_refl _) _⟩
end Go.Proofs.YtddelpjlcmaomaaDoor
namespace Go.Proofs.YtddelpjlcmaomaaDoor
open Go.RowKit Go.YtddelpjlcmaomaaDoor
set_option linter.unusedVariables false
theorem rstart_F (F : V8) (hF : firstW = F) (w : World) :
    Calls Tryd.prog 43 #[] w
      fun e w' => e = .returned (.agg #[.int .u32 F.a, .int .u32 F.b, .int .u32 F.c, .int .u32 F.d, .int .u32 F.e, .int .u32 F.f, .int .u32 F.g, .int .u32 F.h, .slice none 0 0, .int .i64 0]) ∧ Below w.heap.size w w' := by
  have hF' := Lib.hid hF
  clear hF
  go_enter Tryd.func43, Tryd.ntmps43
  go_wp2_with (go_at_call 77; refine (rfirst_F F hF'.out _).mono ?_; rintro e w1 ⟨rfl, hb1⟩; have hb1' := Lib.hid hb1; obtain ⟨hc1, hf1⟩ := bcell hb1; have hz1 := hb1.size; clear hb1)
  try simp only [Exit.inBlock, Exit.then]
  have hrow := (hb1'.out.block w.heap.size (by simp)).trans (heap_alloc_new w _)
  have hB := ((Below.refl w.heap.size w).alloc (Nat.le_refl _) _).trans (hb1'.out.mono (by simp))
  rw [set10_world hrow]
  exact bodyPost_ret (results_cell_row rfl _ _ w.heap.size 72 _ _ _ rfl (setRow_heap _ _ _ _ _ _ hrow) Tryd.underlying72 rfl (by kernel_rfl)) rfl ⟨rfl, below_setRow' (g := w.heap.size) hB (Nat.le_refl _) _⟩
set_option maxHeartbeats 400000 in
theorem rvalid_any (v : V8) (r : Value) (rn : Nat) (N : Int) (w : World) (hr : ∃ a c, r = .slice a rn c) :
    Calls Tryd.prog 73 #[.agg #[.int .u32 v.a, .int .u32 v.b, .int .u32 v.c, .int .u32 v.d, .int .u32 v.e, .int .u32 v.f, .int .u32 v.g, .int .u32 v.h, r, .int .i64 N]] w
      fun e w' => e = .returned (.bool (validB N rn)) ∧ Below w.heap.size w w' := by
  obtain ⟨a, c, rfl⟩ := hr
  go_enter Tryd.func73, Tryd.ntmps73
  go_wp2
  all_goals
    go_ret
    refine ⟨ret_bool ?_, (Below.refl _ _).alloc (Nat.le_refl _) _⟩
    rw [Bool.eq_iff_iff]
    simp [validB]
    omega
set_option maxRecDepth 100000 in
set_option maxHeartbeats 400000 in
theorem rsum_ok (D : List Int) (bv : Value) (l : List Int) (w : World) (hl : RdB w bv l) (hlb : Bytes l) (hlen : l.length ≤ 10000) (hD : shaF l = D) :
    Calls Tryd.prog 32 #[bv] w
     fun e w' => e = .returned (.tuple #[.agg (u8s D), .int .i64 0]) ∧ Below w.heap.size w w' := by
  obtain ⟨a, c, rfl⟩ := hl.slice
  have hof := Lib.hid (fun (wi : World) (hb : Below w.heap.size w wi) => rof_any (.slice a l.length c) l D wi (hl.mono hb) hlb (by omega) hD)
  have hDl : D.length = 32 := by rw [← hD]; exact shaF_length l
  have hi := Lib.hid (show (Tryd.prog.info? 42).map (·.size) = some (u8s D).size from by rw [u8s_size, hDl]; kernel_rfl)
  have hs := Lib.hid (show (u8s (zerosB 32)).size = (u8s D).size from by rw [u8s_size, u8s_size, hDl, zerosB_length])
  clear hDl hD hl hlb
  generalize l.length = n at *
  go_enter Tryd.func32, Tryd.ntmps32
  go_wp2_with (first | (go_at_call 68; refine (hof.out _ ((Below.refl _ _).alloc (Nat.le_refl _) _)).mono ?_; rintro e w1 ⟨rfl, hb1⟩; have k1 := Lib.hid (show w1.heap[w.heap.size]? = some (.cells (u8s (zerosB 32)) 42 (0, 0)) from (hb1.block _ (by simp)).trans (heap_alloc_new w _)); have hB1 := Lib.hid (((Below.refl _ _).alloc (Nat.le_refl _) _).trans (hb1.mono (by simp))); clear hb1) | (refine wpList_store_row rfl 42 _ _ rfl w.heap.size (u8s D) rfl rfl 42 _ k1.out hi.out hs.out (u8s_one _) ?_))
  try simp only [Exit.inBlock, Exit.then]
  exact bodyPost_ret (results_row_tmp rfl _ _ w.heap.size 42 _ _ _ rfl (setRow_heap _ _ _ _ _ _ k1.out) Tryd.underlying42 rfl hi.out) rfl ⟨rfl, below_setRow' (g := w.heap.size) hB1.out (Nat.le_refl _) _⟩
theorem rsum_many (a : Option Addr) (n c : Nat) (w : World) (hn : 10000 < n) :
    Calls Tryd.prog 32 #[.slice a n c] w
     fun e w' => e = .returned (.tuple #[.agg (u8s (zerosB 32)), .int .i64 4]) ∧ Below w.heap.size w w' := by
  have k1 := Lib.hid (show (w.alloc (.cells (u8s (zerosB 32)) 42)).heap[w.heap.size]? = some (.cells (u8s (zerosB 32)) 42 (0, 0)) from heap_alloc_new w _)
  go_enter Tryd.func32, Tryd.ntmps32
  go_wp2_with (refine wpList_store_row rfl 42 _ _ rfl w.heap.size (u8s (zerosB 32)) rfl rfl 42 _ k1.out info_id rfl (u8s_one _) ?_)
  try simp only [Exit.inBlock, Exit.then]
  exact bodyPost_ret (results_row_tmp rfl _ _ w.heap.size 42 _ _ _ rfl (setRow_heap _ _ _ _ _ _ k1.out) Tryd.underlying42 rfl info_id) rfl ⟨rfl, below_setRow' (g := w.heap.size) ((Below.refl _ _).alloc (Nat.le_refl _) _) (Nat.le_refl _) _⟩
end Go.Proofs.YtddelpjlcmaomaaDoor

/- DigestOrder, the walk. -/
import Derived.Test.YtibfbgcnnnmdgaaDoorD01m
import Derived.Test.YtibfbgcnnnmdgaaDoorM01d
import Derived.Test.YtibfbgcnnnmdgaaDoorLibF
import Derived.Test.YtibfbgcnnnmdgaaDoorLibE
namespace Go.Proofs.YtibfbgcnnnmdgaaDoor
open Go.RowKit Go.YtibfbgcnnnmdgaaDoor
set_option linter.unusedVariables false
variable {Tg Tf : TypeId}
theorem ith_set_eq (l : List Int) (k : Nat) (x : Int) (h : k < l.length) : ith (l.set k x) k = x := by simp [ith, h]
theorem ith_set_ne (l : List Int) (k j : Nat) (x : Int) (h : j ≠ k) : ith (l.set k x) j = ith l j := by simp [ith, Ne.symm h]
theorem bytes_set (l : List Int) (k : Nat) (x : Int) (h : Bytes l) (hx : 0 ≤ x ∧ x < 256) : Bytes (l.set k x) := by
  intro j
  by_cases hj : j = k
  · subst hj
    by_cases hl : j < l.length
    · rw [ith_set_eq _ _ _ hl]; exact hx
    · simp [ith, List.getElem?_eq_none (show (l.set j x).length ≤ j by rw [List.length_set]; omega)]
  · rw [ith_set_ne _ _ _ _ hj]; exact h j
set_option maxRecDepth 100000 in
set_option maxHeartbeats 8000000 in
theorem order_any (a b c : List Int) (i : Int) (w : World) (ha : a.length = 32) (hb : b.length = 32) (hc : c.length = 32) (h1 : Bytes a) (h2 : Bytes b) (h3 : Bytes c)
    (hgl : w.heap[2]? = some (.cells (u32s constW) Tg (0, 0))) (hgf : w.heap[0]? = some (.cells firstW.cells Tf (0, 0))) (hi0 : -9223372036854775808 ≤ i) (hi1 : i ≤ 9223372036854775807)
    (hal : ∀ wx : World, wx.heap[2]? = some (.cells (u32s constW) Tg (0, 0)) → wx.heap[0]? = some (.cells firstW.cells Tf (0, 0)) → Calls Tryd.prog 15 #[] wx fun e w' => e = .returned (.bool true) ∧ Below wx.heap.size wx w') :
    Calls Tryd.prog 8 #[.agg (u8s a), .agg (u8s b), .agg (u8s c), .int .i64 i] w fun e w' => e = .returned (.bool true) ∧ Below w.heap.size w w' := by
  have hia : (Tryd.prog.info? 25).map (·.size) = some (u8s a).size := by rw [u8s_size, ha]; kernel_rfl
  have hib : (Tryd.prog.info? 25).map (·.size) = some (u8s b).size := by rw [u8s_size, hb]; kernel_rfl
  have hic : (Tryd.prog.info? 25).map (·.size) = some (u8s c).size := by rw [u8s_size, hc]; kernel_rfl
  have hlt : 2 < w.heap.size := (Array.getElem?_eq_some_iff.1 hgl).1
  have hltf : 0 < w.heap.size := (Array.getElem?_eq_some_iff.1 hgf).1
  go_enter Tryd.func8, Tryd.ntmps8
  go_upto_region 1 with fail
  have hr0 : (((w.alloc (Obj.cells (u8s a) 25)).alloc (Obj.cells (u8s b) 25)).alloc (Obj.cells (u8s c) 25)).heap[w.heap.size]? = some (.cells (u8s a) 25 (0, 0)) := (hp1 _ _ _ (by simp; omega)).trans ((hp1 _ _ _ (by simp)).trans (heap_alloc_new w _))
  have hr1 : (((w.alloc (Obj.cells (u8s a) 25)).alloc (Obj.cells (u8s b) 25)).alloc (Obj.cells (u8s c) 25)).heap[w.heap.size + 1]? = some (.cells (u8s b) 25 (0, 0)) := (hp1 _ _ _ (by simp)).trans (hn2 w _ _)
  have hr2 : (((w.alloc (Obj.cells (u8s a) 25)).alloc (Obj.cells (u8s b) 25)).alloc (Obj.cells (u8s c) 25)).heap[w.heap.size + 1 + 1]? = some (.cells (u8s c) 25 (0, 0)) := hn3 w _ _ _
  have hB : Below w.heap.size w (((w.alloc (Obj.cells (u8s a) 25)).alloc (Obj.cells (u8s b) 25)).alloc (Obj.cells (u8s c) 25)) := (((Below.refl _ _).alloc (Nat.le_refl _) _).alloc (by simp) _).alloc (by simp; omega) _
  have hz : w.heap.size + 3 = (((w.alloc (Obj.cells (u8s a) 25)).alloc (Obj.cells (u8s b) 25)).alloc (Obj.cells (u8s c) 25)).heap.size := by simp
  generalize ((w.alloc (Obj.cells (u8s a) 25)).alloc (Obj.cells (u8s b) 25)).alloc (Obj.cells (u8s c) 25) = W at *
  refine wp_region_quiet (C := fun w' => Below W.heap.size W w') (by kernel_rfl) (by kernel_rfl) ((Below.refl _ _).drew) ?_
  have la := fun w' (h : Below W.heap.size W w') => (h.block w.heap.size (by omega)).trans hr0
  have lb := fun w' (h : Below W.heap.size W w') => (h.block (w.heap.size + 1) (by omega)).trans hr1
  have lc := fun w' (h : Below W.heap.size W w') => (h.block (w.heap.size + 1 + 1) (by omega)).trans hr2
  refine wpQuiet_consK (.agg (u8s a)) rfl (quiet_row 25 _ rfl w.heap.size rfl 25 (u8s a) (0, 0) _ la Tryd.underlying25 rfl hia) (fun K hK => ?_); go_simp; refine hK _ ?_; clear hK K
  refine wpQuiet_consK (.agg (u8s b)) rfl (quiet_row 25 _ rfl (w.heap.size + 1) rfl 25 (u8s b) (0, 0) _ lb Tryd.underlying25 rfl hib) (fun K hK => ?_); go_simp; refine hK _ ?_; clear hK K
  refine wpQuiet_consK (.int .i64 (cmpF a b)) rfl (quiet_call2 rfl Tryd.func14 (by kernel_rfl) rfl (.agg (u8s a)) (.agg (u8s b)) (.int .i64 (cmpF a b)) rfl rfl rfl (fun w' h => (cmp_any a b w' ha hb h1 h2).mono fun e w'' ⟨he, hq⟩ => ⟨he, h.trans (hq.mono h.size)⟩)) (fun K hK => ?_); go_simp; refine hK _ ?_; clear hK K
  refine wpQuiet_consK (.agg (u8s b)) rfl (quiet_row 25 _ rfl (w.heap.size + 1) rfl 25 (u8s b) (0, 0) _ lb Tryd.underlying25 rfl hib) (fun K hK => ?_); go_simp; refine hK _ ?_; clear hK K
  refine wpQuiet_consK (.agg (u8s a)) rfl (quiet_row 25 _ rfl w.heap.size rfl 25 (u8s a) (0, 0) _ la Tryd.underlying25 rfl hia) (fun K hK => ?_); go_simp; refine hK _ ?_; clear hK K
  refine wpQuiet_consK (.int .i64 (cmpF b a)) rfl (quiet_call2 rfl Tryd.func14 (by kernel_rfl) rfl (.agg (u8s b)) (.agg (u8s a)) (.int .i64 (cmpF b a)) rfl rfl rfl (fun w' h => (cmp_any b a w' hb ha h2 h1).mono fun e w'' ⟨he, hq⟩ => ⟨he, h.trans (hq.mono h.size)⟩)) (fun K hK => ?_); go_simp; refine hK _ ?_; clear hK K
  refine wpQuiet_consK (.agg (u8s b)) rfl (quiet_row 25 _ rfl (w.heap.size + 1) rfl 25 (u8s b) (0, 0) _ lb Tryd.underlying25 rfl hib) (fun K hK => ?_); go_simp; refine hK _ ?_; clear hK K
  refine wpQuiet_consK (.agg (u8s c)) rfl (quiet_row 25 _ rfl (w.heap.size + 1 + 1) rfl 25 (u8s c) (0, 0) _ lc Tryd.underlying25 rfl hic) (fun K hK => ?_); go_simp; refine hK _ ?_; clear hK K
  refine wpQuiet_consK (.int .i64 (cmpF b c)) rfl (quiet_call2 rfl Tryd.func14 (by kernel_rfl) rfl (.agg (u8s b)) (.agg (u8s c)) (.int .i64 (cmpF b c)) rfl rfl rfl (fun w' h => (cmp_any b c w' hb hc h2 h3).mono fun e w'' ⟨he, hq⟩ => ⟨he, h.trans (hq.mono h.size)⟩)) (fun K hK => ?_); go_simp; refine hK _ ?_; clear hK K
  refine wpQuiet_consK (.agg (u8s a)) rfl (quiet_row 25 _ rfl w.heap.size rfl 25 (u8s a) (0, 0) _ la Tryd.underlying25 rfl hia) (fun K hK => ?_); go_simp; refine hK _ ?_; clear hK K
  refine wpQuiet_consK (.agg (u8s c)) rfl (quiet_row 25 _ rfl (w.heap.size + 1 + 1) rfl 25 (u8s c) (0, 0) _ lc Tryd.underlying25 rfl hic) (fun K hK => ?_); go_simp; refine hK _ ?_; clear hK K
  refine wpQuiet_consK (.int .i64 (cmpF a c)) rfl (quiet_call2 rfl Tryd.func14 (by kernel_rfl) rfl (.agg (u8s a)) (.agg (u8s c)) (.int .i64 (cmpF a c)) rfl rfl rfl (fun w' h => (cmp_any a c w' ha hc h1 h3).mono fun e w'' ⟨he, hq⟩ => ⟨he, h.trans (hq.mono h.size)⟩)) (fun K hK => ?_); go_simp; refine hK _ ?_; clear hK K
  refine wpQuiet_consK (.int .i64 (cmpF a b)) rfl (fun w' h => ⟨rfl, rfl⟩) (fun K hK => ?_); go_simp; refine hK _ ?_; clear hK K
  refine wpQuiet_consK (.int .i64 (cmpF b a)) rfl (fun w' h => ⟨rfl, rfl⟩) (fun K hK => ?_); go_simp; refine hK _ ?_; clear hK K
  refine wpQuiet_consK (.int .i64 (cmpF b c)) rfl (fun w' h => ⟨rfl, rfl⟩) (fun K hK => ?_); go_simp; refine hK _ ?_; clear hK K
  refine wpQuiet_consK (.int .i64 (cmpF a c)) rfl (fun w' h => ⟨rfl, rfl⟩) (fun K hK => ?_); go_simp; refine hK _ ?_; clear hK K
  refine wpQuiet_nil ?_
  intro w1 hw1
  clear la lb lc
  have hneg : IntKind.i64.wrap (-(cmpF b a)) = cmpF a b := by
    rw [cmp_anti a b]
    rcases cmp_range a b with h | h | h <;> rw [h] <;> decide
  have heq0 := fun (wz : World) => run_equalArr (P := Tryd.prog) wz 9998 25 5 32 Tryd.underlying25 Tryd.underlying5 (by kernel_rfl) a b ha hb
  have hzero : (cmpF a b == 0) = decide (a = b) := by
    rw [Bool.eq_iff_iff, beq_iff_eq, decide_eq_true_iff]
    exact ⟨cmp_zero a b, fun h => by rw [h]; exact cmp_self b⟩
  have htr : 0 < cmpF a b ∨ 0 < cmpF b c ∨ cmpF a c ≤ 0 := by
    rcases Int.lt_or_le 0 (cmpF a b) with h | h
    · exact .inl h
    · rcases Int.lt_or_le 0 (cmpF b c) with g | g
      · exact .inr (.inl g)
      · exact .inr (.inr (cmp_trans a b c h g))
  generalize decide (a = b) = eq at heq0 hzero
  generalize cmpF a b = x at *
  generalize cmpF b a = y at *
  generalize cmpF b c = z at *
  generalize cmpF a c = v at *
  have heq : ∀ wz, (Op.equalIn 10000 25 (.agg (u8s a)) (.agg (u8s b))).run Tryd.prog wz = .ok eq wz := heq0
  have k0 := Lib.hid ((hw1.block w.heap.size (by omega)).trans hr0)
  have k1 := Lib.hid ((hw1.block (w.heap.size + 1) (by omega)).trans hr1)
  have hBw := hB.trans (hw1.mono (by omega))
  have hB1 := Lib.hid hBw
  have hz1 : w.heap.size + 3 ≤ w1.heap.size := by have := hw1.size; omega
  have hg1 := (hBw.block _ hlt).trans hgl
  have hf1 := (hBw.block _ hltf).trans hgf
  have hal1 := Lib.hid (hal w1 hg1 hf1)
  have hia' := Lib.hid hia; have hib' := Lib.hid hib; have ha' := Lib.hid ha; have h1' := Lib.hid h1; have hal' := Lib.hid hal; have hg1' := Lib.hid hg1; have hf1' := Lib.hid hf1
  have hlen : 2 < w.heap.size := hlt
  clear hr0 hr1 hr2 hB hBw hz heq0 hw1 W hia hib hic hal hgl hgf ha hb hc h1 h2 h3 hg1 hf1
  simp only [Exit.then]
  go_step
  go_step
  go_cut [] (fun wz => w1 = wz)
  case first =>
    clear hal1 hg1' hf1' hal'
    by_cases hs1 : x ≤ 0
    · by_cases hs2 : z ≤ 0
      · have hs3 : ¬ 0 < v := by omega
        clear htr
        go_wp2_with (first | (refine wpList_load_row_g rfl 25 _ rfl w.heap.size rfl 25 (u8s a) (0, 0) _ k0.out Tryd.underlying25 rfl hia'.out ?_) | (refine wpList_load_row_g rfl 25 _ rfl (w.heap.size + 1) rfl 25 (u8s b) (0, 0) _ k1.out Tryd.underlying25 rfl hib'.out ?_))
        go_meet
        exact rfl
      · clear htr
        go_wp2_with (first | (refine wpList_load_row_g rfl 25 _ rfl w.heap.size rfl 25 (u8s a) (0, 0) _ k0.out Tryd.underlying25 rfl hia'.out ?_) | (refine wpList_load_row_g rfl 25 _ rfl (w.heap.size + 1) rfl 25 (u8s b) (0, 0) _ k1.out Tryd.underlying25 rfl hib'.out ?_))
        go_meet
        exact rfl
    · clear htr
      go_wp2_with (first | (refine wpList_load_row_g rfl 25 _ rfl w.heap.size rfl 25 (u8s a) (0, 0) _ k0.out Tryd.underlying25 rfl hia'.out ?_) | (refine wpList_load_row_g rfl 25 _ rfl (w.heap.size + 1) rfl 25 (u8s b) (0, 0) _ k1.out Tryd.underlying25 rfl hib'.out ?_))
      go_meet
      exact rfl
  case rest =>
    obtain rfl := hcut
    clear htr hzero hneg heq
    have k0' := k0
    by_cases hlo : i < 0
    · clear hi0 hi1
      go_wp2_with (go_at_call 15; refine (hal1.out).mono ?_; rintro e w2 ⟨rfl, hb2⟩; have hb2 := Lib.hid (hB1.out.trans (hb2.mono (by omega))))
      go_ret
      exact ⟨rfl, hb2.out⟩
    by_cases hhi : 31 < i
    · clear hi0 hi1
      go_wp2_with (go_at_call 15; refine (hal1.out).mono ?_; rintro e w2 ⟨rfl, hb2⟩; have hb2 := Lib.hid (hB1.out.trans (hb2.mono (by omega))))
      go_ret
      exact ⟨rfl, hb2.out⟩
    obtain ⟨k, rfl⟩ := Int.eq_ofNat_of_zero_le (Int.not_lt.1 hlo)
    have hk : k ≤ 31 := by omega
    have hs32 := Lib.hid (show 32 = (u8s a).size from by rw [u8s_size, ha'.out])
    have hca : w1.cell? ⟨w.heap.size, k, none⟩ = some (.int .u8 (ith a k)) := by
      rw [cell_of_row _ _ _ _ _ _ k0.out]; exact u8s_get _ _ (by rw [ha'.out]; omega)
    have htb := h1'.out k
    generalize hte : ith a k = t at hca htb
    have hte' := Lib.hid hte
    clear hi0 hi1 hte hlo hhi
    by_cases h255 : t = 255
    · subst h255
      go_wp2_with (go_at_call 15; refine (hal1.out).mono ?_; rintro e w2 ⟨rfl, hb2⟩; have hb2 := Lib.hid (hB1.out.trans (hb2.mono (by omega))))
      go_ret
      exact ⟨rfl, hb2.out⟩
    have hne : (t == 255) = false := by rw [beq_eq_false_iff_ne]; exact h255
    have hu : IntKind.u8.wrap (t + 1) = t + 1 := by simp [IntKind.wrap, IntKind.bits, IntKind.signed]; omega
    have hu2 : (t + 1) % 256 = t + 1 := by omega
    go_wp2_with (first | (refine wpList_load_row_g rfl 25 _ rfl w.heap.size rfl 25 (u8s a) (0, 0) _ k0.out Tryd.underlying25 rfl hia'.out ?_) | (refine storeNew w1 rfl 25 _ _ rfl (u8s a) 25 rfl rfl hia'.out (Eq.trans (by kernel_rfl) hs32.out) (u8s_one _) ?_; intro wx hr hb2; refine Stop.go' _ ?_))
    have hzx : w1.heap.size < wx.heap.size := (Array.getElem?_eq_some_iff.1 hr).1
    have hBx := hB1.out.trans (hb2.mono (by omega))
    have kA := Lib.hid ((hb2.block w.heap.size (by omega)).trans k0.out)
    have hgx := Lib.hid ((hb2.block 2 (by omega)).trans hg1'.out)
    have hfx := Lib.hid ((hb2.block 0 (by omega)).trans hf1'.out)
    have hBx' := Lib.hid hBx; have hr' := Lib.hid hr
    have hcell : wx.cell? ⟨w1.heap.size, k, none⟩ = some (.int .u8 t) := by
      rw [cell_of_row _ _ _ _ _ _ hr, ← hte'.out]; exact u8s_get _ _ (by rw [ha'.out]; omega)
    have hfr : wx.frozen? ⟨w1.heap.size, k, none⟩ = false := frozen_of_row _ _ _ _ _ hr
    generalize hgg : w1.heap.size = g at *
    clear hb2 hBx hr k1 hal1
    refine Stop.go ?_
    go_wp2
    go_loopw [14] (fun s wr => ∃ j : Nat, k + 1 ≤ j ∧ j ≤ 32 ∧ s = .int .i64 j ∧ Below g wx wr ∧ ∃ L, wr.heap[g]? = some (.cells (u8s L) 25 (0, 0)) ∧ L.length = 32 ∧ Bytes L ∧ (∀ m, m < k → ith L m = ith a m) ∧ ith L k = t + 1) (fun s _ => 32 - (intOf s).toNat)
    case atStart =>
      have hrow := setCell_row hr'.out k (.int .u8 (t + 1))
      rw [u8s_set] at hrow
      exact ⟨k + 1, by omega, by omega, by go_num, (Below.refl g wx).setCell (p := ⟨g, k, none⟩) (Nat.le_refl g) _, a.set k (t + 1), hrow, by rw [List.length_set]; exact ha'.out, bytes_set _ _ _ h1'.out ⟨by omega, by omega⟩, fun m hm => ith_set_ne _ _ _ _ (by omega), ith_set_eq _ _ _ (by rw [ha'.out]; omega)⟩
    case round =>
      obtain ⟨j, hj1, hj2, rfl, hbr, L, hL, hLl, hLb, hLm, hLk⟩ := hrel
      by_cases hlt : j < 32
      · have hc : ∃ u, wr.cell? ⟨g, j, none⟩ = some (.int .u8 u) := ⟨_, by rw [cell_of_row _ _ _ _ _ _ hL]; exact u8s_get _ j (by omega)⟩
        obtain ⟨u, hc⟩ := hc
        have hf : wr.frozen? ⟨g, j, none⟩ = false := frozen_of_row _ _ _ _ _ hL
        have hL' := Lib.hid hL; have hLb' := Lib.hid hLb; have hLm' := Lib.hid hLm; have hbr' := Lib.hid hbr
        clear hL hLb hLm hbr
        go_wp2
        go_roundw
        case rel =>
          have hrow := setCell_row hL'.out j (.int .u8 0)
          rw [u8s_set] at hrow
          exact ⟨j + 1, by omega, by omega, by go_num, hbr'.out.setCell (p := ⟨g, j, none⟩) (Nat.le_refl g) _, L.set j 0, hrow, by rw [List.length_set]; exact hLl, bytes_set _ _ _ hLb'.out ⟨by omega, by omega⟩, fun m hm => (ith_set_ne _ _ _ _ (by omega)).trans (hLm'.out m hm), (ith_set_ne _ _ _ _ (by omega)).trans hLk⟩
        case measure => simp [intOf]; omega
      · have hcmp := cmp_less k a L (by rw [ha'.out]; omega) (by omega) hLm (by rw [hLk, hte'.out]; omega)
        have kA' := Lib.hid ((hbr.block w.heap.size (by omega)).trans kA.out)
        have hiL := Lib.hid (show (Tryd.prog.info? 25).map (·.size) = some (u8s L).size from (by rw [u8s_size, hLl]; kernel_rfl))
        have hC0 := cmp_any a L wr ha'.out hLl h1'.out hLb
        rw [hcmp] at hC0
        have hC := Lib.hid hC0
        have hgr := (hbr.block 2 (by omega)).trans hgx.out
        have hfr2 := (hbr.block 0 (by omega)).trans hfx.out
        have hA := Lib.hid (fun wy (hy : Below wr.heap.size wr wy) => hal'.out wy ((hy.block 2 (by have := hbr.size; omega)).trans hgr) ((hy.block 0 (by have := hbr.size; omega)).trans hfr2))
        have hBr := Lib.hid (hBx'.out.trans (hbr.mono (by omega)))
        have hzr : w.heap.size ≤ wr.heap.size := by have := hbr.size; omega
        have hL' := Lib.hid hL
        clear hLm hcmp hC0 hgr hfr2 hL hbr hLb
        go_wp2_with (first | (refine wpList_load_row_g rfl 25 _ rfl w.heap.size rfl 25 (u8s a) (0, 0) _ kA'.out Tryd.underlying25 rfl hia'.out ?_) | (refine wpList_load_row_g rfl 25 _ rfl g rfl 25 (u8s L) (0, 0) _ hL'.out Tryd.underlying25 rfl hiL.out ?_) | (go_at_call 14; refine (hC.out).mono ?_; rintro e w2 ⟨rfl, hb2⟩; have hb2' := Lib.hid hb2; have hA2 := Lib.hid (hA.out w2 hb2); have hz2 : w.heap.size ≤ w2.heap.size := Nat.le_trans hzr hb2.size; clear hb2) | (go_at_call 15; refine (hA2.out).mono ?_; rintro e w3 ⟨rfl, hb3⟩; have hb3' := Lib.hid hb3; clear hb3))
        go_ret
        exact ⟨rfl, hBr.out.trans ((hb2'.out.mono hzr).trans (hb3'.out.mono hz2))⟩
end Go.Proofs.YtibfbgcnnnmdgaaDoor

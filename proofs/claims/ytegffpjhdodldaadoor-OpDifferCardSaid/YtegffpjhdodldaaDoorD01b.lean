/- Contract of digest.spread: the 64 words of a block. -/
import Derived.Test.YtegffpjhdodldaaDoorD01a
import Derived.StillTailTactics
namespace Go.Proofs.YtegffpjhdodldaaDoor
open Go.RowKit Go.YtegffpjhdodldaaDoor
set_option linter.unusedVariables false
def padW (l : List Int) : List Int := l ++ List.replicate (64 - l.length) 0
theorem padW_length (l : List Int) (h : l.length ≤ 64) : (padW l).length = 64 := by simp [padW]; omega
theorem padW_ith (l : List Int) (i : Nat) (h : i < l.length) : ith (padW l) i = ith l i := by unfold padW; rw [ith_append, if_pos h]
theorem padW_set (l : List Int) (x : Int) (h : l.length < 64) : (padW l).set l.length x = padW (l ++ [x]) := by
  unfold padW
  rw [List.set_append_right _ _ (Nat.le_refl _), Nat.sub_self]
  obtain ⟨m, hm⟩ : ∃ m, 64 - l.length = m + 1 := ⟨64 - l.length - 1, by omega⟩
  rw [hm, List.replicate_succ, List.set_cons_zero, List.append_assoc]
  congr 2
  simp; omega
set_option maxRecDepth 100000 in
set_option maxHeartbeats 1000000 in
theorem spread_any (b o n c : Nat) (l : List Int) (w : World) (hn : 64 ≤ n) (hnc : n ≤ c) (hcm : c ≤ maxLen) (hl : Bytes l)
    (hcell : ∀ i, i < 64 → w.cell? ⟨b, o + i, none⟩ = some (.int .u8 (ith l i))) :
    Calls Tryd.prog 84 #[.slice (some ⟨b, o, none⟩) n c] w fun e w' => e = .returned (.agg (u32s (spreadF l))) ∧ Below w.heap.size w w' := by
  have hbl : b < w.heap.size := World.block_lt_of_cell? _ _ (hcell 0 (by omega))
  unfold maxLen at hcm
  have hcell' := Lib.hid hcell; clear hcell
  have hl' := Lib.hid hl; clear hl
  go_enter Tryd.func84, Tryd.ntmps84
  go_wp2
  go_loopw [4, 10] (fun _ i wr => ∃ k : Nat, k ≤ 16 ∧ i = .int .i64 k ∧ Below w.heap.size w wr ∧ wr.heap[w.heap.size]? = some (.cells (u32s (padW [])) 117 (0, 0)) ∧ wr.heap[w.heap.size + 1]? = some (.cells (u32s (padW (wordsOf l k))) 117 (0, 0))) (fun _ i _ => 16 - (intOf i).toNat)
  case atStart => exact ⟨0, by omega, rfl, ((Below.refl _ _).alloc (Nat.le_refl _) _).alloc (by simp) _, (hp1 _ _ _ (by simp)).trans (heap_alloc_new w _), hn2 w _ _⟩
  case round =>
    obtain ⟨k, hk, rfl, hb, h0, h1⟩ := hrel
    by_cases hlt : k < 16
    · have hlen := wordsOf_length l k
      have hc : ∃ u, wr.cell? ⟨w.heap.size + 1, k, none⟩ = some (.int .u32 u) := ⟨_, by rw [cell_of_row _ _ _ _ _ _ h1]; exact u32s_get _ k (by rw [padW_length _ (by omega)]; omega)⟩
      obtain ⟨u, hc⟩ := hc
      have hlen' := Lib.hid hlen
      have hf : wr.frozen? ⟨w.heap.size + 1, k, none⟩ = false := frozen_of_row _ _ _ _ _ h1
      have hq : ∀ j, j < 4 → wr.cell? ⟨b, o + 4 * k + j, none⟩ = some (.int .u8 (ith l (4 * k + j))) := fun j hj => by
        rw [hb.cell (p := ⟨b, o + 4 * k + j, none⟩) hbl, Nat.add_assoc]; exact hcell'.out _ (by omega)
      have hw4 := wordOf_any b (o + 4 * k) (n - 4 * k) (c - 4 * k) wr _ _ _ _ (by omega) (hl'.out _) (hl'.out _) (hl'.out _) (hl'.out _) (hq 0 (by omega)) (hq 1 (by omega)) (hq 2 (by omega)) (hq 3 (by omega))
      have hw4' := Lib.hid hw4
      have h0' := Lib.hid h0; have h1' := Lib.hid h1
      clear hw4 hq h1 h0 hlen
      go_wp2_with (go_at_call 96; refine (hw4'.out).mono ?_; rintro e w' ⟨rfl, hd⟩; have hc := (hd.cell _).trans hc; have hf := (hd.frozen _).trans hf)
      go_roundw
      case rel =>
        refine ⟨k + 1, by omega, by go_num, (hd.below hb).setCell (by simp) _, ?_, ?_⟩
        · rw [setCell_rows _ _ _ _ (by omega), hd.heap]; exact h0'.out
        · have hh := setCell_row ((congrArg (·[w.heap.size + 1]?) hd.heap).trans h1'.out) k (.int .u32 (word4 (ith l (4 * k)) (ith l (4 * k + 1)) (ith l (4 * k + 2)) (ith l (4 * k + 3))))
          rw [u32s_set] at hh
          have hlen := hlen'.out
          rw [hh, wordsOf, ← padW_set _ _ (by omega), hlen]
      case measure => simp [intOf]; omega
    · have hk16 : k = 16 := by omega
      subst hk16
      generalize hm : wordsOf l 16 = m at *
      have hml : m.length = 16 := by rw [← hm]; exact wordsOf_length l 16
      have hm32 : All32 m := by rw [← hm]; exact wordsOf_in l hl'.out 16
      have hml' := Lib.hid hml; have hm' := Lib.hid hm; clear hml hm
      have h0' := Lib.hid h0; have h1' := Lib.hid h1; clear h0 h1
      have hm32' := Lib.hid hm32; clear hm32
      rw [show (((16 : Nat) : Int)) = 16 from rfl]
      go_wp2
      go_loopw [5, 6, 7, 8, 9] (fun i _ _ _ _ wr => ∃ k : Nat, k ≤ 48 ∧ i = .int .i64 (k + 16 : Nat) ∧ Below w.heap.size w wr ∧ wr.heap[w.heap.size]? = some (.cells (u32s (padW [])) 117 (0, 0)) ∧ wr.heap[w.heap.size + 1]? = some (.cells (u32s (padW (extW m k))) 117 (0, 0))) (fun i _ _ _ _ _ => 64 - (intOf i).toNat)
      case atStart => exact ⟨0, by omega, rfl, hb, h0'.out, h1'.out⟩
      case round =>
        clear h0' h1' hb
        obtain ⟨k, hk, rfl, hb, h0, h1⟩ := hrel
        have hml := hml'.out
        have hm32 := hm32'.out
        by_cases hlt : k < 48
        · have hlen := extW_length m k
          generalize hx : extW m k = x at *
          have hx32 : All32 x := by rw [← hx]; exact extW_in m hm32 k
          have hxl : x.length = k + 16 := by omega
          have hcg : ∀ j, j < 16 → wr.cell? ⟨w.heap.size + 1, k + j, none⟩ = some (.int .u32 (ith x (k + j))) := fun j hj => by
            rw [cell_of_row _ _ _ _ _ _ h1, u32s_get _ _ (by rw [padW_length _ (by omega)]; omega), padW_ith _ _ (by omega)]
          have c0 := hcg 0 (by omega); have c1 := hcg 1 (by omega); have c9 := hcg 9 (by omega); have c14 := hcg 14 (by omega)
          obtain ⟨u, hc⟩ : ∃ u, wr.cell? ⟨w.heap.size + 1, k + 16, none⟩ = some (.int .u32 u) := ⟨_, by rw [cell_of_row _ _ _ _ _ _ h1]; exact u32s_get _ _ (by rw [padW_length _ (by omega)]; omega)⟩
          have hf : wr.frozen? ⟨w.heap.size + 1, k + 16, none⟩ = false := frozen_of_row _ _ _ _ _ h1
          have b1 := hx32 (k + 1); have b14 := hx32 (k + 14)
          obtain ⟨b11, b12⟩ := b1; obtain ⟨b141, b142⟩ := b14
          have hh := setCell_row h1 (k + 16) (.int .u32 ((ith x k + ith x (k + 9) + sig0 (ith x (k + 1)) + sig1 (ith x (k + 14))) % 4294967296))
          have hn : nextW x = (ith x k + ith x (k + 9) + sig0 (ith x (k + 1)) + sig1 (ith x (k + 14))) % 4294967296 := by
            unfold nextW; rw [hxl, show k + 16 - 16 = k by omega, show k + 16 - 7 = k + 9 by omega, show k + 16 - 15 = k + 1 by omega, show k + 16 - 2 = k + 14 by omega]
          rw [← hn, u32s_set, show k + 16 = x.length from hxl.symm, padW_set _ _ (by omega), show x ++ [nextW x] = extW m (k + 1) by rw [extW, hx]] at hh
          rw [show x.length = k + 16 from hxl, hn] at hh
          have hh' := Lib.hid hh; have h0' := Lib.hid h0
          clear hh h0 h1 hcg hn hlen hml hm32 hx32 hxl hx
          simp only [Nat.add_zero] at c0
          go_wp2
          go_quiet (fail)
          go_wp2_with (go_at_call 95; refine (turn_any _ _ _ (by assumption) (by assumption) (by decide) (by decide)).mono ?_; rintro e w' ⟨rfl, rfl⟩)
          go_region
          go_wp2
          have hB := Below.setCell hb (p := (⟨w.heap.size + 1, k + 16, none⟩ : Addr)) (by simp) (.int .u32 ((ith x k + ith x (k + 9) + sig0 (ith x (k + 1)) + sig1 (ith x (k + 14))) % 4294967296))
          have hB0 := (setCell_rows (w := wr) (w.heap.size + 1) (k + 16) (.int .u32 ((ith x k + ith x (k + 9) + sig0 (ith x (k + 1)) + sig1 (ith x (k + 14))) % 4294967296)) w.heap.size (by omega)).trans h0'.out
          go_roundw
          case rel => exact ⟨k + 1, by omega, by go_num, ⟨hB.os, hB.tape, hB.output, hB.size, hB.block⟩, hB0, hh'.out⟩
          case measure => simp [intOf]; omega
        · have hk48 : k = 48 := by omega
          subst hk48
          have hfin : extW m 48 = spreadF l := by rw [← hm'.out]; rfl
          have hpad : padW (spreadF l) = spreadF l := by
            have := spreadF_length l
            unfold padW; rw [this]; simp
          rw [hfin, hpad] at h1
          clear hfin hpad hml hm32
          have hsz : (u32s (spreadF l)).size = 64 := by rw [u32s_size]; exact spreadF_length l
          generalize hy : spreadF l = y at *
          have hy' := Lib.hid hy; clear hy
          have h0' := Lib.hid h0; have h1' := Lib.hid h1; clear h0 h1
          have hi : (Tryd.prog.info? 117).map (·.size) = some (u32s y).size := by rw [hsz]; kernel_rfl
          have hp64 : (u32s (padW [])).size = (u32s y).size := by rw [hsz, u32s_size, padW_length _ (by simp)]
          have hi' := Lib.hid hi; have hp' := Lib.hid hp64; clear hsz hi hp64
          go_wp2_with (first | (refine wpList_load_row rfl 117 _ rfl (w.heap.size + 1) rfl 117 _ _ _ h1'.out Tryd.underlying117 rfl hi'.out ?_) | (refine wpList_store_row rfl 117 _ _ rfl w.heap.size _ rfl rfl 117 _ h0'.out hi'.out hp'.out (u32s_one _) ?_))
          try simp only [Exit.inBlock, Exit.then]
          refine bodyPost_ret (v := .agg (u32s y)) (results_cell_row rfl _ _ w.heap.size 117 _ _ _ rfl (setRow_heap _ _ _ _ _ _ h0'.out) Tryd.underlying117 rfl hi'.out) rfl ⟨by rw [hy'.out], below_setRow' hb (by omega) _⟩
end Go.Proofs.YtegffpjhdodldaaDoor

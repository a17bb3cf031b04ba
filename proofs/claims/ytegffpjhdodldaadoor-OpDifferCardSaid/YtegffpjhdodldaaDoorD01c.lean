/- Contracts of digest.putWord, digest.valid and digest.Start. Contract of digest.grindAll: whole blocks ground, and the bytes that are left. -/
import Derived.Test.YtegffpjhdodldaaDoorD01a
import Derived.Test.YtegffpjhdodldaaDoorLib
import Derived.Test.YtegffpjhdodldaaDoorD01b
namespace Go.Proofs.YtegffpjhdodldaaDoor
open Go.RowKit Go.YtegffpjhdodldaaDoor
set_option linter.unusedVariables false
variable {Tg Tf : TypeId}
def put4 (cs : List Int) (o : Nat) (x : Int) : List Int := (((cs.set o (x / 16777216)).set (o + 1) (x / 65536 % 256)).set (o + 2) (x / 256 % 256)).set (o + 3) (x % 256)
theorem put4_world (g o : Nat) (cs : List Int) (T : TypeId) (w : World) {x0 x1 x2 x3 : Int} (hg : w.heap[g]? = some (.cells (u8s cs) T (0, 0))) :
    (((w.setCell ⟨g, o, none⟩ (.int .u8 x0)).setCell ⟨g, o + 1, none⟩ (.int .u8 x1)).setCell ⟨g, o + 2, none⟩ (.int .u8 x2)).setCell ⟨g, o + 3, none⟩ (.int .u8 x3) = w.setRow g (u8s ((((cs.set o x0).set (o + 1) x1).set (o + 2) x2).set (o + 3) x3)) := by
  have h := fun l => setRow_heap w g (u8s cs) (u8s l) T (0, 0) hg
  rw [setCell_eq hg, u8s_set, setCell_eq (h _), u8s_set, setRow2 hg, setCell_eq (h _), u8s_set, setRow2 hg, setCell_eq (h _), u8s_set, setRow2 hg]
set_option maxHeartbeats 400000 in
theorem putWord_any (g o n c : Nat) (cs : List Int) (T : TypeId) (x : Int) (w : World) (hn : 4 ≤ n) (hx : In32 x) (hg : w.heap[g]? = some (.cells (u8s cs) T (0, 0))) (ho : o + 4 ≤ cs.length) :
    Calls Tryd.prog 64 #[.slice (some ⟨g, o, none⟩) n c, .int .u32 x] w fun e w' => e = .returned (.tuple #[]) ∧ w' = w.setRow g (u8s (put4 cs o x)) := by
  obtain ⟨hx, hx2⟩ := hx
  have hc : ∀ j, j < 4 → w.cell? ⟨g, o + j, none⟩ = some (.int .u8 (ith cs (o + j))) := fun j hj => by
    rw [cell_of_row _ _ _ _ _ _ hg]; exact u8s_get _ _ (by omega)
  have hf : ∀ j, w.frozen? ⟨g, o + j, none⟩ = false := fun j => frozen_of_row _ _ _ _ _ hg
  have c0 := hc 0 (by omega); have c1 := hc 1 (by omega); have c2 := hc 2 (by omega); have c3 := hc 3 (by omega)
  have f0 := hf 0; have f1 := hf 1; have f2 := hf 2; have f3 := hf 3
  simp only [Nat.add_zero] at c0 f0
  have hg' := Lib.hid hg
  clear hc hf hg
  go_enter Tryd.func64, Tryd.ntmps64
  go_wp2
  go_end0
  exact ⟨rfl, by unfold put4; exact put4_world _ _ _ _ _ hg'.out⟩
def validB (N : Int) (rn : Nat) : Bool := decide (0 ≤ N ∧ N ≤ 200000 ∧ (rn : Int) = N % 64)
set_option maxHeartbeats 400000 in
theorem valid_any (v : V8) (r : Value) (rn : Nat) (N : Int) (w : World) (hr : ∃ a c, r = .slice a rn c) :
    Calls Tryd.prog 38 #[.agg #[.int .u32 v.a, .int .u32 v.b, .int .u32 v.c, .int .u32 v.d, .int .u32 v.e, .int .u32 v.f, .int .u32 v.g, .int .u32 v.h, r, .int .i64 N]] w
      fun e w' => e = .returned (.bool (validB N rn)) ∧ Below w.heap.size w w' := by
  obtain ⟨a, c, rfl⟩ := hr
  go_enter Tryd.func38, Tryd.ntmps38
  go_wp2
  all_goals
    go_ret
    refine ⟨ret_bool ?_, (Below.refl _ _).alloc (Nat.le_refl _) _⟩
    rw [Bool.eq_iff_iff]
    simp [validB]
    omega
set_option maxHeartbeats 400000 in
theorem start_any (w : World) (hg : w.heap[0]? = some (.cells firstW.cells Tf (0, 0))) :
    Calls Tryd.prog 36 #[] w
      fun e w' => e = .returned (.agg #[.int .u32 firstW.a, .int .u32 firstW.b, .int .u32 firstW.c, .int .u32 firstW.d, .int .u32 firstW.e, .int .u32 firstW.f, .int .u32 firstW.g, .int .u32 firstW.h, .slice none 0 0, .int .i64 0]) ∧ Below w.heap.size w w' := by
  have hlt : 0 < w.heap.size := (Array.getElem?_eq_some_iff.1 hg).1
  have hg2 : ∀ o1, (w.alloc o1).heap[0]? = some (.cells firstW.cells Tf (0, 0)) := fun o1 => (hp1 w o1 _ hlt).trans hg
  simp only [firstW, V8.cells] at hg2 ⊢
  have hg' := Lib.hid hg2; clear hg hg2
  go_enter Tryd.func36, Tryd.ntmps36
  go_wp2_with (refine wpList_load_row rfl 49 _ rfl 0 rfl Tf _ _ _ (hg'.out _) Tryd.underlying49 rfl (by kernel_rfl) ?_)
  try simp only [Exit.inBlock, Exit.then]
  exact bodyPost_ret (results_cell_row rfl _ _ w.heap.size 51 _ _ _ rfl (heap_alloc_new w _) Tryd.underlying51 rfl (by kernel_rfl)) rfl ⟨rfl, (Below.refl _ _).alloc (Nat.le_refl _) _⟩
end Go.Proofs.YtegffpjhdodldaaDoor
namespace Go.Proofs.YtegffpjhdodldaaDoor
open Go.RowKit Go.YtegffpjhdodldaaDoor
set_option linter.unusedVariables false
variable {Tg Tf : TypeId}
theorem grind_lit (v G : V8) (bl : List Int) (w : World) (hv : v.ok) (hG : groundF v bl = G) (hg : w.heap[1]? = some (.cells (u32s constW) Tg (0, 0))) :
    Calls Tryd.prog 83 #[.agg #[.int .u32 v.a, .int .u32 v.b, .int .u32 v.c, .int .u32 v.d, .int .u32 v.e, .int .u32 v.f, .int .u32 v.g, .int .u32 v.h], .agg (u32s (spreadF bl))] w fun e w' => e = .returned (.agg #[.int .u32 G.a, .int .u32 G.b, .int .u32 G.c, .int .u32 G.d, .int .u32 G.e, .int .u32 G.f, .int .u32 G.g, .int .u32 G.h]) ∧ Below w.heap.size w w' := by
  subst hG
  exact grind_any (Tg := Tg) v w hv (spreadF bl) (spreadF_length _) hg
set_option maxRecDepth 100000 in
set_option maxHeartbeats 1000000 in
theorem grindAll_some (v : V8) (b o c : Nat) (l : List Int) (w : World) (hv : v.ok) (hlc : l.length ≤ c) (hcm : c ≤ maxLen) (hl : Bytes l) (hbw : b < w.heap.size)
   (hcell : ∀ i, i < l.length → w.cell? ⟨b, o + i, none⟩ = some (.int .u8 (ith l i)))
   (hg : w.heap[1]? = some (.cells (u32s constW) Tg (0, 0))) :
    Calls Tryd.prog 62 #[.agg #[.int .u32 v.a, .int .u32 v.b, .int .u32 v.c, .int .u32 v.d, .int .u32 v.e, .int .u32 v.f, .int .u32 v.g, .int .u32 v.h], .slice (some ⟨b, o, none⟩) l.length c] w
     fun e w' => ∃ r, e = .returned (.tuple #[.agg (blocksF v l).cells, r]) ∧ RdB w' r (restF l) ∧ Below w.heap.size w w' := by
  have hcell' := Lib.hid hcell; have hg' := Lib.hid hg; have hl' := Lib.hid hl
  clear hcell hg hl
  have hgl : 1 < w.heap.size := (Array.getElem?_eq_some_iff.1 hg'.out).1
  unfold maxLen at hcm
  generalize hn : l.length = n at *
  have hn' := Lib.hid hn; clear hn
  generalize hR : (fun k => grindN v l k) = R
  have hRok : ∀ k, (R k).ok := by subst hR; exact fun k => grindN_ok v l k hv
  have hR0 : R 0 = v := by subst hR; rfl
  have hRs : ∀ k, R (k + 1) = groundF (R k) (l.drop (64 * k)) := by subst hR; intro k; rfl
  have hRok' := Lib.hid hRok; have hR0' := Lib.hid hR0; have hRs' := Lib.hid hRs; have hR' := Lib.hid hR
  clear hRok hR0 hRs hR
  go_enter Tryd.func62, Tryd.ntmps62
  go_wp2
  go_loopw [1] (fun s wr => ∃ k o' : Nat, 64 * k ≤ n ∧ s = .slice (some ⟨b, o', none⟩) (n - 64 * k) (c - 64 * k) ∧ (0 < c - 64 * k → o' = o + 64 * k) ∧ Below w.heap.size w wr ∧ wr.heap[w.heap.size]? = some (.cells (u32s (R k).list) 49 (0, 0)) ∧ wr.heap[w.heap.size + 1]? = some (.cells (u32s [0, 0, 0, 0, 0, 0, 0, 0]) 49 (0, 0))) (fun s _ => lenS s)
  case atStart =>
    refine ⟨0, o, by omega, rfl, fun _ => rfl, ((Below.refl _ _).alloc (Nat.le_refl _) _).alloc (by simp) _, ?_, hn2 w _ _⟩
    rw [hR0'.out]; exact (hp1 _ _ _ (by simp)).trans (heap_alloc_new w _)
  case round =>
    obtain ⟨k, o', hk, rfl, ho', hb, h0, h1⟩ := hrel
    have h0' := Lib.hid h0; have h1' := Lib.hid h1; have ho'' := Lib.hid ho'; clear h0 h1 ho'
    by_cases hlt : 64 ≤ n - 64 * k
    · have hsp : ∀ i, i < 64 → wr.cell? ⟨b, o' + i, none⟩ = some (.int .u8 (ith (l.drop (64 * k)) i)) := fun i hi => by
        rw [hb.cell (p := (⟨b, o' + i, none⟩ : Addr)) hbw, ho''.out (by omega), ith_drop, Nat.add_assoc]; exact hcell'.out _ (by omega)
      have hsp' := Lib.hid hsp; clear hsp
      have hgr : wr.heap[1]? = some (.cells (u32s constW) Tg (0, 0)) := (hb.block _ hgl).trans hg'.out
      have hgr' := Lib.hid hgr; clear hgr
      obtain ⟨c0, c1, c2, c3, c4, c5, c6, c7⟩ := cells8 h0'.out
      have hsz : w.heap.size + 1 < wr.heap.size := (Array.getElem?_eq_some_iff.1 h1'.out).1
      go_wp2
      go_region_with (first | (go_at_call 84; refine (spread_any b o' 64 (c - 64 * k) (l.drop (64 * k)) _ (Nat.le_refl _) ?_ ?_ (bytes_drop _ _ hl'.out) ?_).mono ?_; (omega); (unfold maxLen; omega); (exact hsp'.out); rintro e w1 ⟨rfl, hb1⟩; have hz1 : w.heap.size + 1 < w1.heap.size := Nat.lt_of_lt_of_le hsz hb1.size; have hx0 := (hb1.block w.heap.size (by simp; omega)).trans h0'.out; have hx1 := (hb1.block (w.heap.size + 1) (by simp; omega)).trans h1'.out; have hxg := (hb1.block 1 (by simp; omega)).trans hgr'.out; obtain ⟨d0, d1, d2, d3, d4, d5, d6, d7⟩ := cells8 hx0; have hx0' := Lib.hid hx0; have hx1' := Lib.hid hx1; have hxg' := Lib.hid hxg; clear hx0 hx1 hxg) | (go_at_call 83; refine (grind_lit (Tg := Tg) (R k) (R (k + 1)) (l.drop (64 * k)) _ (hRok'.out k) (hRs'.out k).symm ?_).mono ?_; (exact hxg'.out); rintro e w2 ⟨rfl, hb2⟩; have hy0 := (hb2.block w.heap.size (by omega)).trans hx0'.out; have hy1 := (hb2.block (w.heap.size + 1) (by omega)).trans hx1'.out; obtain ⟨e0, e1, e2, e3, e4, e5, e6, e7⟩ := cells8 hy0; obtain ⟨f0, f1, f2, f3, f4, f5, f6, f7⟩ := frozen8 hy0; have hy0' := Lib.hid hy0; have hy1' := Lib.hid hy1; clear hy0 hy1))
      all_goals
        go_wp2
        go_roundw
        case rel =>
          rw [set8_world hy0'.out]
          have hB : Below w.heap.size w w2 := (hb.drew.trans (hb1.mono (show w.heap.size ≤ wr.heap.size by omega))).trans (hb2.mono (by omega))
          have hB1 := below_setRow' hB (Nat.le_refl _) (u32s (R (k + 1)).list)
          have hB2 := setRow_heap w2 w.heap.size (u32s (R k).list) (u32s (R (k + 1)).list) 49 (0, 0) hy0'.out
          have hB3 := (setRow_other w2 w.heap.size (w.heap.size + 1) (u32s (R (k + 1)).list) (by omega)).trans hy1'.out
          by_cases hcc : c - 64 * k = 64
          · exact ⟨k + 1, o', by omega, by rw [if_pos hcc]; exact slice_eq rfl (by omega) (by omega), fun h => by omega, hB1, hB2, hB3⟩
          · exact ⟨k + 1, o' + 64, by omega, by rw [if_neg hcc]; exact slice_eq rfl (by omega) (by omega), fun h => by have := ho''.out (by omega); omega, hB1, hB2, hB3⟩
        case measure => simp [lenS]; omega
    · have hk' : k = n / 64 := by omega
      subst hk'
      have hRk : R (n / 64) = blocksF v l := by rw [← hR'.out, ← hn'.out]; rfl
      have hrest : RdB w (.slice (some ⟨b, o', none⟩) (n - 64 * (n / 64)) (c - 64 * (n / 64))) (restF l) := by
        have hlen : (restF l).length = n - 64 * (n / 64) := by rw [restF_length, hn'.out]; omega
        refine .inr ⟨b, o', c - 64 * (n / 64), by rw [hlen], by omega, by unfold maxLen; omega, hbw, fun i hi => ?_⟩
        unfold restF
        rw [ith_drop, hn'.out]
        by_cases hc0 : 0 < c - 64 * (n / 64)
        · rw [ho''.out hc0, Nat.add_assoc]; exact hcell'.out _ (by omega)
        · omega
      rw [hRk] at h0'
      have hrest' := Lib.hid hrest; clear hrest hRk
      go_wp2_with (first | (refine wpList_load_row rfl 49 _ rfl w.heap.size rfl 49 _ _ _ h0'.out Tryd.underlying49 rfl (by kernel_rfl) ?_) | (refine wpList_store_row rfl 49 _ _ rfl (w.heap.size + 1) _ rfl rfl 49 _ h1'.out (by kernel_rfl) (by simp [u32s, V8.list]) (u32s_one _) ?_))
      try simp only [Exit.inBlock, Exit.then]
      refine bodyPost_ret (results_row_tmp rfl _ _ (w.heap.size + 1) 49 _ _ _ rfl (setRow_heap _ _ _ _ _ _ h1'.out) Tryd.underlying49 rfl (by kernel_rfl)) rfl ⟨_, rfl, ?_, below_setRow' hb (by omega) _⟩
      exact hrest'.out.mono (below_setRow' (g := w.heap.size + 1) hb (by omega) _)
set_option maxRecDepth 100000 in
set_option maxHeartbeats 1000000 in
theorem grindAll_none (v : V8) (a : Option Addr) (c : Nat) (w : World) :
    Calls Tryd.prog 62 #[.agg #[.int .u32 v.a, .int .u32 v.b, .int .u32 v.c, .int .u32 v.d, .int .u32 v.e, .int .u32 v.f, .int .u32 v.g, .int .u32 v.h], .slice a 0 c] w
     fun e w' => e = .returned (.tuple #[.agg v.cells, .slice a 0 c]) ∧ Below w.heap.size w w' := by
  go_enter Tryd.func62, Tryd.ntmps62
  go_wp2
  go_rounds 2
  try simp only [Exit.inBlock, Exit.then]
  exact bodyPost_ret (results_row_tmp rfl _ _ (w.heap.size + 1) 49 _ _ _ rfl (hn2 w _ _) Tryd.underlying49 rfl (by kernel_rfl)) rfl ⟨rfl, ((Below.refl _ _).alloc (Nat.le_refl _) _).alloc (by simp) _⟩
theorem grindAll_any (v : V8) (bv : Value) (l : List Int) (w : World) (hv : v.ok) (hl : Bytes l) (hr : RdB w bv l)
   (hg : w.heap[1]? = some (.cells (u32s constW) Tg (0, 0))) :
    Calls Tryd.prog 62 #[.agg #[.int .u32 v.a, .int .u32 v.b, .int .u32 v.c, .int .u32 v.d, .int .u32 v.e, .int .u32 v.f, .int .u32 v.g, .int .u32 v.h], bv] w
     fun e w' => ∃ r, e = .returned (.tuple #[.agg (blocksF v l).cells, r]) ∧ RdB w' r (restF l) ∧ Below w.heap.size w w' := by
  rcases hr with ⟨a, c, rfl, hn, rfl⟩ | ⟨b, o, c, rfl, h1, h2, h3, h4⟩
  · exact (grindAll_none v a c w).mono fun e w' ⟨he, hb⟩ => ⟨_, he, .inl ⟨a, c, rfl, hn, rfl⟩, hb⟩
  · exact grindAll_some (Tg := Tg) v b o c l w hv h1 h2 hl h3 h4 hg
end Go.Proofs.YtegffpjhdodldaaDoor

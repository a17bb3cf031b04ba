/- Contract of digest.finish: the digest of a mill. -/
import Derived.Test.YtegffpjhdodldaaDoorD01e
import Derived.Test.YtegffpjhdodldaaDoorD01c
import Derived.Test.YtegffpjhdodldaaDoorLibB
import Derived.Deep.DeepCutAuto
namespace Go.Proofs.YtegffpjhdodldaaDoor
open Go.RowKit Go.YtegffpjhdodldaaDoor
set_option linter.unusedVariables false
variable {Tg Tf : TypeId}
theorem ending_len (v : V8) (rv : Value) (r : List Int) (N : Nat) (w : World) (hN : N ≤ 200000) (hr : RdB w rv r) (hrl : r.length < 64) :
    Calls Tryd.prog 63 #[.agg #[.int .u32 v.a, .int .u32 v.b, .int .u32 v.c, .int .u32 v.d, .int .u32 v.e, .int .u32 v.f, .int .u32 v.g, .int .u32 v.h, rv, .int .i64 N]] w fun e w' => ∃ a c, e = .returned (.slice a (endingF r N).length c) ∧ RdB w' (.slice a (endingF r N).length c) (endingF r N) ∧ Below w.heap.size w w' :=
  (ending_any v rv r N w hN hr hrl).mono fun e w' ⟨b', he, hb, hB⟩ => by
    obtain ⟨a, c, rfl⟩ := hb.slice
    exact ⟨a, c, he, hb, hB⟩
theorem grindAll_lit' (v G : V8) (bv : Value) (l : List Int) (w : World) (hG : blocksF v l = G) (hv : v.ok) (hl : Bytes l) (hr : RdB w bv l)
   (hg : w.heap[1]? = some (.cells (u32s constW) Tg (0, 0))) :
    Calls Tryd.prog 62 #[.agg #[.int .u32 v.a, .int .u32 v.b, .int .u32 v.c, .int .u32 v.d, .int .u32 v.e, .int .u32 v.f, .int .u32 v.g, .int .u32 v.h], bv] w
     fun e w' => ∃ r, e = .returned (.tuple #[.agg #[.int .u32 G.a, .int .u32 G.b, .int .u32 G.c, .int .u32 G.d, .int .u32 G.e, .int .u32 G.f, .int .u32 G.g, .int .u32 G.h], r]) ∧ Below w.heap.size w w' := by
  subst hG
  exact (grindAll_any (Tg := Tg) v bv l w hv hl hr hg).mono fun e w' ⟨r, h1, _, h3⟩ => ⟨r, h1, h3⟩
set_option maxRecDepth 100000 in
set_option maxHeartbeats 6000000 in
theorem finish_any (v G : V8) (rv : Value) (r : List Int) (N : Nat) (w : World) (hv : v.ok) (hr : RdB w rv r) (hrb : Bytes r) (hrl : r.length < 64) (hN : N ≤ 200000) (hG : blocksF v (endingF r N) = G)
   (hg : w.heap[1]? = some (.cells (u32s constW) Tg (0, 0))) :
    Calls Tryd.prog 40 #[.agg #[.int .u32 v.a, .int .u32 v.b, .int .u32 v.c, .int .u32 v.d, .int .u32 v.e, .int .u32 v.f, .int .u32 v.g, .int .u32 v.h, rv, .int .i64 N]] w
     fun e w' => e = .returned (.agg (u8s (writtenF G))) ∧ Below w.heap.size w w' := by
  have hlt : 1 < w.heap.size := (Array.getElem?_eq_some_iff.1 hg).1
  obtain ⟨ra, rc, rfl⟩ := hr.slice
  have hr' := Lib.hid hr; have hg' := Lib.hid hg; have hG' := Lib.hid hG; clear hr hg hG
  go_enter Tryd.func40, Tryd.ntmps40
  go_upto_region 1 with fail
  generalize hWx : ((w.alloc _).alloc _) = Wx
  have hWb : Below w.heap.size w Wx := by rw [← hWx]; exact ((Below.refl _ _).alloc (Nat.le_refl _) _).alloc (by simp) _
  have hWz : w.heap.size + 2 = Wx.heap.size := by rw [← hWx]; simp
  have hq0 : Wx.heap[w.heap.size]? = some (.cells #[.int .u32 v.a, .int .u32 v.b, .int .u32 v.c, .int .u32 v.d, .int .u32 v.e, .int .u32 v.f, .int .u32 v.g, .int .u32 v.h, .slice ra r.length rc, .int .i64 N] 51 (0, 0)) := by rw [← hWx]; exact (hp1 _ _ _ (by simp)).trans (heap_alloc_new w _)
  have hq1 : Wx.heap[w.heap.size + 1]? = some (.cells (u8s (zerosB 32)) 55 (0, 0)) := by rw [← hWx]; exact hn2 w _ _
  clear hWx
  go_cut [3] (fun s3 wx => ∃ g : Nat, s3 = .pointer (some ⟨g, 0, none⟩) ∧ w.heap.size + 2 ≤ g ∧ wx.heap[g]? = some (.cells #[.int .u32 G.a, .int .u32 G.b, .int .u32 G.c, .int .u32 G.d, .int .u32 G.e, .int .u32 G.f, .int .u32 G.g, .int .u32 G.h] 49 (0, 0)) ∧ Below (w.heap.size + 2) Wx wx)
  case first =>
    have hc : ∀ j, Wx.cell? ⟨w.heap.size, j, none⟩ = (#[.int .u32 v.a, .int .u32 v.b, .int .u32 v.c, .int .u32 v.d, .int .u32 v.e, .int .u32 v.f, .int .u32 v.g, .int .u32 v.h, .slice ra r.length rc, .int .i64 N] : Array Value)[j]? := fun j => cell_of_row _ _ _ _ _ _ hq0
    have hrx := hr'.out.mono hWb
    have hgx := (hWb.block _ hlt).trans hg'.out
    have hrx' := Lib.hid hrx; have hgx' := Lib.hid hgx; have hWz' := Lib.hid hWz
    have hWz1 : w.heap.size + 1 < Wx.heap.size := by omega
    have hWz0 : w.heap.size < Wx.heap.size := by omega
    have hWz2 : w.heap.size < Wx.heap.size + 1 := by omega
    have c0 := hc 0; have c1 := hc 1; have c2 := hc 2; have c3 := hc 3; have c4 := hc 4; have c5 := hc 5; have c6 := hc 6; have c7 := hc 7; have c8 := hc 8; have c9 := hc 9
    simp at c0 c1 c2 c3 c4 c5 c6 c7 c8 c9
    have hlt2 : 1 < Wx.heap.size := by omega
    clear hc hrx hgx hq0 hq1 hWz
    have hb9 := endingF_bytes r N hrb hN
    have hb9' := Lib.hid hb9; clear hb9
    go_region_with (first | (go_at_call 63; refine (ending_len v (.slice ra r.length rc) r N _ hN ?_ hrl).mono ?_; (first | exact hrx'.out | exact RdB.mono hrx'.out ((Below.refl _ _).alloc (Nat.le_refl _) _).drew); rintro e w5 ⟨ea, ec, rfl, he5, hb5⟩; obtain ⟨hc5, hf5⟩ := bcell hb5; have hz5 := hb5.size; have hgw5 := (hb5.block 1 (by first | omega | (simp; omega))).trans (by first | exact hgx'.out | exact (hp1 _ _ _ hlt2).trans hgx'.out); have he5' := Lib.hid he5; have hb5' := Lib.hid hb5; have hgw5' := Lib.hid hgw5; (try simp at hz5); have hs5 := fun b (h : b < _) => Nat.lt_of_lt_of_le h hb5'.out.size; have hs5' := fun b (h : b < _) => Nat.lt_succ_of_lt (Nat.lt_of_lt_of_le h hb5'.out.size); (try simp only [World.size_drew, World.cell?_drew, World.frozen?_drew] at hc5 hf5 hs5 hs5'); clear he5 hb5 hgw5) | (go_at_call 62; refine (grindAll_lit' (Tg := Tg) v G _ (endingF r N) _ hG'.out hv hb9'.out ?_ ?_).mono ?_; (first | exact he5'.out | exact RdB.mono he5'.out ((Below.refl _ _).alloc (Nat.le_refl _) _)); (first | exact hgw5'.out | exact (hp1 _ _ _ (by omega)).trans hgw5'.out); rintro e w6 ⟨rest, rfl, hb6⟩; obtain ⟨hc6, hf6⟩ := bcell hb6; have hz6 := hb6.size; have hb6' := Lib.hid hb6; (try simp at hz6); have hs6 := fun b (h : b < _) => Nat.lt_of_lt_of_le h hb6'.out.size; have hs6' := fun b (h : b < _) => Nat.lt_succ_of_lt (Nat.lt_of_lt_of_le h hb6'.out.size); (try simp only [World.size_drew, World.cell?_drew, World.frozen?_drew] at hc6 hf6 hs6 hs6'); clear hb6))
    all_goals
      go_wp2_with fail
      go_meet
      have h5 : Wx.heap.size ≤ w5.heap.size := by have := hb5'.out.size; simp at this; omega
      have h6 : w5.heap.size ≤ w6.heap.size := by have := hb6'.out.size; (try simp at this); omega
      have hz := hWz'.out
      have hB5 : Below (w.heap.size + 2) Wx w5 := by first | exact (Below.drew (Below.refl _ Wx)).trans (hb5'.out.mono (by rw [World.size_drew]; omega)) | exact (Below.drew ((Below.refl _ Wx).alloc (by omega) _)).trans (hb5'.out.mono (by rw [World.size_drew, World.size_alloc]; omega))
      have hB6 : Below (w.heap.size + 2) w5 w6 := by first | exact hb6'.out.mono (by omega) | exact ((Below.refl _ w5).alloc (by omega) _).trans (hb6'.out.mono (by rw [World.size_alloc]; omega))
      first
        | (refine ⟨w6.heap.size, by with_reducible rfl, by omega, ?_⟩; exact ⟨heap_alloc_new _ _, (hB5.trans hB6).alloc (by omega) _⟩)
        | (refine ⟨w5.heap.size, by with_reducible rfl, by omega, ?_⟩; have hr := (hb6'.out.block w5.heap.size (by rw [World.size_alloc]; omega)).trans (heap_alloc_new w5 _); rw [set8v_world hr]; exact ⟨setRow_heap _ _ _ _ _ _ hr, below_setRow' (hB5.trans hB6) (by omega) _⟩)
        | (refine ⟨Wx.heap.size, by with_reducible rfl, by omega, ?_⟩; have hr := ((hb6'.out.block Wx.heap.size (by have := hb5'.out.size; rw [World.size_drew, World.size_alloc] at this; omega)).trans (hb5'.out.block Wx.heap.size (by rw [World.size_drew, World.size_alloc]; omega))).trans (heap_alloc_new Wx _); rw [set8v_world hr]; exact ⟨setRow_heap _ _ _ _ _ _ hr, below_setRow' (hB5.trans hB6) (by omega) _⟩)
  case rest =>
    obtain ⟨g, rfl, hgz, hg8, hb⟩ := hcut
    have hgw : g < wc.heap.size := (Array.getElem?_eq_some_iff.1 hg8).1
    have hg8' : Hid (∀ o, (wc.alloc o).heap[g]? = some (.cells #[.int .u32 G.a, .int .u32 G.b, .int .u32 G.c, .int .u32 G.d, .int .u32 G.e, .int .u32 G.f, .int .u32 G.g, .int .u32 G.h] 49 (0, 0))) := Lib.hid (fun o => (hp1 wc o g hgw).trans hg8)
    have hq1' := Lib.hid hq1; have hb' := Lib.hid hb
    clear hq0 hq1 hb hg8
    have hGk : G.ok := by rw [← hG'.out]; exact blocksF_ok _ _ hv
    have hG32 : All32 G.list := by
      obtain ⟨x0, x1, x2, x3, x4, x5, x6, x7⟩ := hGk
      intro i
      match i with
      | 0 => exact x0
      | 1 => exact x1
      | 2 => exact x2
      | 3 => exact x3
      | 4 => exact x4
      | 5 => exact x5
      | 6 => exact x6
      | 7 => exact x7
      | i + 8 => rw [ith_over _ _ (by simp [V8.list])]; exact ⟨by omega, by omega⟩
    have hG32' := Lib.hid hG32; clear hG32 hGk
    go_wp2_with (refine wpList_load_row rfl 49 _ rfl g rfl 49 _ _ _ (hg8'.out _) Tryd.underlying49 rfl (by kernel_rfl) ?_)
    go_loopw [6, 7, 17] (fun _ _ i wr => ∃ k : Nat, k ≤ 8 ∧ i = .int .i64 k ∧ Below (w.heap.size + 2) Wx wr ∧ wc.heap.size < wr.heap.size ∧ wr.heap[wc.heap.size]? = some (.cells (u8s (writtenN G.list k ++ zerosB (32 - 4 * k))) 55 (0, 0))) (fun _ _ i _ => 8 - (intOf i).toNat)
    case atStart => exact ⟨0, by omega, rfl, hb'.out.alloc (by omega) _, by simp, heap_alloc_new wc _⟩
    case round =>
      obtain ⟨k, hk, rfl, hbr, hzr, hrow⟩ := hrel
      have hrow' := Lib.hid hrow; clear hrow
      by_cases hlt8 : k < 8
      · have hix := run_index_arr (P := Tryd.prog) Tryd.underlying49 Tryd.underlying22 (by kernel_rfl) (u32s G.list) k _ hlt8 (u32s_get _ k hlt8)
        have hix' : ∀ wx, (Instr.index 49 (.agg #[.int .u32 G.a, .int .u32 G.b, .int .u32 G.c, .int .u32 G.d, .int .u32 G.e, .int .u32 G.f, .int .u32 G.g, .int .u32 G.h]) (.int .i64 (k : Int))).run Tryd.prog wx = .ok (.int .u32 (ith G.list k)) wx := hix
        clear hix
        have hsl := run_sliceAt_low (P := Tryd.prog) Tryd.underlying55 (by kernel_rfl) wc.heap.size (4 * k) (show 4 * k < 32 by omega)
        rw [show ((4 * k : Nat) : Int) = 4 * (k : Int) by omega] at hsl
        have hlen : Hid (4 * k + 4 ≤ (writtenN G.list k ++ zerosB (32 - 4 * k)).length) := Lib.hid (by rw [List.length_append, writtenN_length, zerosB_length]; omega)
        go_wp2_with (go_at_call 64; refine (putWord_any wc.heap.size (4 * k) (32 - 4 * k) (32 - 4 * k) _ 55 (ith G.list k) _ (by omega) (hG32'.out k) hrow'.out hlen.out).mono ?_; rintro e w' ⟨rfl, hw'⟩; have hw'' := Lib.hid hw'; clear hw')
        go_roundw
        case rel =>
          have hnew := setRow_heap wr wc.heap.size _ (u8s (put4 (writtenN G.list k ++ zerosB (32 - 4 * k)) (4 * k) (ith G.list k))) _ _ hrow'.out
          have hz4 : zerosB (32 - 4 * k) = 0 :: 0 :: 0 :: 0 :: zerosB (32 - 4 * (k + 1)) := by
            have : 32 - 4 * k = (32 - 4 * (k + 1)) + 1 + 1 + 1 + 1 := by omega
            rw [this]; rfl
          have hp4 := put4_at (writtenN G.list k) (zerosB (32 - 4 * (k + 1))) 0 0 0 0 (ith G.list k)
          rw [writtenN_length] at hp4
          rw [hz4, hp4, ← List.append_assoc, show writtenN G.list k ++ be4 (ith G.list k) = writtenN G.list (k + 1) from rfl] at hnew
          refine ⟨k + 1, by omega, by go_num, ?_, ?_, ?_⟩
          · rw [hw''.out]; exact below_setRow' (g := wc.heap.size) hbr (by omega) _
          · rw [hw''.out, size_setRow]; exact hzr
          · rw [hw''.out, hz4, hp4, ← List.append_assoc]; exact hnew
        case measure => simp [intOf]; omega
      · have hk8 : k = 8 := by omega
        subst hk8
        have hrow := hrow'.out
        rw [show writtenN G.list 8 ++ zerosB (32 - 4 * 8) = writtenF G from List.append_nil _] at hrow
        have hsz : (u8s (writtenF G)).size = 32 := by rw [u8s_size]; exact writtenN_length _ 8
        have hi : (Tryd.prog.info? 55).map (·.size) = some (u8s (writtenF G)).size := by rw [hsz]; kernel_rfl
        have hq := (hbr.block (w.heap.size + 1) (by omega)).trans hq1'.out
        have hs2 : (u8s (zerosB 32)).size = (u8s (writtenF G)).size := by rw [hsz, u8s_size, zerosB_length]
        have hBf : Below w.heap.size w wr := hWb.trans (hbr.mono (by omega))
        generalize hy : writtenF G = y at *
        have hy' := Lib.hid hy; clear hy
        have hrow' := Lib.hid hrow; have hq' := Lib.hid hq; have hi' := Lib.hid hi; have hs2' := Lib.hid hs2
        clear hrow hq hi hs2 hsz
        go_wp2_with (first | (refine wpList_load_row rfl 55 _ rfl wc.heap.size rfl 55 _ _ _ hrow'.out Tryd.underlying55 rfl hi'.out ?_) | (refine wpList_store_row rfl 55 _ _ rfl (w.heap.size + 1) _ rfl rfl 55 _ hq'.out hi'.out hs2'.out (u8s_one _) ?_))
        try simp only [Exit.inBlock, Exit.then]
        refine bodyPost_ret (v := .agg (u8s y)) (results_cell_row rfl _ _ (w.heap.size + 1) 55 _ _ _ rfl (setRow_heap _ _ _ _ _ _ hq'.out) Tryd.underlying55 rfl hi'.out) rfl ⟨?_, below_setRow' (g := w.heap.size + 1) hBf (by omega) _⟩
        rw [hy'.out]
end Go.Proofs.YtegffpjhdodldaaDoor

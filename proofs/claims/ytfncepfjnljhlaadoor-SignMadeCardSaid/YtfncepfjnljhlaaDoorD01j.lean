/- Contract of digest.End. -/
import Derived.Test.YtfncepfjnljhlaaDoorD01h
import Derived.Test.YtfncepfjnljhlaaDoorD01g
namespace Go.Proofs.YtfncepfjnljhlaaDoor
open Go.RowKit Go.YtfncepfjnljhlaaDoor
set_option linter.unusedVariables false
variable {Tg Tf : TypeId}
theorem info_id : (Tryd.prog.info? 25).map (·.size) = some (u8s (zerosB 32)).size := by kernel_rfl
theorem zeros_size : (u8s (zerosB 32)).size = 32 := by kernel_rfl
set_option maxRecDepth 100000 in
set_option maxHeartbeats 400000 in
theorem end_bad (v : V8) (rv : Value) (rn : Nat) (N : Int) (w : World) (hr : ∃ a c, rv = .slice a rn c) (hv : validB N rn = false) :
    Calls Tryd.prog 18 #[.agg #[.int .u32 v.a, .int .u32 v.b, .int .u32 v.c, .int .u32 v.d, .int .u32 v.e, .int .u32 v.f, .int .u32 v.g, .int .u32 v.h, rv, .int .i64 N]] w
     fun e w' => e = .returned (.tuple #[.agg (u8s (zerosB 32)), .int .i64 8]) ∧ Below w.heap.size w w' := by
  obtain ⟨a, c, rfl⟩ := hr
  go_enter Tryd.func18, Tryd.ntmps18
  go_wp2_with (first | (go_at_call 54; refine (valid_any v _ rn N _ ⟨a, c, rfl⟩).mono ?_; rintro e w1 ⟨rfl, hb1⟩; obtain ⟨hB1, hz1, hrow1⟩ := below2 w _ _ hb1; have hrow1' := Lib.hid (show w1.heap[w.heap.size + 1]? = some (.cells (u8s (zerosB 32)) 25 (0, 0)) from hrow1); have hB1' := Lib.hid hB1; clear hb1 hrow1 hB1) | (refine wpList_store_row rfl 25 _ _ rfl (w.heap.size + 1) (u8s (zerosB 32)) rfl rfl 25 _ hrow1'.out info_id rfl (u8s_one _) ?_))
  try simp only [Exit.inBlock, Exit.then]
  exact bodyPost_ret (results_row_tmp rfl _ _ (w.heap.size + 1) 25 _ _ _ rfl (setRow_heap _ _ _ _ _ _ hrow1'.out) Tryd.underlying25 rfl info_id) rfl ⟨rfl, below_setRow' (g := w.heap.size + 1) hB1'.out (by omega) _⟩
set_option maxRecDepth 100000 in
set_option maxHeartbeats 400000 in
theorem end_ok (v : V8) (rv : Value) (r : List Int) (M : Nat) (w : World) (hv : v.ok) (hr : RdB w rv r) (hrb : Bytes r) (hrl : r.length = M % 64) (hN : M ≤ 200000)
   (hg : w.heap[2]? = some (.cells (u32s constW) Tg (0, 0))) :
    Calls Tryd.prog 18 #[.agg #[.int .u32 v.a, .int .u32 v.b, .int .u32 v.c, .int .u32 v.d, .int .u32 v.e, .int .u32 v.f, .int .u32 v.g, .int .u32 v.h, rv, .int .i64 M]] w
     fun e w' => e = .returned (.tuple #[.agg (u8s (endF v r M)), .int .i64 0]) ∧ Below w.heap.size w w' := by
  obtain ⟨a, c, rfl⟩ := hr.slice
  have hvd := validB_yes M r.length (by omega) hrl
  have hlt : 2 < w.heap.size := (Array.getElem?_eq_some_iff.1 hg).1
  have hlen : (endF v r M).length = 32 := writtenN_length _ 8
  have hi : (Tryd.prog.info? 25).map (·.size) = some (u8s (endF v r M)).size := by rw [u8s_size, hlen]; kernel_rfl
  have hs2 : (u8s (zerosB 32)).size = (u8s (endF v r M)).size := by rw [u8s_size, u8s_size, hlen, zerosB_length]
  have hr' := Lib.hid hr; have hg' := Lib.hid hg; have hrl' := Lib.hid hrl; have hi' := Lib.hid hi; have hs2' := Lib.hid hs2
  clear hr hg hrl hi hs2 hlen
  go_enter Tryd.func18, Tryd.ntmps18
  go_wp2_with (first | (go_at_call 54; refine (valid_any v _ r.length M _ ⟨a, c, rfl⟩).mono ?_; rintro e w1 ⟨rfl, hb1⟩; obtain ⟨hc1, hf1⟩ := bcell hb1; have hs1 := fun b (h : b < _) => Nat.lt_of_lt_of_le h hb1.size; obtain ⟨hB1, hz1, hrow1⟩ := below2 w _ _ hb1; have hr1 := Lib.hid (hr'.out.mono hB1); have hg1 := Lib.hid ((hB1.block _ hlt).trans hg'.out); have hrow1' := Lib.hid (show w1.heap[w.heap.size + 1]? = some (.cells (u8s (zerosB 32)) 25 (0, 0)) from hrow1); have hB1' := Lib.hid hB1; clear hb1 hrow1 hB1) | (go_at_call 53; refine (finish_any (Tg := Tg) v _ (.slice a r.length c) r M _ hv hr1.out hrb (hrl'.out ▸ Nat.mod_lt _ (by decide)) hN rfl hg1.out).mono ?_; rintro e w2 ⟨rfl, hb2⟩; have hrow2' := Lib.hid ((hb2.block _ hz1).trans hrow1'.out); have hB2' := Lib.hid (hB1'.out.trans (hb2.mono (by omega))); clear hb2) | (refine wpList_store_row rfl 25 _ _ rfl (w.heap.size + 1) (u8s (endF v r M)) rfl rfl 25 _ hrow2'.out hi'.out hs2'.out (u8s_one _) ?_))
  try simp only [Exit.inBlock, Exit.then]
  exact bodyPost_ret (results_row_tmp rfl _ _ (w.heap.size + 1) 25 _ _ _ rfl (setRow_heap _ _ _ _ _ _ hrow2'.out) Tryd.underlying25 rfl hi'.out) rfl ⟨rfl, below_setRow' (g := w.heap.size + 1) hB2'.out (by omega) _⟩
end Go.Proofs.YtfncepfjnljhlaaDoor

/- Layer 6: bytes and ids: contracts of package op. -/
import Derived.Test.YtegffpjhdodldaaDoorQ08
import Derived.Test.YtegffpjhdodldaaDoorD01l
namespace Go.Proofs.YtegffpjhdodldaaDoor.wir.val
open Go.RowKit Go.YtegffpjhdodldaaDoor
set_option linter.unusedVariables false
theorem bytes_one {x : Int} (h : 0 ≤ x ∧ x < 256) : Bytes [x] := bytes_mk_cons h (fun i => by simp [ith])
theorem sI_bytes0 (s : ByteArray) : Bytes (sI s) := fun i => by
  rcases Nat.lt_or_ge i s.size with h | h
  · rw [← sI_get s i h]
    have := s[i].toNat_lt
    omega
  · rw [ith_over _ _ (by rw [sI_length]; exact h)]; omega
theorem textB_bytes (s : ByteArray) (h : s.size ≤ 1000000) : Bytes (textB (sI s)) := by
  unfold textB
  exact bytes_append _ _ (numB_bytes _ (by rw [sI_length]; omega)) (sI_bytes0 s)
theorem encB_bytes0 {v : Va} (fv : v.fit) (hv : v.ok = true) : Bytes (encB v.k v.n v.b v.s) := by
  unfold encB
  split
  · exact bytes_mk_cons (by omega) (numB_bytes _ (fold_lt _ fv.n))
  · split
    · exact bytes_mk_cons (by omega) (be_bytes _ _)
    · exact bytes_mk_cons (by omega) (textB_bytes _ fv.s)
theorem bytes_nil : Bytes [] := fun i => by simp [ith]
theorem msgB_bytes (o : Od) (fo : o.Fit) (hn : o.n ≤ 4) (hA : actB o.k o.key o.v = true) : Bytes (msgB o) := by
  unfold msgB
  refine bytes_append _ _ (bytes_append _ _ (bytes_append _ _ (bytes_append _ _ (bytes_append _ _ (bytes_append _ _ (bytes_one (by omega)) (numB_bytes _ (by have := fo.au; omega))) (bytes_append _ _ (numB_bytes _ (by omega)) fo.F)) (numB_bytes _ fo.st)) (bytes_one fo.k)) ?_) ?_
  · split
    · exact bytes_nil
    · exact textB_bytes _ fo.key
  · split
    · rename_i hk
      rcases act_kinds hA with h | ⟨h, _⟩ | ⟨_, _, h⟩
      · rw [hk] at h; omega
      · rw [hk] at h; omega
      · exact encB_bytes0 fo.v h
    · exact bytes_nil
theorem encO_bytes (o : Od) (fo : o.Fit) (hn : o.n ≤ 4) (hA : actB o.k o.key o.v = true) : Bytes (encO o) :=
  bytes_append _ _ (bytes_append _ _ (msgB_bytes o fo hn hA) (numB_bytes _ (by have := fo.e; omega))) (numB_bytes _ (by have := fo.s; omega))
theorem encO_short (o : Od) (fo : o.Fit) (hn : o.n ≤ 4) (hl : o.F.length = 32 * o.n) (hA : actB o.k o.key o.v = true) : (encO o).length ≤ 400 := by
  have h1 := msgB_short o fo hn hl hA
  have h2 := numL_le o.e (by have := fo.e; omega)
  have h3 := numL_le o.s (by have := fo.s; omega)
  unfold encO
  rw [List.length_append, List.length_append, numB_length, numB_length]; omega
set_option maxHeartbeats 4000000 in
set_option maxRecDepth 100000 in
theorem opEncode_bad (o : Od) (fo : o.Fit) (pv : Value) (w : World) (hp : RdI w pv o.n o.F) (h0 : chkO o ≠ 0) :
    Calls Tryd.prog 14 #[.agg (o.c pv)] w fun e w' => e = .returned (.tuple #[.slice none 0 0, .int .i64 (chkO o)]) ∧ Below w.heap.size w w' := by
  obtain ⟨W, hW⟩ : ∃ W, W = w.alloc (.cells (o.c pv) 32) := ⟨_, rfl⟩
  have hr0 := heap_alloc_new w (.cells (o.c pv) 32)
  have hb0 := (Below.refl w.heap.size w).alloc (Nat.le_refl _) (.cells (o.c pv) 32)
  rw [← hW] at hr0 hb0
  obtain ⟨pa, pc, rfl⟩ := hp.slice
  have hb1 := Lib.hid hb0
  have hrow := Lib.hid hr0
  have hK := Lib.hid (opCheck_any o fo (.slice pa o.n pc) W (hp.mono hb0))
  clear hr0 hb0 hp fo
  generalize chkO o = E at *
  have hE : (E != 0) = true := by simpa using h0
  clear h0
  go_enter Tryd.func14, Tryd.ntmps14
  go_upto_region 1 with fail
  rw [← hW]
  clear hW
  go_wp2_with (first
    | (refine wpList_load_row_g rfl 32 _ rfl w.heap.size rfl 32 (o.c (.slice pa o.n pc)) (0, 0) _ hrow.out Tryd.underlying32 rfl info_op ?_)
    | (go_at_call 22; (with_reducible refine (hK.out).mono ?_); rintro e w3 ⟨rfl, h3⟩; have hb3 := Lib.hid h3; clear h3))
  go_ret2
  exact ⟨rfl, hb1.out.trans (hb3.out.mono hb1.out.size)⟩
theorem info_id : (Tryd.prog.info? 55).map (·.size) = some 32 := by kernel_rfl
end Go.Proofs.YtegffpjhdodldaaDoor.wir.val

/- Layer 6: bytes and ids: contracts of package op. -/
import Derived.Test.YtddelpjlcmaomaaDoorQ08
import Derived.Test.YtddelpjlcmaomaaDoorD01l
namespace Go.Proofs.YtddelpjlcmaomaaDoor.wir.val
open Go.RowKit Go.YtddelpjlcmaomaaDoor
set_option linter.unusedVariables false
theorem bytes_one {x : Int} (h : 0 ≤ x ∧ x < 256) : Bytes [x] := bytes_mk_cons h (fun i => by simp [ith])
theorem sI_bytes0 (s : ByteArray) : Bytes (sI s) := fun i => by
  rcases Nat.lt_or_ge i s.size with h | h
  · rw [← sI_get s i h]
    have := s[i].toNat_lt
    omega
  · rw [ith_over _ _ (by rw [sI_length]; exact h)]; omega
theorem textB_bytes (s : ByteArray) (h : s.size ≤ 1000000) : Bytes (textB (sI s)) := by
  unfold textB
  exact bytes_append _ _ (numB_bytes _ (by rw [sI_length]; omega)) (sI_bytes0 s)
theorem encB_bytes0 {v : Va} (fv : v.fit) (hv : v.ok = true) : Bytes (encB v.k v.n v.b v.s) := by
  unfold encB
  split
  · exact bytes_mk_cons (by omega) (numB_bytes _ (fold_lt _ fv.n))
  · split
    · exact bytes_mk_cons (by omega) (be_bytes _ _)
    · exact bytes_mk_cons (by omega) (textB_bytes _ fv.s)
theorem bytes_nil : Bytes [] := fun i => by simp [ith]
theorem msgB_bytes (o : Od) (fo : o.Fit) (hn : o.n ≤ 4) (hA : actB o.k o.key o.v = true) : Bytes (msgB o) := by
  unfold msgB
  refine bytes_append _ _ (bytes_append _ _ (bytes_append _ _ (bytes_append _ _ (bytes_append _ _ (bytes_append _ _ (bytes_one (by omega)) (numB_bytes _ (by have := fo.au; omega))) (bytes_append _ _ (numB_bytes _ (by omega)) fo.F)) (numB_bytes _ fo.st)) (bytes_one fo.k)) ?_) ?_
  · split
    · exact bytes_nil
    · exact textB_bytes _ fo.key
  · split
    · rename_i hk
      rcases act_kinds hA with h | ⟨h, _⟩ | ⟨_, _, h⟩
      · rw [hk] at h; omega
      · rw [hk] at h; omega
      · exact encB_bytes0 fo.v h
    · exact bytes_nil
theorem encO_bytes (o : Od) (fo : o.Fit) (hn : o.n ≤ 4) (hA : actB o.k o.key o.v = true) : Bytes (encO o) :=
  bytes_append _ _ (bytes_append _ _ (msgB_bytes o fo hn hA) (numB_bytes _ (by have := fo.e; omega))) (numB_bytes _ (by have := fo.s; omega))
theorem encO_short (o : Od) (fo : o.Fit) (hn : o.n ≤ 4) (hl : o.F.length = 32 * o.n) (hA : actB o.k o.key o.v = true) : (encO o).length ≤ 400 := by
  have h1 := msgB_short o fo hn hl hA
  have h2 := numL_le o.e (by have := fo.e; omega)
  have h3 := numL_le o.s (by have := fo.s; omega)
  unfold encO
  rw [List.length_append, List.length_append, numB_length, numB_length]; omega
set_option maxHeartbeats 4000000 in
set_option maxRecDepth 100000 in
theorem opEncode_bad (o : Od) (fo : o.Fit) (pv : Value) (w : World) (hp : RdI w pv o.n o.F) (h0 : chkO o ≠ 0) :
    Calls Tryd.prog 13 #[.agg (o.c pv)] w fun e w' => e = .returned (.tuple #[.slice none 0 0, .int .i64 (chkO o)]) ∧ Below w.heap.size w w' := by
  obtain ⟨W, hW⟩ : ∃ W, W = w.alloc (.cells (o.c pv) 32) := ⟨_, rfl⟩
  have hr0 := heap_alloc_new w (.cells (o.c pv) 32)
  have hb0 := (Below.refl w.heap.size w).alloc (Nat.le_refl _) (.cells (o.c pv) 32)
  rw [← hW] at hr0 hb0
  obtain ⟨pa, pc, rfl⟩ := hp.slice
  have hb1 := Lib.hid hb0
  have hrow := Lib.hid hr0
  have hK := Lib.hid (opCheck_any o fo (.slice pa o.n pc) W (hp.mono hb0))
  clear hr0 hb0 hp fo
  generalize chkO o = E at *
  have hE : (E != 0) = true := by simpa using h0
  clear h0
  go_enter Tryd.func13, Tryd.ntmps13
  go_upto_region 1 with fail
  rw [← hW]
  clear hW
  go_wp2_with (first
    | (refine wpList_load_row_g rfl 32 _ rfl w.heap.size rfl 32 (o.c (.slice pa o.n pc)) (0, 0) _ hrow.out Tryd.underlying32 rfl info_op ?_)
    | (go_at_call 19; (with_reducible refine (hK.out).mono ?_); rintro e w3 ⟨rfl, h3⟩; have hb3 := Lib.hid h3; clear h3))
  go_ret2
  exact ⟨rfl, hb1.out.trans (hb3.out.mono hb1.out.size)⟩
theorem info_id : (Tryd.prog.info? 42).map (·.size) = some 32 := by kernel_rfl
set_option maxHeartbeats 4000000 in
set_option maxRecDepth 100000 in
theorem opID_ok {Tg Tf : TypeId} (o : Od) (fo : o.Fit) (pv : Value) (w : World) (hp : RdI w pv o.n o.F) (h0 : chkO o = 0)
    (hg : w.heap[2]? = some (.cells (u32s constW) Tg (0, 0))) (hgf : w.heap[0]? = some (.cells firstW.cells Tf (0, 0))) :
    Calls Tryd.prog 15 #[.agg (o.c pv)] w fun e w' => e = .returned (.tuple #[.agg (u8s (shaF (encO o))), .int .i64 0]) ∧ Below w.heap.size w w' := by
  obtain ⟨W, hW⟩ : ∃ W, W = (w.alloc (.cells (o.c pv) 32)).alloc (.cells (u8s (zerosB 32)) 42) := ⟨_, rfl⟩
  have hr0 : W.heap[w.heap.size]? = some (.cells (o.c pv) 32 (0, 0)) := by rw [hW]; exact rowB (heap_alloc_new w _) (below_a _ _) (by simp)
  have hr1 : W.heap[w.heap.size + 1]? = some (.cells (u8s (zerosB 32)) 42 (0, 0)) := by rw [hW]; exact hn2 w _ _
  have hb0 : Below w.heap.size w W := by rw [hW]; exact ((Below.refl w.heap.size w).alloc (Nat.le_refl _) _).alloc (by simp) _
  obtain ⟨pa, pc, rfl⟩ := hp.slice
  have hb1 := Lib.hid hb0
  have hrow := Lib.hid hr0
  have hres := Lib.hid hr1
  have z := chk_zero h0
  have hE := Lib.hid (opEncode_ok o fo (.slice pa o.n pc) W (hp.mono hb0) h0)
  have hD := Lib.hid (fun (wz : World) (v : Value) (hb : Below W.heap.size W wz) (hv : RdB wz v (encO o)) => sum_any (Tg := Tg) (Tf := Tf) (shaF (encO o)) v (encO o) wz hv (encO_bytes o fo z.1 z.2.2) (Nat.le_trans (encO_short o fo z.1 hp.len z.2.2) (by decide)) rfl
    (rowB hg (hb0.trans (hb.mono hb0.size)) (Array.getElem?_eq_some_iff.1 hg).1) (rowB hgf (hb0.trans (hb.mono hb0.size)) (Array.getElem?_eq_some_iff.1 hgf).1))
  have hDl : (shaF (encO o)).length = 32 := shaF_length _
  generalize shaF (encO o) = D at *
  generalize encO o = EO at *
  have di := Lib.hid (show (Tryd.prog.info? 42).map (·.size) = some (u8s D).size by rw [u8s_size, hDl]; kernel_rfl)
  have ds := Lib.hid (show (u8s (zerosB 32)).size = (u8s D).size by rw [u8s_size, u8s_size, hDl, zerosB_length])
  clear hr0 hr1 hb0 hp fo hg hgf z h0 hDl
  go_enter Tryd.func15, Tryd.ntmps15
  go_upto_region 1 with fail
  rw [show ∀ x : Array Value, x = u8s (zerosB 32) → (w.alloc (.cells (o.c (.slice pa o.n pc)) 32)).alloc (.cells x 42) = W from fun x hx => by rw [hx, hW]]
  rotate_left
  · kernel_rfl
  clear hW
  go_wp2_with (first
    | (refine wpList_load_row_g rfl 32 _ rfl w.heap.size rfl 32 (o.c (.slice pa o.n pc)) (0, 0) _ hrow.out Tryd.underlying32 rfl info_op ?_)
    | (go_at_call 13; (with_reducible refine (hE.out).mono ?_); rintro e w3 ⟨sv, rfl, h2, h3⟩; have hb3 := Lib.hid h3; have hO := Lib.hid h2; have hD3 := Lib.hid (hD.out _ sv h3 h2.rd); have hres3 := Lib.hid (rowB hres.out h3 (Array.getElem?_eq_some_iff.1 hres.out).1); clear h2 h3)
    | (go_at_call 31; (with_reducible refine (hD3.out).mono ?_); rintro e w4 ⟨rfl, h3⟩; have hb4 := Lib.hid (hb3.out.trans (h3.mono hb3.out.size)); have hres4 := Lib.hid (rowB hres3.out h3 (Array.getElem?_eq_some_iff.1 hres3.out).1); clear h3)
    | (refine storeOver _ (w.heap.size + 1) _ rfl 42 _ _ rfl (u8s D) 42 hres4.out rfl rfl di.out ds.out (u8s_one _) ?_; intro w5 hr5 hb5; have hr5' := Lib.hid hr5; have hb5' := Lib.hid hb5; clear hr5 hb5))
  exact bodyPost_ret (results_row_tmp rfl _ _ (w.heap.size + 1) 42 _ _ _ rfl hr5'.out Tryd.underlying42 rfl di.out) rfl ⟨rfl, hb1.out.trans ((hb4.out.mono hb1.out.size).trans (hb5'.out.mono (by omega)))⟩
end Go.Proofs.YtddelpjlcmaomaaDoor.wir.val

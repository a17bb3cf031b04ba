/- Layer 6: an operation is the same as its copy: contract of the reference. Layer 6: OpMakes' walk. -/
import Derived.Test.YtegffpjhdodldaaDoorQ13
namespace Go.Proofs.YtegffpjhdodldaaDoor.wir.val
open Go.RowKit Go.YtegffpjhdodldaaDoor
set_option linter.unusedVariables false
set_option maxHeartbeats 4000000 in
set_option maxRecDepth 100000 in
theorem sameO_yes (o : Od) (hn : o.n ≤ 20) (pv qv : Value) (w : World) (hp : RdI w pv o.n o.F) (hq : RdI w qv o.n o.F) :
    Calls Tryd.prog 16 #[.agg (o.c pv), .agg (o.c qv)] w fun e w' => e = .returned (.bool true) ∧ Below w.heap.size w w' := by
  obtain ⟨pa, pc, rfl⟩ := hp.slice
  obtain ⟨qa, qc, rfl⟩ := hq.slice
  obtain ⟨W, hW⟩ : ∃ W, W = (w.alloc (.cells (o.c (.slice pa o.n pc)) 32)).alloc (.cells (o.c (.slice qa o.n qc)) 32) := ⟨_, rfl⟩
  have hr0 : W.heap[w.heap.size]? = some (.cells (o.c (.slice pa o.n pc)) 32 (0, 0)) := by rw [hW]; exact rowB (heap_alloc_new w _) (below_a _ _) (by simp)
  have hr1 : W.heap[w.heap.size + 1]? = some (.cells (o.c (.slice qa o.n qc)) 32 (0, 0)) := by rw [hW]; exact hn2 w _ _
  have hb0 : Below w.heap.size w W := by rw [hW]; exact ((Below.refl w.heap.size w).alloc (Nat.le_refl _) _).alloc (by simp) _
  have hb1 := Lib.hid hb0
  have hlt := Lib.hid (Array.getElem?_eq_some_iff.1 hr0).1
  have hlt1 := Lib.hid (Array.getElem?_eq_some_iff.1 hr1).1
  have hrows := Lib.hid (fun (wz : World) (h : Below W.heap.size W wz) => cellsO (rowB hr0 h hlt.out))
  have hress := Lib.hid (fun (wz : World) (h : Below W.heap.size W wz) => cellsO (rowB hr1 h hlt1.out))
  have hI := Lib.hid (sameIDs_any o.n o.n o.F o.F _ _ W (by omega) (hp.mono hb0) (hq.mono hb0))
  rw [sameF_self] at hI
  obtain ⟨c0, c1, c2, _, _, c9, c10⟩ := cellsO hr0
  obtain ⟨d0, d1, d2, _, _, d9, d10⟩ := cellsO hr1
  have hqA := Lib.hid (fun wz => show (binOp .eql 28 (aA o.k o.key o.v) (aA o.k o.key o.v)).run Tryd.prog wz = .ok (.bool true) wz by rw [eqlA]; simp [eqB])
  clear hr0 hr1 hb0 hp hq
  go_enter Tryd.func16, Tryd.ntmps16
  go_upto_region 1 with fail
  rw [← hW]
  clear hW
  go_wp2_with (first
    | (go_at_call 33; (with_reducible refine (hI.out).mono ?_); rintro e w3 ⟨rfl, h3⟩; have hB := Lib.hid (h3.below (Below.refl W.heap.size W)); clear h3 c0 c1 c2 c9 c10 d0 d1 d2 d9 d10; obtain ⟨c0, c1, c2, _, _, c9, c10⟩ := hrows.out _ hB.out; obtain ⟨d0, d1, d2, _, _, d9, d10⟩ := hress.out _ hB.out)
    | (refine wpList_midV rfl 28 _ rfl w.heap.size 3 rfl [.int .u8 o.k, .string o.key, .int .u8 o.v.k, .int .i64 o.v.n, .int .u64 (o.v.b : Int), .string o.v.s] _ (hrows.out _ hB.out).2.2.2.1 Tryd.underlying28 rfl info_act ?_)
    | (refine wpList_midV rfl 28 _ rfl (w.heap.size + 1) 3 rfl [.int .u8 o.k, .string o.key, .int .u8 o.v.k, .int .i64 o.v.n, .int .u64 (o.v.b : Int), .string o.v.s] _ (hress.out _ hB.out).2.2.2.1 Tryd.underlying28 rfl info_act ?_)
    | (refine wpList_midV rfl 30 _ rfl w.heap.size 9 rfl [.int .u32 (o.e : Int), .int .u32 (o.s : Int)] _ (hrows.out _ hB.out).2.2.2.2.1 Tryd.underlying30 rfl info_sig ?_)
    | (refine wpList_midV rfl 30 _ rfl (w.heap.size + 1) 9 rfl [.int .u32 (o.e : Int), .int .u32 (o.s : Int)] _ (hress.out _ hB.out).2.2.2.2.1 Tryd.underlying30 rfl info_sig ?_)
    | (refine wpList_eqlS rfl 28 _ _ rfl (aC o.k o.key o.v) (aC o.k o.key o.v) rfl rfl (by kernel_rfl) true (hqA.out _) ?_))
  go_ret
  exact ⟨rfl, hb1.out.trans (hB.out.mono hb1.out.size)⟩
/-- The two variables that digests read. -/
def GlQ (Tg Tf : TypeId) (w : World) : Prop := w.heap[1]? = some (.cells (u32s constW) Tg (0, 0)) ∧ w.heap[0]? = some (.cells firstW.cells Tf (0, 0))
theorem GlQ.mono {Tg Tf : TypeId} {w w' : World} (h : GlQ Tg Tf w) (hb : Below w.heap.size w w') : GlQ Tg Tf w' :=
  ⟨(hb.block _ (Array.getElem?_eq_some_iff.1 h.1).1).trans h.1, (hb.block _ (Array.getElem?_eq_some_iff.1 h.2).1).trans h.2⟩
theorem nil_rdQ (w : World) : RdB w (.slice none 0 0) [] := .inl ⟨_, _, rfl, fun _ => rfl, rfl⟩
end Go.Proofs.YtegffpjhdodldaaDoor.wir.val
namespace Go.Proofs.YtegffpjhdodldaaDoor.wir.val
open Go.RowKit Go.YtegffpjhdodldaaDoor
set_option linter.unusedVariables false
/-- What every operation that comes in has, whatever its sizes. -/
structure Od.Raw (o : Od) : Prop where
  au : o.au < 4294967296
  F : Bytes o.F
  st : o.st < 18446744073709551616
  k : 0 ≤ o.k ∧ o.k < 256
  vk : 0 ≤ o.v.k ∧ o.v.k < 256
  vn : -9223372036854775808 ≤ o.v.n ∧ o.v.n ≤ 9223372036854775807
  vb : o.v.b < 18446744073709551616
  e : o.e < 4294967296
  s : o.s < 4294967296
theorem same_true (va vb : Value) (a : List Int) (w : World) (hm : a.length ≤ 140737488355328) (h1 : RdB w va a) (h2 : RdB w vb a) :
    Calls Tryd.prog 15 #[va, vb] w fun e w' => e = .returned (.bool true) ∧ Below w.heap.size w w' := by
  have h := same_any va vb a a w hm h1 h2
  rw [sameF_self] at h
  exact h.mono fun e w' ⟨he, hd⟩ => ⟨he, hd.below (Below.refl _ _)⟩
end Go.Proofs.YtegffpjhdodldaaDoor.wir.val

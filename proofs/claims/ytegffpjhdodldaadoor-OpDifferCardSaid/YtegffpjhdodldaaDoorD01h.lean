/- Contracts of digest.Add, digest.End and digest.Cmp. Contracts of digest.End and digest.Cmp. Contract of digest.End. -/
import Derived.Test.YtegffpjhdodldaaDoorD01f
import Derived.Test.YtegffpjhdodldaaDoorD01c
import Derived.Test.YtegffpjhdodldaaDoorLibB
import Derived.Test.YtegffpjhdodldaaDoorLibD
import Derived.Test.YtegffpjhdodldaaDoorD01e
import Derived.Test.YtegffpjhdodldaaDoorD01g
namespace Go.Proofs.YtegffpjhdodldaaDoor
open Go.RowKit Go.YtegffpjhdodldaaDoor
set_option linter.unusedVariables false
variable {Tg Tf : TypeId}
theorem validB_yes (N rn : Nat) (hN : N ≤ 200000) (hr : rn = N % 64) : validB (N : Int) rn = true := by unfold validB; simp; omega
theorem below2 (w : World) (o1 o2 : Obj) {w1 : World} (hb1 : Below ((w.alloc o1).alloc o2).heap.size ((w.alloc o1).alloc o2) w1) : Below w.heap.size w w1 ∧ w.heap.size + 1 < w1.heap.size ∧ w1.heap[w.heap.size + 1]? = some o2 := by
  have h := hb1.size
  rw [World.size_alloc, World.size_alloc] at h
  exact ⟨(((Below.refl _ _).alloc (Nat.le_refl _) _).alloc (by simp) _).trans (hb1.mono (by simp; omega)), by omega, (hb1.block _ (by simp)).trans (hn2 w _ _)⟩
set_option maxRecDepth 100000 in
set_option maxHeartbeats 400000 in
theorem add_bad (v : V8) (rv : Value) (rn : Nat) (N : Int) (bv : Value) (w : World) (hr : ∃ a c, rv = .slice a rn c) (hv : validB N rn = false) :
    Calls Tryd.prog 18 #[.agg #[.int .u32 v.a, .int .u32 v.b, .int .u32 v.c, .int .u32 v.d, .int .u32 v.e, .int .u32 v.f, .int .u32 v.g, .int .u32 v.h, rv, .int .i64 N], bv] w
     fun e w' => e = .returned (.tuple #[.agg #[.int .u32 0, .int .u32 0, .int .u32 0, .int .u32 0, .int .u32 0, .int .u32 0, .int .u32 0, .int .u32 0, .slice none 0 0, .int .i64 0], .int .i64 8]) ∧ Below w.heap.size w w' := by
  obtain ⟨a, c, rfl⟩ := hr
  go_enter Tryd.func18, Tryd.ntmps18
  go_wp2_with (go_at_call 38; refine (valid_any v _ rn N _ ⟨a, c, rfl⟩).mono ?_; rintro e w1 ⟨rfl, hb1⟩; obtain ⟨hc1, hf1⟩ := bcell hb1; have hs1 := fun b (h : b < _) => Nat.lt_of_lt_of_le h hb1.size; have hb1' := Lib.hid hb1; clear hb1)
  try simp only [Exit.inBlock, Exit.then]
  obtain ⟨hB, _, hrow⟩ := below2 w _ _ hb1'.out
  rw [set10_world hrow]
  exact bodyPost_ret (results_row_tmp rfl _ _ (w.heap.size + 1) 51 _ _ _ rfl (setRow_heap _ _ _ _ _ _ hrow) Tryd.underlying51 rfl (by kernel_rfl)) rfl ⟨rfl, below_setRow' (g := w.heap.size + 1) hB (by omega) _⟩
set_option maxRecDepth 100000 in
set_option maxHeartbeats 400000 in
theorem add_many (v : V8) (rv : Value) (rn : Nat) (N : Int) (ba : Option Addr) (bn bc : Nat) (w : World) (hr : ∃ a c, rv = .slice a rn c) (hv : validB N rn = true) (hN : 200000 - N < (bn : Int)) (h0 : 0 ≤ N) (h1 : N ≤ 200000) :
    Calls Tryd.prog 18 #[.agg #[.int .u32 v.a, .int .u32 v.b, .int .u32 v.c, .int .u32 v.d, .int .u32 v.e, .int .u32 v.f, .int .u32 v.g, .int .u32 v.h, rv, .int .i64 N], .slice ba bn bc] w
     fun e w' => e = .returned (.tuple #[.agg #[.int .u32 0, .int .u32 0, .int .u32 0, .int .u32 0, .int .u32 0, .int .u32 0, .int .u32 0, .int .u32 0, .slice none 0 0, .int .i64 0], .int .i64 4]) ∧ Below w.heap.size w w' := by
  obtain ⟨a, c, rfl⟩ := hr
  go_enter Tryd.func18, Tryd.ntmps18
  go_wp2_with (go_at_call 38; refine (valid_any v _ rn N _ ⟨a, c, rfl⟩).mono ?_; rintro e w1 ⟨rfl, hb1⟩; obtain ⟨hc1, hf1⟩ := bcell hb1; have hs1 := fun b (h : b < _) => Nat.lt_of_lt_of_le h hb1.size; have hb1' := Lib.hid hb1; clear hb1)
  try simp only [Exit.inBlock, Exit.then]
  obtain ⟨hB, _, hrow⟩ := below2 w _ _ hb1'.out
  rw [set10_world hrow]
  exact bodyPost_ret (results_row_tmp rfl _ _ (w.heap.size + 1) 51 _ _ _ rfl (setRow_heap _ _ _ _ _ _ hrow) Tryd.underlying51 rfl (by kernel_rfl)) rfl ⟨rfl, below_setRow' (g := w.heap.size + 1) hB (by omega) _⟩
set_option maxRecDepth 100000 in
set_option maxHeartbeats 400000 in
theorem add_ok (v G : V8) (rv : Value) (r : List Int) (M : Nat) (bv : Value) (l : List Int) (w : World) (hv : v.ok) (hr : RdB w rv r) (hl : RdB w bv l) (hrb : Bytes r) (hlb : Bytes l) (hrl : r.length = M % 64) (hN : M + l.length ≤ 200000) (hG : blocksF v (r ++ l) = G)
   (hg : w.heap[1]? = some (.cells (u32s constW) Tg (0, 0))) :
    Calls Tryd.prog 18 #[.agg #[.int .u32 v.a, .int .u32 v.b, .int .u32 v.c, .int .u32 v.d, .int .u32 v.e, .int .u32 v.f, .int .u32 v.g, .int .u32 v.h, rv, .int .i64 M], bv] w
     fun e w' => ∃ r', e = .returned (.tuple #[.agg #[.int .u32 G.a, .int .u32 G.b, .int .u32 G.c, .int .u32 G.d, .int .u32 G.e, .int .u32 G.f, .int .u32 G.g, .int .u32 G.h, r', .int .i64 (M + l.length : Nat)], .int .i64 0]) ∧ OwnB w.heap.size 5 w' r' (restF (r ++ l)) ∧ Below w.heap.size w w' := by
  obtain ⟨a, c, rfl⟩ := hr.slice
  obtain ⟨ba, bc, rfl⟩ := hl.slice
  have hvd := validB_yes M r.length (by omega) hrl
  have hlt : 1 < w.heap.size := (Array.getElem?_eq_some_iff.1 hg).1
  have hr' := Lib.hid hr; have hl' := Lib.hid hl; have hg' := Lib.hid hg; have hG' := Lib.hid hG; have hrl' := Lib.hid hrl
  clear hr hl hg hG hrl
  go_enter Tryd.func18, Tryd.ntmps18
  go_wp2_with (first | (go_at_call 38; refine (valid_any v _ r.length M _ ⟨a, c, rfl⟩).mono ?_; rintro e w1 ⟨rfl, hb1⟩; obtain ⟨hc1, hf1⟩ := bcell hb1; have hs1 := fun b (h : b < _) => Nat.lt_of_lt_of_le h hb1.size; obtain ⟨hB1, hz1, hrow1⟩ := below2 w _ _ hb1; have hr1 := Lib.hid (hr'.out.mono hB1); have hl1 := Lib.hid (hl'.out.mono hB1); have hg1 := Lib.hid ((hB1.block _ hlt).trans hg'.out); have hrow1' := Lib.hid hrow1; have hB1' := Lib.hid hB1; clear hb1 hrow1 hB1) | (go_at_call 39; refine (put_any (Tg := Tg) v G (.slice a r.length c) r M (.slice ba l.length bc) l _ hv hr1.out hl1.out hrb hlb (hrl'.out ▸ Nat.mod_lt _ (by decide)) hN hG'.out hg1.out).mono ?_; rintro e w2 ⟨r', rfl, ho2, hb2⟩; obtain ⟨pa, pc, rfl⟩ := ho2.rd.slice; obtain ⟨hc2, hf2⟩ := bcell hb2; have hs2 := fun b (h : b < _) => Nat.lt_of_lt_of_le h hb2.size; have ho2' := Lib.hid ho2; have hb2' := Lib.hid hb2; clear ho2 hb2))
  try simp only [Exit.inBlock, Exit.then]
  have hrow := (hb2'.out.block _ hz1).trans hrow1'.out
  have hB : Below w.heap.size w w2 := hB1'.out.trans (hb2'.out.mono (by omega))
  rw [set10_world hrow]
  exact bodyPost_ret (results_row_tmp rfl _ _ (w.heap.size + 1) 51 _ _ _ rfl (setRow_heap _ _ _ _ _ _ hrow) Tryd.underlying51 rfl (by kernel_rfl)) rfl ⟨_, rfl, ownB_setRow ho2'.out (by omega) (by omega) _, below_setRow' (g := w.heap.size + 1) hB (by omega) _⟩
end Go.Proofs.YtegffpjhdodldaaDoor
namespace Go.Proofs.YtegffpjhdodldaaDoor
open Go.RowKit Go.YtegffpjhdodldaaDoor
set_option linter.unusedVariables false
theorem ext_compare (va vb : Value) (a b : List Int) (w : World) (ha : RdB w va a) (hb : RdB w vb b) (h1 : Bytes a) (h2 : Bytes b) :
    (callFunc 97 #[va, vb]).run Tryd.prog w = .ok (.value (.int .i64 (cmpF a b))) w := by
  rw [run_callFunc_extern (fn := Tryd.f97) (e := Extern.BytealgCompare.compare) Tryd.func97 (by decide) rfl (by kernel_rfl) (by kernel_rfl), run_compareB ha hb h1 h2]
  rfl
theorem compare_any (va vb : Value) (a b : List Int) (w : World) (ha : RdB w va a) (hb : RdB w vb b) (h1 : Bytes a) (h2 : Bytes b) :
    Calls Tryd.prog 85 #[va, vb] w fun e w' => e = .returned (.int .i64 (cmpF a b)) ∧ w = w' := by
  have hx := ext_compare va vb a b w ha hb h1 h2
  clear ha hb h1 h2
  go_enter Tryd.func85, Tryd.ntmps85
  go_wp2
  go_ret
  exact ⟨rfl, rfl⟩
set_option maxRecDepth 100000 in
set_option maxHeartbeats 400000 in
theorem cmp_any (a b : List Int) (w : World) (ha : a.length = 32) (hb : b.length = 32) (h1 : Bytes a) (h2 : Bytes b) :
    Calls Tryd.prog 65 #[.agg (u8s a), .agg (u8s b)] w fun e w' => e = .returned (.int .i64 (cmpF a b)) ∧ Below w.heap.size w w' := by
  have hs1 := fun wx => run_sliceAt_full (P := Tryd.prog) Tryd.underlying55 (by kernel_rfl) w.heap.size wx
  have hs2 := fun wx => run_sliceAt_full (P := Tryd.prog) Tryd.underlying55 (by kernel_rfl) (w.heap.size + 1) wx
  have hr1 : RdB ((w.alloc (.cells (u8s a) 55)).alloc (.cells (u8s b) 55)) (.slice (some ⟨w.heap.size, 0, none⟩) 32 32) a := by
    exact rd_row (E := 55) ((hp1 _ _ _ (by simp)).trans (heap_alloc_new w _)) 32 32 ha (Nat.le_refl _) (by unfold maxLen; omega)
  have hr2 : RdB ((w.alloc (.cells (u8s a) 55)).alloc (.cells (u8s b) 55)) (.slice (some ⟨w.heap.size + 1, 0, none⟩) 32 32) b := by
    exact rd_row (E := 55) (hn2 w _ _) 32 32 hb (Nat.le_refl _) (by unfold maxLen; omega)
  have hr1' := Lib.hid hr1; have hr2' := Lib.hid hr2; have h1' := Lib.hid h1; have h2' := Lib.hid h2
  clear hr1 hr2 ha hb h1 h2
  go_enter Tryd.func65, Tryd.ntmps65
  go_wp2
  go_region_with (go_at_call 85; refine (compare_any _ _ a b _ ?_ ?_ h1'.out h2'.out).mono ?_; (exact hr1'.out); (exact hr2'.out); rintro e w' ⟨rfl, rfl⟩)
  all_goals
    go_wp2
    go_ret
    exact ⟨rfl, (((Below.refl _ _).alloc (Nat.le_refl _) _).alloc (by simp) _).drew⟩
end Go.Proofs.YtegffpjhdodldaaDoor
namespace Go.Proofs.YtegffpjhdodldaaDoor
open Go.RowKit Go.YtegffpjhdodldaaDoor
set_option linter.unusedVariables false
variable {Tg Tf : TypeId}
theorem info_id : (Tryd.prog.info? 55).map (·.size) = some (u8s (zerosB 32)).size := by kernel_rfl
theorem zeros_size : (u8s (zerosB 32)).size = 32 := by kernel_rfl
set_option maxRecDepth 100000 in
set_option maxHeartbeats 400000 in
theorem end_bad (v : V8) (rv : Value) (rn : Nat) (N : Int) (w : World) (hr : ∃ a c, rv = .slice a rn c) (hv : validB N rn = false) :
    Calls Tryd.prog 19 #[.agg #[.int .u32 v.a, .int .u32 v.b, .int .u32 v.c, .int .u32 v.d, .int .u32 v.e, .int .u32 v.f, .int .u32 v.g, .int .u32 v.h, rv, .int .i64 N]] w
     fun e w' => e = .returned (.tuple #[.agg (u8s (zerosB 32)), .int .i64 8]) ∧ Below w.heap.size w w' := by
  obtain ⟨a, c, rfl⟩ := hr
  go_enter Tryd.func19, Tryd.ntmps19
  go_wp2_with (first | (go_at_call 38; refine (valid_any v _ rn N _ ⟨a, c, rfl⟩).mono ?_; rintro e w1 ⟨rfl, hb1⟩; obtain ⟨hB1, hz1, hrow1⟩ := below2 w _ _ hb1; have hrow1' := Lib.hid (show w1.heap[w.heap.size + 1]? = some (.cells (u8s (zerosB 32)) 55 (0, 0)) from hrow1); have hB1' := Lib.hid hB1; clear hb1 hrow1 hB1) | (refine wpList_store_row rfl 55 _ _ rfl (w.heap.size + 1) (u8s (zerosB 32)) rfl rfl 55 _ hrow1'.out info_id rfl (u8s_one _) ?_))
  try simp only [Exit.inBlock, Exit.then]
  exact bodyPost_ret (results_row_tmp rfl _ _ (w.heap.size + 1) 55 _ _ _ rfl (setRow_heap _ _ _ _ _ _ hrow1'.out) Tryd.underlying55 rfl info_id) rfl ⟨rfl, below_setRow' (g := w.heap.size + 1) hB1'.out (by omega) _⟩
set_option maxRecDepth 100000 in
set_option maxHeartbeats 400000 in
theorem end_ok (v : V8) (rv : Value) (r : List Int) (M : Nat) (w : World) (hv : v.ok) (hr : RdB w rv r) (hrb : Bytes r) (hrl : r.length = M % 64) (hN : M ≤ 200000)
   (hg : w.heap[1]? = some (.cells (u32s constW) Tg (0, 0))) :
    Calls Tryd.prog 19 #[.agg #[.int .u32 v.a, .int .u32 v.b, .int .u32 v.c, .int .u32 v.d, .int .u32 v.e, .int .u32 v.f, .int .u32 v.g, .int .u32 v.h, rv, .int .i64 M]] w
     fun e w' => e = .returned (.tuple #[.agg (u8s (endF v r M)), .int .i64 0]) ∧ Below w.heap.size w w' := by
  obtain ⟨a, c, rfl⟩ := hr.slice
  have hvd := validB_yes M r.length (by omega) hrl
  have hlt : 1 < w.heap.size := (Array.getElem?_eq_some_iff.1 hg).1
  have hlen : (endF v r M).length = 32 := writtenN_length _ 8
  have hi : (Tryd.prog.info? 55).map (·.size) = some (u8s (endF v r M)).size := by rw [u8s_size, hlen]; kernel_rfl
  have hs2 : (u8s (zerosB 32)).size = (u8s (endF v r M)).size := by rw [u8s_size, u8s_size, hlen, zerosB_length]
  have hr' := Lib.hid hr; have hg' := Lib.hid hg; have hrl' := Lib.hid hrl; have hi' := Lib.hid hi; have hs2' := Lib.hid hs2
  clear hr hg hrl hi hs2 hlen
  go_enter Tryd.func19, Tryd.ntmps19
  go_wp2_with (first | (go_at_call 38; refine (valid_any v _ r.length M _ ⟨a, c, rfl⟩).mono ?_; rintro e w1 ⟨rfl, hb1⟩; obtain ⟨hc1, hf1⟩ := bcell hb1; have hs1 := fun b (h : b < _) => Nat.lt_of_lt_of_le h hb1.size; obtain ⟨hB1, hz1, hrow1⟩ := below2 w _ _ hb1; have hr1 := Lib.hid (hr'.out.mono hB1); have hg1 := Lib.hid ((hB1.block _ hlt).trans hg'.out); have hrow1' := Lib.hid (show w1.heap[w.heap.size + 1]? = some (.cells (u8s (zerosB 32)) 55 (0, 0)) from hrow1); have hB1' := Lib.hid hB1; clear hb1 hrow1 hB1) | (go_at_call 40; refine (finish_any (Tg := Tg) v _ (.slice a r.length c) r M _ hv hr1.out hrb (hrl'.out ▸ Nat.mod_lt _ (by decide)) hN rfl hg1.out).mono ?_; rintro e w2 ⟨rfl, hb2⟩; have hrow2' := Lib.hid ((hb2.block _ hz1).trans hrow1'.out); have hB2' := Lib.hid (hB1'.out.trans (hb2.mono (by omega))); clear hb2) | (refine wpList_store_row rfl 55 _ _ rfl (w.heap.size + 1) (u8s (endF v r M)) rfl rfl 55 _ hrow2'.out hi'.out hs2'.out (u8s_one _) ?_))
  try simp only [Exit.inBlock, Exit.then]
  exact bodyPost_ret (results_row_tmp rfl _ _ (w.heap.size + 1) 55 _ _ _ rfl (setRow_heap _ _ _ _ _ _ hrow2'.out) Tryd.underlying55 rfl hi'.out) rfl ⟨rfl, below_setRow' (g := w.heap.size + 1) hB2'.out (by omega) _⟩
end Go.Proofs.YtegffpjhdodldaaDoor

/- Contracts of digest.putWord, digest.valid and digest.Start. -/
import Derived.Test.YtfncepfjnljhlaaDoorD01a
import Derived.Test.YtfncepfjnljhlaaDoorM01b
namespace Go.Proofs.YtfncepfjnljhlaaDoor
open Go.RowKit Go.YtfncepfjnljhlaaDoor
set_option linter.unusedVariables false
variable {Tg Tf : TypeId}
def put4 (cs : List Int) (o : Nat) (x : Int) : List Int := (((cs.set o (x / 16777216)).set (o + 1) (x / 65536 % 256)).set (o + 2) (x / 256 % 256)).set (o + 3) (x % 256)
theorem put4_world (g o : Nat) (cs : List Int) (T : TypeId) (w : World) {x0 x1 x2 x3 : Int} (hg : w.heap[g]? = some (.cells (u8s cs) T (0, 0))) :
    (((w.setCell ⟨g, o, none⟩ (.int .u8 x0)).setCell ⟨g, o + 1, none⟩ (.int .u8 x1)).setCell ⟨g, o + 2, none⟩ (.int .u8 x2)).setCell ⟨g, o + 3, none⟩ (.int .u8 x3) = w.setRow g (u8s ((((cs.set o x0).set (o + 1) x1).set (o + 2) x2).set (o + 3) x3)) := by
  have h := fun l => setRow_heap w g (u8s cs) (u8s l) T (0, 0) hg
  rw [setCell_eq hg, u8s_set, setCell_eq (h _), u8s_set, setRow2 hg, setCell_eq (h _), u8s_set, setRow2 hg, setCell_eq (h _), u8s_set, setRow2 hg]
set_option maxHeartbeats 400000 in
theorem putWord_any (g o n c : Nat) (cs : List Int) (T : TypeId) (x : Int) (w : World) (hn : 4 ≤ n) (hx : In32 x) (hg : w.heap[g]? = some (.cells (u8s cs) T (0, 0))) (ho : o + 4 ≤ cs.length) :
    Calls Tryd.prog 78 #[.slice (some ⟨g, o, none⟩) n c, .int .u32 x] w fun e w' => e = .returned (.tuple #[]) ∧ w' = w.setRow g (u8s (put4 cs o x)) := by
  obtain ⟨hx, hx2⟩ := hx
  have hc : ∀ j, j < 4 → w.cell? ⟨g, o + j, none⟩ = some (.int .u8 (ith cs (o + j))) := fun j hj => by
    rw [cell_of_row _ _ _ _ _ _ hg]; exact u8s_get _ _ (by omega)
  have hf : ∀ j, w.frozen? ⟨g, o + j, none⟩ = false := fun j => frozen_of_row _ _ _ _ _ hg
  have c0 := hc 0 (by omega); have c1 := hc 1 (by omega); have c2 := hc 2 (by omega); have c3 := hc 3 (by omega)
  have f0 := hf 0; have f1 := hf 1; have f2 := hf 2; have f3 := hf 3
  simp only [Nat.add_zero] at c0 f0
  have hg' := Lib.hid hg
  clear hc hf hg
  go_enter Tryd.func78, Tryd.ntmps78
  go_wp2
  go_end0
  exact ⟨rfl, by unfold put4; exact put4_world _ _ _ _ _ hg'.out⟩
def validB (N : Int) (rn : Nat) : Bool := decide (0 ≤ N ∧ N ≤ 200000 ∧ (rn : Int) = N % 64)
set_option maxHeartbeats 400000 in
theorem valid_any (v : V8) (r : Value) (rn : Nat) (N : Int) (w : World) (hr : ∃ a c, r = .slice a rn c) :
    Calls Tryd.prog 54 #[.agg #[.int .u32 v.a, .int .u32 v.b, .int .u32 v.c, .int .u32 v.d, .int .u32 v.e, .int .u32 v.f, .int .u32 v.g, .int .u32 v.h, r, .int .i64 N]] w
      fun e w' => e = .returned (.bool (validB N rn)) ∧ Below w.heap.size w w' := by
  obtain ⟨a, c, rfl⟩ := hr
  go_enter Tryd.func54, Tryd.ntmps54
  go_wp2
  all_goals
    go_ret
    refine ⟨ret_bool ?_, (Below.refl _ _).alloc (Nat.le_refl _) _⟩
    rw [Bool.eq_iff_iff]
    simp [validB]
    omega
set_option maxHeartbeats 400000 in
theorem start_any (w : World) (hg : w.heap[0]? = some (.cells firstW.cells Tf (0, 0))) :
    Calls Tryd.prog 30 #[] w
      fun e w' => e = .returned (.agg #[.int .u32 firstW.a, .int .u32 firstW.b, .int .u32 firstW.c, .int .u32 firstW.d, .int .u32 firstW.e, .int .u32 firstW.f, .int .u32 firstW.g, .int .u32 firstW.h, .slice none 0 0, .int .i64 0]) ∧ Below w.heap.size w w' := by
  have hlt : 0 < w.heap.size := (Array.getElem?_eq_some_iff.1 hg).1
  have hg2 : ∀ o1, (w.alloc o1).heap[0]? = some (.cells firstW.cells Tf (0, 0)) := fun o1 => (hp1 w o1 _ hlt).trans hg
  simp only [firstW, V8.cells] at hg2 ⊢
  have hg' := Lib.hid hg2; clear hg hg2
  go_enter Tryd.func30, Tryd.ntmps30
  go_wp2_with (refine wpList_load_row rfl 33 _ rfl 0 rfl Tf _ _ _ (hg'.out _) Tryd.underlying33 rfl (by kernel_rfl) ?_)
  try simp only [Exit.inBlock, Exit.then]
  exact bodyPost_ret (results_cell_row rfl _ _ w.heap.size 35 _ _ _ rfl (heap_alloc_new w _) Tryd.underlying35 rfl (by kernel_rfl)) rfl ⟨rfl, (Below.refl _ _).alloc (Nat.le_refl _) _⟩
end Go.Proofs.YtfncepfjnljhlaaDoor

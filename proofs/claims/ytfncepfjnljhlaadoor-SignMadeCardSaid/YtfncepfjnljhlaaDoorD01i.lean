/- Contracts of digest.End and digest.Cmp. -/
import Derived.Test.YtfncepfjnljhlaaDoorD01h
import Derived.Test.YtfncepfjnljhlaaDoorLibD
import Derived.Test.YtfncepfjnljhlaaDoorD01e
namespace Go.Proofs.YtfncepfjnljhlaaDoor
open Go.RowKit Go.YtfncepfjnljhlaaDoor
set_option linter.unusedVariables false
theorem ext_compare (va vb : Value) (a b : List Int) (w : World) (ha : RdB w va a) (hb : RdB w vb b) (h1 : Bytes a) (h2 : Bytes b) :
    (callFunc 79 #[va, vb]).run Tryd.prog w = .ok (.value (.int .i64 (cmpF a b))) w := by
  rw [run_callFunc_extern (fn := Tryd.f79) (e := Extern.BytealgCompare.compare) Tryd.func79 (by decide) rfl (by kernel_rfl) (by kernel_rfl), run_compareB ha hb h1 h2]
  rfl
theorem compare_any (va vb : Value) (a b : List Int) (w : World) (ha : RdB w va a) (hb : RdB w vb b) (h1 : Bytes a) (h2 : Bytes b) :
    Calls Tryd.prog 55 #[va, vb] w fun e w' => e = .returned (.int .i64 (cmpF a b)) ∧ w = w' := by
  have hx := ext_compare va vb a b w ha hb h1 h2
  clear ha hb h1 h2
  go_enter Tryd.func55, Tryd.ntmps55
  go_wp2
  go_ret
  exact ⟨rfl, rfl⟩
set_option maxRecDepth 100000 in
set_option maxHeartbeats 400000 in
theorem cmp_any (a b : List Int) (w : World) (ha : a.length = 32) (hb : b.length = 32) (h1 : Bytes a) (h2 : Bytes b) :
    Calls Tryd.prog 19 #[.agg (u8s a), .agg (u8s b)] w fun e w' => e = .returned (.int .i64 (cmpF a b)) ∧ Below w.heap.size w w' := by
  have hs1 := fun wx => run_sliceAt_full (P := Tryd.prog) Tryd.underlying25 (by kernel_rfl) w.heap.size wx
  have hs2 := fun wx => run_sliceAt_full (P := Tryd.prog) Tryd.underlying25 (by kernel_rfl) (w.heap.size + 1) wx
  have hr1 : RdB ((w.alloc (.cells (u8s a) 25)).alloc (.cells (u8s b) 25)) (.slice (some ⟨w.heap.size, 0, none⟩) 32 32) a := by
    exact rd_row (E := 25) ((hp1 _ _ _ (by simp)).trans (heap_alloc_new w _)) 32 32 ha (Nat.le_refl _) (by unfold maxLen; omega)
  have hr2 : RdB ((w.alloc (.cells (u8s a) 25)).alloc (.cells (u8s b) 25)) (.slice (some ⟨w.heap.size + 1, 0, none⟩) 32 32) b := by
    exact rd_row (E := 25) (hn2 w _ _) 32 32 hb (Nat.le_refl _) (by unfold maxLen; omega)
  have hr1' := Lib.hid hr1; have hr2' := Lib.hid hr2; have h1' := Lib.hid h1; have h2' := Lib.hid h2
  clear hr1 hr2 ha hb h1 h2
  go_enter Tryd.func19, Tryd.ntmps19
  go_wp2
  go_region_with (go_at_call 55; refine (compare_any _ _ a b _ ?_ ?_ h1'.out h2'.out).mono ?_; (exact hr1'.out); (exact hr2'.out); rintro e w' ⟨rfl, rfl⟩)
  all_goals
    go_wp2
    go_ret
    exact ⟨rfl, (((Below.refl _ _).alloc (Nat.le_refl _) _).alloc (by simp) _).drew⟩
end Go.Proofs.YtfncepfjnljhlaaDoor

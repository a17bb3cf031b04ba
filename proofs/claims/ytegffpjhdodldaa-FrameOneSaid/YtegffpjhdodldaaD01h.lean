/- Contracts of digest.Add, digest.End and digest.Cmp. Contracts of digest.End and digest.Cmp. Contract of digest.End. -/
import Derived.Test.YtegffpjhdodldaaD01f
import Derived.Test.YtegffpjhdodldaaD01c
import Derived.Test.YtegffpjhdodldaaLibB
import Derived.Test.YtegffpjhdodldaaLibD
import Derived.Test.YtegffpjhdodldaaD01e
import Derived.Test.YtegffpjhdodldaaD01g
namespace Go.Proofs.Ytegffpjhdodldaa
open Go.RowKit Go.Ytegffpjhdodldaa
set_option linter.unusedVariables false
variable {Tg Tf : TypeId}
theorem validB_yes (N rn : Nat) (hN : N ≤ 200000) (hr : rn = N % 64) : validB (N : Int) rn = true := by unfold validB; simp; omega
theorem below2 (w : World) (o1 o2 : Obj) {w1 : World} (hb1 : Below ((w.alloc o1).alloc o2).heap.size ((w.alloc o1).alloc o2) w1) : Below w.heap.size w w1 ∧ w.heap.size + 1 < w1.heap.size ∧ w1.heap[w.heap.size + 1]? = some o2 := by
  have h := hb1.size
  rw [World.size_alloc, World.size_alloc] at h
  exact ⟨(((Below.refl _ _).alloc (Nat.le_refl _) _).alloc (by simp) _).trans (hb1.mono (by simp; omega)), by omega, (hb1.block _ (by simp)).trans (hn2 w _ _)⟩
end Go.Proofs.Ytegffpjhdodldaa
namespace Go.Proofs.Ytegffpjhdodldaa
open Go.RowKit Go.Ytegffpjhdodldaa
set_option linter.unusedVariables false
theorem ext_compare (va vb : Value) (a b : List Int) (w : World) (ha : RdB w va a) (hb : RdB w vb b) (h1 : Bytes a) (h2 : Bytes b) :
    (callFunc 61 #[va, vb]).run Try.prog w = .ok (.value (.int .i64 (cmpF a b))) w := by
  rw [run_callFunc_extern (fn := Try.f61) (e := Extern.BytealgCompare.compare) Try.func61 (by decide) rfl (by kernel_rfl) (by kernel_rfl), run_compareB ha hb h1 h2]
  rfl
theorem compare_any (va vb : Value) (a b : List Int) (w : World) (ha : RdB w va a) (hb : RdB w vb b) (h1 : Bytes a) (h2 : Bytes b) :
    Calls Try.prog 56 #[va, vb] w fun e w' => e = .returned (.int .i64 (cmpF a b)) ∧ w = w' := by
  have hx := ext_compare va vb a b w ha hb h1 h2
  clear ha hb h1 h2
  go_enter Try.func56, Try.ntmps56
  go_wp2
  go_ret
  exact ⟨rfl, rfl⟩
set_option maxRecDepth 100000 in
set_option maxHeartbeats 400000 in
theorem cmp_any (a b : List Int) (w : World) (ha : a.length = 32) (hb : b.length = 32) (h1 : Bytes a) (h2 : Bytes b) :
    Calls Try.prog 46 #[.agg (u8s a), .agg (u8s b)] w fun e w' => e = .returned (.int .i64 (cmpF a b)) ∧ Below w.heap.size w w' := by
  have hs1 := fun wx => run_sliceAt_full (P := Try.prog) Try.underlying58 (by kernel_rfl) w.heap.size wx
  have hs2 := fun wx => run_sliceAt_full (P := Try.prog) Try.underlying58 (by kernel_rfl) (w.heap.size + 1) wx
  have hr1 : RdB ((w.alloc (.cells (u8s a) 58)).alloc (.cells (u8s b) 58)) (.slice (some ⟨w.heap.size, 0, none⟩) 32 32) a := by
    exact rd_row (E := 58) ((hp1 _ _ _ (by simp)).trans (heap_alloc_new w _)) 32 32 ha (Nat.le_refl _) (by unfold maxLen; omega)
  have hr2 : RdB ((w.alloc (.cells (u8s a) 58)).alloc (.cells (u8s b) 58)) (.slice (some ⟨w.heap.size + 1, 0, none⟩) 32 32) b := by
    exact rd_row (E := 58) (hn2 w _ _) 32 32 hb (Nat.le_refl _) (by unfold maxLen; omega)
  have hr1' := Lib.hid hr1; have hr2' := Lib.hid hr2; have h1' := Lib.hid h1; have h2' := Lib.hid h2
  clear hr1 hr2 ha hb h1 h2
  go_enter Try.func46, Try.ntmps46
  go_wp2
  go_region_with (go_at_call 56; refine (compare_any _ _ a b _ ?_ ?_ h1'.out h2'.out).mono ?_; (exact hr1'.out); (exact hr2'.out); rintro e w' ⟨rfl, rfl⟩)
  all_goals
    go_wp2
    go_ret
    exact ⟨rfl, (((Below.refl _ _).alloc (Nat.le_refl _) _).alloc (by simp) _).drew⟩
end Go.Proofs.Ytegffpjhdodldaa
namespace Go.Proofs.Ytegffpjhdodldaa
open Go.RowKit Go.Ytegffpjhdodldaa
set_option linter.unusedVariables false
variable {Tg Tf : TypeId}
theorem info_id : (Try.prog.info? 58).map (·.size) = some (u8s (zerosB 32)).size := by kernel_rfl
theorem zeros_size : (u8s (zerosB 32)).size = 32 := by kernel_rfl
end Go.Proofs.Ytegffpjhdodldaa

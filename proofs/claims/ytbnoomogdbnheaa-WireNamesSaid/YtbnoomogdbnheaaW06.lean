/- The examples of layer 4 hold: alive. -/
import Derived.Test.YtbnoomogdbnheaaW05
import Derived.Lib.SlBytesConst
namespace Go.Proofs.Ytbnoomogdbnheaa
open Go.RowKit Go.Ytbnoomogdbnheaa
set_option linter.unusedVariables false
set_option maxRecDepth 10000
theorem bytesB {l : List Int} (h : (l.all fun x => decide (0 ≤ x) && decide (x < 256)) = true) : Bytes l := by
  intro i
  unfold ith
  cases e : l[i]? with
  | none => simp
  | some k =>
    have h2 := List.all_eq_true.1 h k (List.mem_of_getElem? e)
    simpa using h2
def big : Int := 18446744073709551615
theorem lit_247 (w : World) : Calls Try.prog 9 #[.int .u64 247, .slice (some ⟨w.heap.size, 0, none⟩) 1 1] (w.alloc (.cells #[.int .u8 247] 5)) fun e w' => e = .returned (.bool true) ∧ Below w.heap.size w w' := number_lit 247 247 rfl (by decide) [247] (by decide +kernel) #[.int .u8 247] 1 rfl rfl (by decide) w
theorem lit_248 (w : World) : Calls Try.prog 9 #[.int .u64 248, .slice (some ⟨w.heap.size, 0, none⟩) 2 2] (w.alloc (.cells #[.int .u8 248, .int .u8 248] 5)) fun e w' => e = .returned (.bool true) ∧ Below w.heap.size w w' := number_lit 248 248 rfl (by decide) [248, 248] (by decide +kernel) #[.int .u8 248, .int .u8 248] 2 rfl rfl (by decide) w
theorem lit_256 (w : World) : Calls Try.prog 9 #[.int .u64 256, .slice (some ⟨w.heap.size, 0, none⟩) 3 3] (w.alloc (.cells #[.int .u8 249, .int .u8 1, .int .u8 0] 5)) fun e w' => e = .returned (.bool true) ∧ Below w.heap.size w w' := number_lit 256 256 rfl (by decide) [249, 1, 0] (by decide +kernel) #[.int .u8 249, .int .u8 1, .int .u8 0] 3 rfl rfl (by decide) w
theorem lit_max (w : World) : Calls Try.prog 9 #[.int .u64 18446744073709551615, .slice (some ⟨w.heap.size, 0, none⟩) 9 9] (w.alloc (.cells #[.int .u8 255, .int .u8 255, .int .u8 255, .int .u8 255, .int .u8 255, .int .u8 255, .int .u8 255, .int .u8 255, .int .u8 255] 5)) fun e w' => e = .returned (.bool true) ∧ Below w.heap.size w w' := number_lit 18446744073709551615 18446744073709551615 rfl (by decide) [255, 255, 255, 255, 255, 255, 255, 255, 255] (by decide +kernel) #[.int .u8 255, .int .u8 255, .int .u8 255, .int .u8 255, .int .u8 255, .int .u8 255, .int .u8 255, .int .u8 255, .int .u8 255] 9 rfl rfl (by decide) w
theorem lit_m1 (w : World) : Calls Try.prog 10 #[.int .i64 (-1), .slice (some ⟨w.heap.size, 0, none⟩) 1 1] (w.alloc (.cells #[.int .u8 1] 5)) fun e w' => e = .returned (.bool true) ∧ Below w.heap.size w w' := signed_lit (-1) (by decide) (by decide) [1] (by decide +kernel) #[.int .u8 1] 1 rfl rfl (by decide) w
theorem lit_m124 (w : World) : Calls Try.prog 10 #[.int .i64 (-124), .slice (some ⟨w.heap.size, 0, none⟩) 1 1] (w.alloc (.cells #[.int .u8 247] 5)) fun e w' => e = .returned (.bool true) ∧ Below w.heap.size w w' := signed_lit (-124) (by decide) (by decide) [247] (by decide +kernel) #[.int .u8 247] 1 rfl rfl (by decide) w
theorem no_1 (w : World) : Calls Try.prog 11 #[.slice (some ⟨w.heap.size, 0, none⟩) 2 2] (w.alloc (.cells #[.int .u8 248, .int .u8 247] 5)) fun e w' => e = .returned (.bool true) ∧ Below w.heap.size w w' := refused_lit  [248, 247] (bytesB (by decide)) (by decide +kernel) #[.int .u8 248, .int .u8 247] 2 rfl rfl (by decide) w
theorem no_2 (w : World) : Calls Try.prog 11 #[.slice (some ⟨w.heap.size, 0, none⟩) 3 3] (w.alloc (.cells #[.int .u8 249, .int .u8 0, .int .u8 255] 5)) fun e w' => e = .returned (.bool true) ∧ Below w.heap.size w w' := refused_lit  [249, 0, 255] (bytesB (by decide)) (by decide +kernel) #[.int .u8 249, .int .u8 0, .int .u8 255] 3 rfl rfl (by decide) w
theorem text_ab : textB [97, 98] = [2, 97, 98] := by decide +kernel
theorem rdB_litF (l : List Int) (cs : Array Value) (k : Nat) (fr : Nat × Nat) (hcs : u8s l = cs) (hk : l.length = k) (hm : k ≤ 1000000) (w : World) : RdB (w.alloc (.cells cs 5 fr)) (.slice (some ⟨w.heap.size, 0, none⟩) k k) l := by
  subst hcs hk
  have hg := heap_alloc_new w (.cells (u8s l) 5 fr)
  exact .inr ⟨w.heap.size, 0, _, rfl, Nat.le_refl _, by unfold maxLen; omega, by simp, fun i hi => by
    rw [Nat.zero_add, cell_of_row _ _ _ _ _ _ hg]; exact u8s_get _ _ (by omega)⟩
theorem bytes_ab (w : World) : Calls Try.prog 12 #[.slice (some ⟨w.heap.size, 0, none⟩) 2 2] (w.alloc (.cells #[.int .u8 97, .int .u8 98] 5 (2, 3))) fun e w' => ∃ g, e = .returned (.tuple #[.slice (some ⟨g, 0, none⟩) 3 3, .int .i64 0]) ∧ RdB w' (.slice (some ⟨g, 0, none⟩) 3 3) [2, 97, 98] ∧ Below w.heap.size w w' :=
  (bytes_any _ [97, 98] _ (rdB_litF [97, 98] #[.int .u8 97, .int .u8 98] 2 (2, 3) rfl rfl (by decide) w) (by decide)).mono fun e w' ⟨g, he, hg, hr, hb⟩ => by
    have h := rdB_row hr _ rfl (by rw [text_ab]; decide)
    rw [text_ab] at he h
    exact ⟨g, he, h, (below_a1 w _).trans (hb.mono (by simp))⟩
theorem same_ab (bv : Value) (w0 w : World) (h : RdB w0 bv [2, 97, 98]) (hw : Below w0.heap.size w0 w) :
    Calls Try.prog 22 #[bv, .slice (some ⟨w.heap.size, 0, none⟩) 3 3] (w.alloc (.cells #[.int .u8 2, .int .u8 97, .int .u8 98] 5)) fun e w' => e = .returned (.bool true) ∧ Below w.heap.size w w' :=
  (same_yesW _ _ [2, 97, 98] _ (by decide) ((h.mono hw).mono (below_a1 w _)) (rdB_lit [2, 97, 98] #[.int .u8 2, .int .u8 97, .int .u8 98] 3 rfl rfl (by decide) w)).mono fun e w' ⟨h1, h2⟩ => ⟨h1, h2.below (below_a1 w _)⟩
set_option maxHeartbeats 1000000 in
theorem alive_any (w : World) : Calls Try.prog 17 #[] w fun e w' => e = .returned (.bool true) ∧ Below w.heap.size w w' := by
  have b0 := Lib.hid (bytes_ab w)
  have kc := fun (w : World) (C : Array Value) (n c : Nat) => Lib.run_convert_bytes_const (P := Try.prog) w 26 5 C n c Try.underlying26 Try.underlying5
  go_enter Try.func17, Try.ntmps17
  go_wp2_with (first
    | (go_at_call 12; (with_reducible refine (b0.out).mono ?_); rintro e w1 ⟨g, rfl, hr, hb⟩; have hr' := Lib.hid hr; have hB0 := Lib.hid hb; have hB := Lib.hid (Below.refl w1.heap.size w1); clear hr hb; refine Stop.go'' _ ?_))
  refine StopP.go ?_
  go_wp2_with (first
    | (go_at_call 9; (first | (with_reducible refine (lit_247 _).mono ?_) | (with_reducible refine (lit_248 _).mono ?_) | (with_reducible refine (lit_256 _).mono ?_) | (with_reducible refine (lit_max _).mono ?_)); rintro e w2 ⟨rfl, hb⟩; have hB := Lib.hid (hB.out.trans (hb.mono hB.out.size)); clear hb)
    | (go_at_call 10; (first | (with_reducible refine (lit_m1 _).mono ?_) | (with_reducible refine (lit_m124 _).mono ?_)); rintro e w2 ⟨rfl, hb⟩; have hB := Lib.hid (hB.out.trans (hb.mono hB.out.size)); clear hb)
    | (go_at_call 11; (first | (with_reducible refine (no_1 _).mono ?_) | (with_reducible refine (no_2 _).mono ?_)); rintro e w2 ⟨rfl, hb⟩; have hB := Lib.hid (hB.out.trans (hb.mono hB.out.size)); clear hb)
    | (go_at_call 22; (with_reducible refine (same_ab _ _ _ hr'.out hB.out).mono ?_); rintro e w2 ⟨rfl, hb⟩; have hB := Lib.hid (hB.out.trans (hb.mono hB.out.size)); clear hb))
  go_ret
  exact ⟨rfl, hB0.out.trans (hB.out.mono hB0.out.size)⟩
end Go.Proofs.Ytbnoomogdbnheaa

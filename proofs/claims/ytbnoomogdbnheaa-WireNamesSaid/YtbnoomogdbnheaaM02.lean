/- WireNames: the walk. -/
import Derived.Test.YtbnoomogdbnheaaM01
namespace Go.Proofs.Ytbnoomogdbnheaa
open Go.RowKit Go.Ytbnoomogdbnheaa
set_option linter.unusedVariables false
set_option maxRecDepth 100000
theorem row_kept {w w' : World} {g : Nat} {b : Obj} (h : w.heap[g]? = some b) (hb : Below w.heap.size w w') : w'.heap[g]? = some b := by
  rw [hb.block g (Array.getElem?_eq_some_iff.1 h).1]; exact h
theorem nbm (Z : Array Value) (w : World) : Calls Try.prog 12 #[.slice (some ⟨w.heap.size, 0, none⟩) 10001 10001] (w.alloc (.cells Z 5)) fun e w' => e = .returned (.tuple #[.slice none 0 0, .int .i64 4]) ∧ Below w.heap.size w w' :=
  (bytes_many _ 10001 10001 _ (by decide)).mono fun e w' ⟨h1, h2⟩ => ⟨h1, h2 ▸ below_a1 w _⟩
theorem idm (Z : Array Value) (w : World) : Calls Try.prog 14 #[.slice (some ⟨w.heap.size, 0, none⟩) 61 61] (w.alloc (.cells Z 35)) fun e w' => e = .returned (.tuple #[.slice none 0 0, .int .i64 4]) ∧ Below w.heap.size w w' :=
  (ids_many _ 61 61 _ (by decide)).mono fun e w' ⟨h1, h2⟩ => ⟨h1, h2 ▸ below_a1 w _⟩
theorem rd_two {w : World} {g : Nat} (h : w.heap[g]? = some (.cells (u8s twoL) 5 (0, 0))) : RdB w (.slice (some ⟨g, 0, none⟩) 65 65) twoL := rdB_row h 65 rfl (by decide)
theorem rd_cut {w : World} {g : Nat} (h : w.heap[g]? = some (.cells (u8s twoL) 5 (0, 0))) : RdB w (.slice (some ⟨g, 0, none⟩) 64 65) (twoL.take 64) := rdB_take (rd_two h) 64 (by decide)
theorem rd_bad {w : World} {g : Nat} (h : w.heap[g]? = some (.cells (u8s badL) 5 (0, 0))) : RdB w (.slice (some ⟨g, 0, none⟩) 65 65) badL := rdB_row h 65 rfl (by decide)
theorem rd_ids {w : World} {g : Nat} (h : w.heap[g]? = some (.cells (u8s twoF) 35 (0, 0))) : RdI w (.slice (some ⟨g, 0, none⟩) 2 2) 2 twoF := rdI_row h 2 rfl (by decide)
set_option maxHeartbeats 4000000 in
theorem names_law (w : World) : Calls Try.prog 3 #[] w fun e w' => e = .returned (.bool true) ∧ Below w.heap.size w w' := by
  obtain ⟨Z1, kb1, b1⟩ := nb_ok
  obtain ⟨Z2, kb2⟩ := nb_many
  obtain ⟨Z3, kb3⟩ := mk_61
  obtain ⟨Z4, kb4, b4⟩ := id_two
  have b1 := Lib.hid b1
  have b4 := Lib.hid b4
  have hB := Lib.hid (Below.refl w.heap.size w)
  go_enter Try.func3, Try.ntmps3
  go_wp2_with (first
    | (go_at_call 9; (first | (with_reducible refine (nn_0 _).mono ?_) | (with_reducible refine (nn_255 _).mono ?_) | (with_reducible refine (nn_65535 _).mono ?_) | (with_reducible refine (nn_65536 _).mono ?_)); rintro e w2 ⟨rfl, hb⟩; have hB := Lib.hid (hB.out.trans (hb.mono hB.out.size)); clear hb)
    | (go_at_call 10; (first | (with_reducible refine (ns_0 _).mono ?_) | (with_reducible refine (ns_123 _).mono ?_) | (with_reducible refine (ns_m125 _).mono ?_) | (with_reducible refine (ns_max _).mono ?_) | (with_reducible refine (ns_min _).mono ?_)); rintro e w2 ⟨rfl, hb⟩; have hB := Lib.hid (hB.out.trans (hb.mono hB.out.size)); clear hb)
    | (go_at_call 11; (first | (with_reducible refine (nr_0 _).mono ?_)); rintro e w2 ⟨rfl, rfl⟩)
    | (go_at_call 11; (first | (with_reducible refine (nr_1 _).mono ?_) | (with_reducible refine (nr_2 _).mono ?_) | (with_reducible refine (nr_3 _).mono ?_) | (with_reducible refine (nr_4 _).mono ?_) | (with_reducible refine (nr_5 _).mono ?_)); rintro e w2 ⟨rfl, hb⟩; have hB := Lib.hid (hB.out.trans (hb.mono hB.out.size)); clear hb)
    | (go_at_call 12; (first | (with_reducible refine (nbm _ _).mono ?_)); rintro e w2 ⟨rfl, hb⟩; have hB := Lib.hid (hB.out.trans (hb.mono hB.out.size)); clear hb)
    | (go_at_call 12; (first | (with_reducible refine (b1.out _).mono ?_)); rintro e w2 ⟨g, rfl, hb⟩; have hB := Lib.hid (hB.out.trans (hb.mono hB.out.size)); clear hb)
    | (go_at_call 13; (first | (with_reducible refine (readBytes_arg _ _ (by decide) _).mono ?_)); rintro e w2 ⟨rfl, rfl⟩)
    | (go_at_call 13; (first | (with_reducible refine (rb_1 _).mono ?_) | (with_reducible refine (rb_2 _).mono ?_)); rintro e w2 ⟨rfl, hb⟩; have hB := Lib.hid (hB.out.trans (hb.mono hB.out.size)); clear hb)
    | (go_at_call 13; (first | (with_reducible refine (rb_3 _).mono ?_) | (with_reducible refine (rb_4 _).mono ?_)); rintro e w2 ⟨g, rfl, hb⟩; have hB := Lib.hid (hB.out.trans (hb.mono hB.out.size)); clear hb)
    | (go_at_call 14; (first | (with_reducible refine (idm _ _).mono ?_) | (with_reducible refine (b4.out _).mono ?_)); rintro e w2 ⟨rfl, hb⟩; have hB := Lib.hid (hB.out.trans (hb.mono hB.out.size)); clear hb)
    | (go_at_call 14; (first | (with_reducible refine (id_down _).mono ?_)); rintro e w2 ⟨rfl, hb⟩; have hB := Lib.hid (hB.out.trans (hb.mono hB.out.size)); clear hb)
    | (go_at_call 14; (first | (with_reducible refine (id_up _).mono ?_)); rintro e w2 ⟨g2, rfl, hge, hrow, hb⟩; have hg0 : w.heap.size ≤ g2 := Nat.le_trans hB.out.size hge; have hT := Lib.hid hrow; have hB := Lib.hid (hB.out.trans (hb.mono hB.out.size)); clear hrow hb hge)
    | (go_at_call 14; (first | (with_reducible refine (id_none _).mono ?_)); rintro e w2 ⟨g, rfl, hb⟩; have hT := Lib.hid (row_kept hT.out hb); have hB := Lib.hid (hB.out.trans (hb.mono hB.out.size)); clear hb)
    | (go_at_call 15; (first | (with_reducible refine (readIDs_arg _ _ (by decide) _).mono ?_) | (with_reducible refine (ri_few _ _ (rd_two hT.out)).mono ?_) | (with_reducible refine (ri_cut _ _ (rd_cut hT.out)).mono ?_)); rintro e w2 ⟨rfl, rfl⟩)
    | (go_at_call 15; (first | (with_reducible refine (ri_two _ hT.out).mono ?_)); rintro e w2 ⟨g3, rfl, hne0, hi, hb⟩; have hT := Lib.hid (row_kept hT.out hb); have hI := Lib.hid hi; have hB := Lib.hid (hB.out.trans (hb.mono hB.out.size)); clear hb hi; refine Stop.go'' _ ?_))
  refine StopP.go ?_
  have hc1 : w2.cell? ⟨g2, 1, none⟩ = some (.int .u8 1) := by rw [cell_of_row _ _ _ _ _ _ hT.out]; rfl
  have hf1 := frozen_of_row _ _ 1 _ _ hT.out
  have hT1 := setCell_row hT.out 1 (.int .u8 9)
  have hc2 : (w2.setCell ⟨g2, 1, none⟩ (.int .u8 9)).cell? ⟨g2, 33, none⟩ = some (.int .u8 1) := by rw [cell_of_row _ _ _ _ _ _ hT1]; rfl
  have hf2 := frozen_of_row _ _ 33 _ _ hT1
  have hT2 := setCell_row hT1 33 (.int .u8 8)
  rw [u8s_set, u8s_set, bad_eq] at hT2
  have cb := Lib.hid (ri_bad _ _ (rd_bad hT2))
  have hne : g3 ≠ g2 := hne0
  have hBs := Lib.hid ((hB.out.setCell (p := ⟨g2, 1, none⟩) hg0 (.int .u8 9)).setCell (p := ⟨g2, 33, none⟩) hg0 (.int .u8 8))
  have hIs := Lib.hid ((setCell_rows (w := w2.setCell ⟨g2, 1, none⟩ (.int .u8 9)) g2 33 (.int .u8 8) g3 hne).trans ((setCell_rows g2 1 (.int .u8 9) g3 hne).trans hI.out))
  clear hT1 hT2 hT hI hne hne0
  go_wp2_with (first
    | (go_at_call 15; (first | (with_reducible refine (cb.out).mono ?_)); rintro e w3 ⟨rfl, hb⟩; have hI := Lib.hid (row_kept hIs.out hb); have hB := Lib.hid (hBs.out.trans (hb.mono hBs.out.size)); clear hb)
    | (go_at_call 16; (first | (with_reducible refine (same_up _ _ (rd_ids hI.out)).mono ?_)); rintro e w4 ⟨rfl, hb⟩; have hB := Lib.hid (hB.out.trans (hb.mono hB.out.size)); clear hb)
    | (go_at_call 17; (first | (with_reducible refine (alive_any _).mono ?_)); rintro e w5 ⟨rfl, hb⟩; have hB := Lib.hid (hB.out.trans (hb.mono hB.out.size)); clear hb))
  go_ret
  exact ⟨rfl, hB.out⟩
end Go.Proofs.Ytbnoomogdbnheaa

/- Contracts of package value: Encode. alive: the chapter's examples. Steps of the laws over values. -/
import Derived.Test.YtnknkiiikeefgaaGreatDoorV07
import Derived.Test.YtnknkiiikeefgaaGreatDoorW02
namespace Go.Proofs.YtnknkiiikeefgaaGreatDoor.wir.val
open Go.RowKit Go.YtnknkiiikeefgaaGreatDoor
set_option linter.unusedVariables false
/-- The bytes of a valid value. -/
def encB (k n : Int) (b : Nat) (s : ByteArray) : List Int := if k = 1 then 1 :: numB (foldN n) else if k = 2 then 2 :: be 8 b else 3 :: textB (sI s)
set_option maxHeartbeats 2000000 in
set_option maxRecDepth 100000 in
theorem enc_bad (k n : Int) (b : Nat) (s : ByteArray) (fv : VFit k n b s) (hv : validV k n b s = false) (w : World) :
    Calls Tryz.prog 106 #[vA k n b s] w fun e w' => e = .returned (.tuple #[.slice none 0 0, .int .i64 8]) ∧ Below w.heap.size w w' := by
  have hV := Lib.hid (fun w => valid_any k n b s fv.k fv.b fv.s w)
  rw [hv] at hV
  have hp := Lib.hid (heap_alloc_new w (.cells (vC k n b s) 29))
  have hB := Lib.hid (below_a w (.cells (vC k n b s) 29))
  clear fv hv
  go_enter Tryz.func106, Tryz.ntmps106
  go_wp2_with (first | (go_at_call 141; (with_reducible refine (hV.out _).mono ?_); rintro e w9 ⟨rfl, h9⟩; have hp9 := Lib.hid (rowB hp.out h9 (Array.getElem?_eq_some_iff.1 hp.out).1); have hB9 := Lib.hid (hB.out.trans (h9.mono hB.out.size)); clear h9) | (refine wpList_load_row_g rfl 29 _ rfl w.heap.size rfl 29 (vC k n b s) (0, 0) _ hp.out Tryz.underlying29 rfl info_val ?_))
  go_ret2
  exact ⟨rfl, hB9.out⟩
set_option maxHeartbeats 2000000 in
set_option maxRecDepth 100000 in
theorem enc_num (n : Int) (b : Nat) (s : ByteArray) (fv : VFit 1 n b s) (hv : validV 1 n b s = true) (w : World) :
    Calls Tryz.prog 106 #[vA 1 n b s] w fun e w' => ∃ sv, e = .returned (.tuple #[sv, .int .i64 0]) ∧ OwnB w.heap.size 5 w' sv (encB 1 n b s) ∧ Below w.heap.size w w' := by
  have hV := Lib.hid (fun w => valid_any 1 n b s fv.k fv.b fv.s w)
  rw [hv] at hV
  have hS := Lib.hid (fun w => signed_any n fv.n.1 fv.n.2 w)
  have hlen : numL (foldN n) ≤ 9 := numL_le _ (fold_lt n fv.n)
  have hl := numB_length (foldN n)
  have e := Lib.hid (show encB 1 n b s = [1] ++ numB (foldN n) from rfl)
  generalize encB 1 n b s = EB at *
  generalize numB (foldN n) = NB at *
  generalize numL (foldN n) = NL at *
  have hp := Lib.hid (heap_alloc_new w (.cells (vC 1 n b s) 29))
  have hB := Lib.hid (below_a w (.cells (vC 1 n b s) 29))
  have hl' := Lib.hid hl
  have hlen' := Lib.hid hlen
  clear fv hv hl hlen
  go_enter Tryz.func106, Tryz.ntmps106
  go_wp2_with (first | (go_at_call 141; (with_reducible refine (hV.out _).mono ?_); rintro e w9 ⟨rfl, h9⟩; have hp9 := Lib.hid (rowB hp.out h9 (Array.getElem?_eq_some_iff.1 hp.out).1); have hB9 := Lib.hid (hB.out.trans (h9.mono hB.out.size)); clear h9; refine Stop.go'' _ ?_) | (refine wpList_load_row_g rfl 29 _ rfl w.heap.size rfl 29 (vC 1 n b s) (0, 0) _ hp.out Tryz.underlying29 rfl info_val ?_))
  refine StopP.go ?_
  have hg := Lib.hid (heap_alloc_new w9 (.cells #[.int .u8 1] 5))
  have ho := Lib.hid (ownB_row (cs := [1]) hg.out 1 rfl (by decide) hB9.out.size)
  have hp1 := Lib.hid (rowB hp9.out (below_a w9 (.cells #[.int .u8 1] 5)) (Array.getElem?_eq_some_iff.1 hp9.out).1)
  have hB1 := Lib.hid (hB9.out.trans ((below_a w9 (.cells #[.int .u8 1] 5)).mono hB9.out.size))
  have es := Lib.hid (show (w9.alloc (.cells #[.int .u8 1] 5)).heap.size = w9.heap.size + 1 by simp)
  obtain ⟨c0, c1, c2, c3⟩ := cellsV hp9.out
  obtain ⟨d0, d1, d2, d3⟩ := cellsV hp1.out
  go_wp2_with (go_at_call 142; (with_reducible refine (hS.out _).mono ?_); rintro e w2 ⟨rfl, h2, h3⟩; rw [es.out] at h2; have hr2 := Lib.hid (rdB_row h2 NL hl'.out (Nat.le_trans hlen'.out (by decide))); have ho2 := Lib.hid (ho.out.kept h3); have hB2 := Lib.hid (hB1.out.trans (h3.mono hB1.out.size)); clear h2 h3 d0 d1 d2 d3 c0 c1 c2 c3; refine Stop.go'' _ ?_)
  refine StopP.go ?_
  go_wp2_with (refine appendB rfl _ _ 83 rfl w.heap.size 5 Tryz.underlying83 (by kernel_rfl) _ rfl [1] ho2.out _ rfl NB hr2.out (by rw [hl'.out]; have := hlen'.out; simp; omega) hB2.out.size ?_)
  intro v' w3 h4 h5
  have h4' := Lib.hid h4
  have h5' := Lib.hid (hB2.out.trans (ho2.out.below h5 hB2.out.size))
  clear h4 h5
  refine Stop.go ?_
  go_wp2
  go_ret2
  exact ⟨_, rfl, by rw [e.out]; exact h4'.out, h5'.out⟩
theorem ith_be8 (b j : Nat) (h : j < 8) : ith (be 8 b) j = ((b / 256 ^ (7 - j) % 256 : Nat) : Int) := by
  rw [ith_be 8 b j h]
set_option maxHeartbeats 2000000 in
set_option maxRecDepth 100000 in
theorem appendEight_any (B : Nat) (v : Value) (l : List Int) (b : Nat) (hb : b < 18446744073709551616) (w : World) (ho : OwnB B 5 w v l) (hl : l.length ≤ 1000) (hB : B ≤ w.heap.size) :
    Calls Tryz.prog 143 #[v, .int .u64 (b : Int)] w fun e w' => ∃ v', e = .returned v' ∧ OwnB B 5 w' v' (l ++ be 8 b) ∧ Below B w w' := by
  have hE := Lib.hid (ith_be8 b)
  have hT := Lib.hid (fun j (h : j < 8) => take_succ_ith (be 8 b) j (by rw [be_length]; exact h))
  have hA := Lib.hid (show (be 8 b).take 8 = be 8 b from List.take_of_length_le (by rw [be_length]; exact Nat.le_refl _))
  have hL := Lib.hid (fun j (h : j ≤ 8) => (show ((be 8 b).take j).length = j by rw [List.length_take, be_length]; omega))
  generalize be 8 b = E at *
  have ho' := Lib.hid ho
  have hl' := Lib.hid hl
  have hB' := Lib.hid hB
  clear ho hl hB hb
  go_enter Tryz.func143, Tryz.ntmps143
  go_wp2
  go_loopw [0, 5] (fun x i wr => ∃ j : Nat, j ≤ 8 ∧ i = .int .i64 (56 - 8 * (j : Int)) ∧ OwnB B 5 wr x (l ++ E.take j) ∧ Below B w wr) (fun _ i _ => (intOf i + 8).toNat)
  case atStart => exact ⟨0, by decide, rfl, by simpa using ho'.out, Below.refl _ _⟩
  case round =>
    obtain ⟨j, hj, rfl, hx, hy⟩ := hrel
    obtain ⟨xa, xc, rfl⟩ := hx.rd.slice
    have hx' := Lib.hid hx
    have hy' := Lib.hid hy
    have hlen := Lib.hid (show (l ++ E.take j).length ≤ 1008 by have := hl'.out; have := hL.out j hj; simp only [List.length_append]; omega)
    clear hx hy
    generalize (l ++ E.take j).length = N at *
    by_cases hlt : j < 8
    · have g1 : (0 : Int) ≤ 56 - 8 * (j : Int) := by omega
      have hby : ith E j = (b : Int) / 2 ^ (8 * (7 - j)) % 256 := by
        rw [hE.out j hlt, pow256]
        rw [show (2 : Int) ^ (8 * (7 - j)) = ((2 ^ (8 * (7 - j)) : Nat) : Int) by simp]
        omega
      obtain ⟨t, ht⟩ : ∃ t : Nat, 8 * (7 - j) = t := ⟨_, rfl⟩
      rw [ht] at hby
      rw [show 56 - 8 * (j : Int) = (t : Int) by omega] at g1 ⊢
      have g2 : t < 64 := by omega
      have ht' := Lib.hid ht
      have hby' := Lib.hid hby
      have hn := Lib.hid (show RdB (wr.alloc (.cells #[.int .u8 ((b : Int) / 2 ^ t % 256)] 5)) (.slice (some ⟨wr.heap.size, 0, none⟩) 1 1) [((b : Int) / 2 ^ t % 256)] from rdB_row (cs := [((b : Int) / 2 ^ t % 256)]) (heap_alloc_new wr (.cells (u8s [((b : Int) / 2 ^ t % 256)]) 5)) 1 rfl (by decide))
      have hox := Lib.hid (show OwnB B 5 (wr.alloc (.cells #[.int .u8 ((b : Int) / 2 ^ t % 256)] 5)) (.slice xa N xc) (l ++ E.take j) from hx'.out.kept (below_a wr _))
      have hyx := Lib.hid (show Below B w (wr.alloc (.cells #[.int .u8 ((b : Int) / 2 ^ t % 256)] 5)) from hy'.out.trans ((below_a wr _).mono (Nat.le_trans hB'.out hy'.out.size)))
      clear ht hby
      go_wp2_with (refine appendB rfl _ _ 83 rfl B 5 Tryz.underlying83 (by kernel_rfl) _ rfl _ hox.out _ rfl _ hn.out (by have h1 := hl'.out; have h2 := hL.out j hj; simp only [List.length_append, List.length_cons, List.length_nil]; omega) (Nat.le_trans hB'.out hyx.out.size) ?_)
      intro v' w4 h4 h5
      have h4' := Lib.hid h4
      have h5' := Lib.hid (hyx.out.trans (hox.out.below h5 (Nat.le_trans hB'.out hyx.out.size)))
      clear h4 h5
      refine Stop.go ?_
      go_wp2
      go_roundw
      case rel => exact ⟨j + 1, by omega, by have := ht'.out; go_num, by rw [hT.out j hlt, hby'.out]; exact h4'.out, h5'.out⟩
      case measure => have := ht'.out; simp [intOf]; omega
    · obtain rfl : j = 8 := by omega
      rw [hA.out] at hx'
      have g1 : ¬ (0 : Int) ≤ 56 - 8 * ((8 : Nat) : Int) := by decide
      clear hlt
      go_wp2
      go_ret
      exact ⟨_, rfl, hx'.out, hy'.out⟩
set_option maxHeartbeats 2000000 in
set_option maxRecDepth 100000 in
theorem enc_flt (n : Int) (b : Nat) (s : ByteArray) (fv : VFit 2 n b s) (hv : validV 2 n b s = true) (w : World) :
    Calls Tryz.prog 106 #[vA 2 n b s] w fun e w' => ∃ sv, e = .returned (.tuple #[sv, .int .i64 0]) ∧ OwnB w.heap.size 5 w' sv (encB 2 n b s) ∧ Below w.heap.size w w' := by
  have hV := Lib.hid (fun w => valid_any 2 n b s fv.k fv.b fv.s w)
  rw [hv] at hV
  have hE := Lib.hid (fun (W : World) (v : Value) (w : World) (ho : OwnB W.heap.size 5 w v [2]) (hB : W.heap.size ≤ w.heap.size) => appendEight_any W.heap.size v [2] b fv.b w ho (by decide) hB)
  have e := Lib.hid (show encB 2 n b s = [2] ++ be 8 b from rfl)
  generalize encB 2 n b s = EB at *
  have hp := Lib.hid (heap_alloc_new w (.cells (vC 2 n b s) 29))
  have hB := Lib.hid (below_a w (.cells (vC 2 n b s) 29))
  clear fv hv
  go_enter Tryz.func106, Tryz.ntmps106
  go_wp2_with (first | (go_at_call 141; (with_reducible refine (hV.out _).mono ?_); rintro e w9 ⟨rfl, h9⟩; have hp9 := Lib.hid (rowB hp.out h9 (Array.getElem?_eq_some_iff.1 hp.out).1); have hB9 := Lib.hid (hB.out.trans (h9.mono hB.out.size)); clear h9; refine Stop.go'' _ ?_) | (refine wpList_load_row_g rfl 29 _ rfl w.heap.size rfl 29 (vC 2 n b s) (0, 0) _ hp.out Tryz.underlying29 rfl info_val ?_))
  refine StopP.go ?_
  have hg := Lib.hid (heap_alloc_new w9 (.cells #[.int .u8 2] 5))
  have ho := Lib.hid (ownB_row (cs := [2]) hg.out 1 rfl (by decide) hB9.out.size)
  have hp1 := Lib.hid (rowB hp9.out (below_a w9 (.cells #[.int .u8 2] 5)) (Array.getElem?_eq_some_iff.1 hp9.out).1)
  have hB1 := Lib.hid (hB9.out.trans ((below_a w9 (.cells #[.int .u8 2] 5)).mono hB9.out.size))
  have es := Lib.hid (show (w9.alloc (.cells #[.int .u8 2] 5)).heap.size = w9.heap.size + 1 by simp)
  obtain ⟨c0, c1, c2, c3⟩ := cellsV hp9.out
  obtain ⟨d0, d1, d2, d3⟩ := cellsV hp1.out
  have hE1 := Lib.hid (hE.out w _ _ ho.out hB1.out.size)
  go_wp2_with (go_at_call 143; (with_reducible refine (hE1.out).mono ?_); rintro e w2 ⟨v', rfl, h2, h3⟩; have h2' := Lib.hid h2; have h3' := Lib.hid (hB1.out.trans h3); clear h2 h3)
  go_ret2
  exact ⟨_, rfl, by rw [e.out]; exact h2'.out, h3'.out⟩
theorem rd_strI (w : World) (s : ByteArray) (hs : s.size ≤ 10000) (m : Nat × Nat) :
    RdB (w.drew.alloc (.cells (bytesRow s (grownCap w s.size 0 5)) 5 m)) (.slice (some ⟨w.heap.size, 0, none⟩) s.size (grownCap w s.size 0 5)) (sI s) := by
  refine .inr ⟨w.heap.size, 0, _, by rw [sI_length], by rw [sI_length]; exact grownCap_ge w _ _ _, grownCap_le_maxLen w _ _ _ (by unfold maxLen; omega), by simp, fun i hi => ?_⟩
  rw [sI_length] at hi
  have hrow : (w.drew.alloc (.cells (bytesRow s (grownCap w s.size 0 5)) 5 m)).heap[w.heap.size]? = some (.cells (bytesRow s (grownCap w s.size 0 5)) 5 m) := heap_alloc_new w.drew _
  rw [Nat.zero_add]
  unfold World.cell?
  rw [hrow]
  have hi' : i < s.data.size := hi
  have hg : s.data[i]? = some s.data[i] := Array.getElem?_eq_getElem hi'
  have hsz : (s.data.map (fun b => Value.int .u8 b.toNat)).size = s.size := by simp
  simp only [bytesRow, Array.getElem?_append, hsz, hi, if_true, Array.getElem?_map, hg, Option.map_some, sI, ith, List.getElem?_map, Array.getElem?_toList, Option.getD_some]
  simp
theorem valid_text {n : Int} {b : Nat} {s : ByteArray} (h : validV 3 n b s = true) : s.size ≤ 30 := by
  unfold validV at h
  rw [if_neg (by decide), if_neg (by decide), if_pos rfl] at h
  simp only [Bool.and_eq_true, decide_eq_true_eq] at h
  exact h.2.2.1
set_option maxHeartbeats 2000000 in
set_option maxRecDepth 100000 in
theorem enc_text (n : Int) (b : Nat) (s : ByteArray) (fv : VFit 3 n b s) (hv : validV 3 n b s = true) (w : World) :
    Calls Tryz.prog 106 #[vA 3 n b s] w fun e w' => ∃ sv, e = .returned (.tuple #[sv, .int .i64 0]) ∧ OwnB w.heap.size 5 w' sv (encB 3 n b s) ∧ Below w.heap.size w w' := by
  have hV := Lib.hid (fun w => valid_any 3 n b s fv.k fv.b fv.s w)
  rw [hv] at hV
  have hs := valid_text hv
  have e := Lib.hid (show encB 3 n b s = [3] ++ textB (sI s) from rfl)
  have hl := Lib.hid (show (textB (sI s)).length ≤ 100 by rw [textB_length, sI_length]; have := numL_le s.size (by omega); omega)
  have kc := fun (w : World) => run_bytes_of_string (P := Tryz.prog) w 9 83 5 s Tryz.underlying9 Tryz.underlying83 Tryz.underlying5
  have hT := Lib.hid (fun (W : World) (m : Nat × Nat) => bytes_any _ (sI s) _ (rd_strI W s (by omega) m) (by rw [sI_length]; omega))
  generalize encB 3 n b s = EB at *
  generalize textB (sI s) = TB at *
  have hp := Lib.hid (heap_alloc_new w (.cells (vC 3 n b s) 29))
  have hB := Lib.hid (below_a w (.cells (vC 3 n b s) 29))
  clear fv hv hs
  go_enter Tryz.func106, Tryz.ntmps106
  go_wp2_with (first | (go_at_call 141; (with_reducible refine (hV.out _).mono ?_); rintro e w9 ⟨rfl, h9⟩; have hp9 := Lib.hid (rowB hp.out h9 (Array.getElem?_eq_some_iff.1 hp.out).1); have hB9 := Lib.hid (hB.out.trans (h9.mono hB.out.size)); clear h9; refine Stop.go'' _ ?_) | (refine wpList_load_row_g rfl 29 _ rfl w.heap.size rfl 29 (vC 3 n b s) (0, 0) _ hp.out Tryz.underlying29 rfl info_val ?_))
  refine StopP.go ?_
  have hg := Lib.hid (heap_alloc_new w9 (.cells #[.int .u8 3] 5))
  have ho := Lib.hid (ownB_row (cs := [3]) hg.out 1 rfl (by decide) hB9.out.size)
  have hp1 := Lib.hid (rowB hp9.out (below_a w9 (.cells #[.int .u8 3] 5)) (Array.getElem?_eq_some_iff.1 hp9.out).1)
  have hB1 := Lib.hid (hB9.out.trans ((below_a w9 (.cells #[.int .u8 3] 5)).mono hB9.out.size))
  have es := Lib.hid (show (w9.alloc (.cells #[.int .u8 3] 5)).heap.size = w9.heap.size + 1 by simp)
  obtain ⟨c0, c1, c2, c3⟩ := cellsV hp9.out
  have hT1 := Lib.hid (fun m => hT.out (w9.alloc (.cells #[.int .u8 3] 5)) m)
  rw [es.out] at hT1
  obtain ⟨d0, d1, d2, d3⟩ := cellsV hp1.out
  have hB2 := Lib.hid (fun o => (show Below (w9.alloc (.cells #[.int .u8 3] 5)).heap.size (w9.alloc (.cells #[.int .u8 3] 5)) ((w9.alloc (.cells #[.int .u8 3] 5)).drew.alloc o) from ((Below.refl (w9.alloc (.cells #[.int .u8 3] 5)).heap.size (w9.alloc (.cells #[.int .u8 3] 5))).drew).alloc (Nat.le_refl _) o))
  go_wp2_with (go_at_call 105; (refine (hT1.out _).mono ?_); rintro e w2 ⟨g, rfl, h2, h3, h4⟩; have hr2 := Lib.hid (rdB_row h3 _ rfl (Nat.le_trans hl.out (by decide))); have hb2 := Lib.hid ((hB2.out _).trans (h4.mono (hB2.out _).size)); have ho2 := Lib.hid (ho.out.kept hb2.out); have hB3 := Lib.hid (hB1.out.trans (hb2.out.mono hB1.out.size)); clear h2 h3 h4 d0 d1 d2 d3 c0 c1 c2 c3; refine Stop.go'' _ ?_)
  refine StopP.go ?_
  go_wp2_with (refine appendB rfl _ _ 83 rfl w.heap.size 5 Tryz.underlying83 (by kernel_rfl) _ rfl [3] ho2.out _ rfl TB hr2.out (by have := hl.out; simp; omega) hB3.out.size ?_)
  intro v' w3 h4 h5
  have h4' := Lib.hid h4
  have h5' := Lib.hid (hB3.out.trans (ho2.out.below h5 hB3.out.size))
  clear h4 h5
  refine Stop.go ?_
  go_wp2
  go_ret2
  exact ⟨_, rfl, by rw [e.out]; exact h4'.out, h5'.out⟩
theorem enc_ok (k n : Int) (b : Nat) (s : ByteArray) (fv : VFit k n b s) (hv : validV k n b s = true) (w : World) :
    Calls Tryz.prog 106 #[vA k n b s] w fun e w' => ∃ sv, e = .returned (.tuple #[sv, .int .i64 0]) ∧ OwnB w.heap.size 5 w' sv (encB k n b s) ∧ Below w.heap.size w w' := by
  have hk := valid_kind hv
  rcases (show k = 1 ∨ k = 2 ∨ k = 3 by omega) with rfl | rfl | rfl
  · exact enc_num n b s fv hv w
  · exact enc_flt n b s fv hv w
  · exact enc_text n b s fv hv w
end Go.Proofs.YtnknkiiikeefgaaGreatDoor.wir.val
namespace Go.Proofs.YtnknkiiikeefgaaGreatDoor.wir.val
open Go.RowKit Go.YtnknkiiikeefgaaGreatDoor
set_option linter.unusedVariables false
def fitB (v : Va) : Bool := decide (0 ≤ v.k) && decide (v.k < 256) && decide (-9223372036854775808 ≤ v.n) && decide (v.n ≤ 9223372036854775807) && decide (v.b < 18446744073709551616) && decide (v.s.size ≤ 1000000) && v.ok
theorem fitB_fit {v : Va} (h : fitB v = true) : v.fit ∧ v.ok = true := by
  simp only [fitB, Bool.and_eq_true, decide_eq_true_eq] at h
  obtain ⟨⟨⟨⟨⟨⟨h1, h2⟩, h3⟩, h4⟩, h5⟩, h6⟩, h7⟩ := h
  exact ⟨⟨⟨h1, h2⟩, ⟨h3, h4⟩, h5, h6⟩, h7⟩
/-- All fit, and each comes before the next one. -/
def ascB : List Va → Bool
  | [] => true
  | [v] => fitB v
  | v :: u :: l => fitB v && decide (v.cmp u = -1) && ascB (u :: l)
theorem ascB_fit : ∀ (L : List Va), ascB L = true → ∀ i, i < L.length → (vaAt L i).fit ∧ (vaAt L i).ok = true
  | [v], h, 0, _ => fitB_fit h
  | v :: u :: l, h, 0, _ => by
    simp only [ascB, Bool.and_eq_true] at h
    exact fitB_fit h.1.1
  | v :: u :: l, h, i + 1, hi => by
    simp only [ascB, Bool.and_eq_true] at h
    have := ascB_fit (u :: l) h.2 i (by simpa using hi)
    simpa [vaAt] using this
theorem ascB_asc : ∀ (L : List Va), ascB L = true → ∀ i, i + 1 < L.length → (vaAt L i).cmp (vaAt L (i + 1)) = -1
  | [v], h, i, hi => by simp at hi
  | v :: u :: l, h, 0, _ => by
    simp only [ascB, Bool.and_eq_true, decide_eq_true_eq] at h
    exact h.1.2
  | v :: u :: l, h, i + 1, hi => by
    simp only [ascB, Bool.and_eq_true] at h
    have := ascB_asc (u :: l) h.2 i (by simpa using hi)
    simpa [vaAt] using this
theorem flt_lit (m : Int) (b c : Nat) (hm : m = (b : Int)) (hb : b < 18446744073709551616) (h : canF b = c) (w : World) :
    Calls Tryz.prog 173 #[.int .u64 m] w fun e w' => e = .returned (vA 2 0 c ⟨#[]⟩) ∧ Below w.heap.size w w' := by
  subst hm
  have := float_val b hb w
  rw [h] at this
  exact this
def nilS : ByteArray := ⟨#[]⟩
def L9 : List Va := [⟨2, 0, 9223372036854775808, ⟨#[]⟩⟩, ⟨1, 0, 0, ⟨#[]⟩⟩, ⟨2, 0, 0, ⟨#[]⟩⟩, ⟨1, 1, 0, ⟨#[]⟩⟩, ⟨2, 0, 4607182418800017408, ⟨#[]⟩⟩, ⟨2, 0, 4609434218613702656, ⟨#[]⟩⟩, ⟨1, 2, 0, ⟨#[]⟩⟩, ⟨1, 9223372036854775807, 0, ⟨#[]⟩⟩, ⟨2, 0, 4890909195324358656, ⟨#[]⟩⟩]
theorem L9_asc : ascB L9 = true := by decide +kernel
theorem enc_m1 : encB 1 (-1) 0 ⟨#[]⟩ = [1, 1] := by decide +kernel
theorem ok_m1 : validV 1 (-1) 0 ⟨#[]⟩ = true := by decide +kernel
end Go.Proofs.YtnknkiiikeefgaaGreatDoor.wir.val
namespace Go.Proofs.YtnknkiiikeefgaaGreatDoor.wir.val
open Go.RowKit Go.YtnknkiiikeefgaaGreatDoor
set_option linter.unusedVariables false
theorem run_eqlV {a : Act} {o : Oper} (x y : Operand) (k n : Int) (b : Nat) (s : ByteArray) (k' n' : Int) (b' : Nat) (s' : ByteArray) (B : Bool) (ho : o.op = .binOp .eql 29 x y 29)
    (hx : a.eval x = vA k n b s) (hy : a.eval y = vA k' n' b' s') (h : eqB k n b s k' n' b' s' = B) : ∀ w, (execOp a.eval o).run Tryz.prog w = .ok (.value (.bool B)) w := by
  intro w; subst h
  have h0 : Tryz.prog.eqGuardType Tryz.prog.depth 29 = false := by kernel_rfl
  have hg := run_eqGuard_agg (P := Tryz.prog) w .eql 29 x y #[.int .u8 k, .int .i64 n, .int .u64 (b : Int), .string s] #[.int .u8 k', .int .i64 n', .int .u64 (b' : Int), .string s'] h0
  unfold execOp
  generalize a.eval = ev at *
  simp only [ho]
  simp only [hx, hy] at *
  have hb := bytes_eq s s'
  simp [go_sem, hx, hy, hb]
  clear hb h0 hx hy hg ho
  unfold eqB
  split
  · split
    · split
      · split <;> first | (simp_all; done) | (have := ‹(b : Int) = (b' : Int)›; simp_all; done) | (simp_all; omega)
      · simp_all <;> omega
    · simp_all
  · simp_all
theorem run_neqV {a : Act} {o : Oper} (x y : Operand) (k n : Int) (b : Nat) (s : ByteArray) (k' n' : Int) (b' : Nat) (s' : ByteArray) (B : Bool) (ho : o.op = .binOp .neq 29 x y 29)
    (hx : a.eval x = vA k n b s) (hy : a.eval y = vA k' n' b' s') (h : eqB k n b s k' n' b' s' = B) : ∀ w, (execOp a.eval o).run Tryz.prog w = .ok (.value (.bool (!B))) w := by
  intro w; subst h
  have h0 : Tryz.prog.eqGuardType Tryz.prog.depth 29 = false := by kernel_rfl
  have hg := run_eqGuard_agg (P := Tryz.prog) w .neq 29 x y #[.int .u8 k, .int .i64 n, .int .u64 (b : Int), .string s] #[.int .u8 k', .int .i64 n', .int .u64 (b' : Int), .string s'] h0
  unfold execOp
  generalize a.eval = ev at *
  simp only [ho]
  simp only [hx, hy] at *
  have hb := bytes_eq s s'
  simp [go_sem, hx, hy, hb]
  clear hb h0 hx hy hg ho
  unfold eqB
  split
  · split
    · split
      · split <;> first | (simp_all; done) | (have := ‹(b : Int) = (b' : Int)›; simp_all; done) | (simp_all; omega)
      · simp_all <;> omega
    · simp_all
  · simp_all
theorem wpList_run_g {P : Program} {ops : Array Oper} {rest : List Oper} {o : Oper} {a : Act} {w : World} {Q : Exit → Act → World → Prop} (hw : Region.wanted o (yielded ops a.tmps) = true) (v : Value)
    (hrun : ∀ w, (execOp a.eval o).run P w = .ok (.value v) w) (h : wpList P ops Q rest (a.put o.dst v) w) : wpList P ops Q (o :: rest) a w :=
  wpList_step fun K hK => by
    rw [if_pos hw]
    unfold Oper.wp
    rw [hrun w]
    exact hK _ _ h
theorem map_inj : ∀ (l m : List UInt8), l.map (fun c => (c.toNat : Int)) = m.map (fun c => (c.toNat : Int)) → l = m
  | [], [], _ => rfl
  | [], _ :: _, h => by simp at h
  | _ :: _, [], h => by simp at h
  | a :: l, b :: m, h => by
    simp only [List.map_cons, List.cons.injEq] at h
    have hab : a = b := UInt8.toNat_inj.1 (by omega)
    rw [hab, map_inj l m h.2]
theorem eqB_refl (k n : Int) (b : Nat) (s : ByteArray) : eqB k n b s k n b s = true := by simp [eqB]
/-- Two valid values of which neither comes before the other are the same. -/
theorem cmp_same (u v : Va) (fu : u.fit) (fv : v.fit) (hu : u.ok = true) (hv : v.ok = true) (h : u.cmp v = 0) : eqB u.k u.n u.b u.s v.k v.n v.b v.s = true := by
  obtain ⟨k, n, b, s⟩ := u
  obtain ⟨k', n', b', s'⟩ := v
  simp only [Va.cmp, cmpV, Va.ok, Va.fit] at *
  have k1 := valid_kind hu
  have k2 := valid_kind hv
  have hP : plP k n b = plP k' n' b' ∧ cmpF (sI s) (sI s') = 0 := by
    unfold orI at h
    split at h
    · rename_i h0
      refine ⟨?_, h⟩
      unfold cmpI at h0
      split at h0
      · cases h0
      · split at h0
        · cases h0
        · omega
    · contradiction
  obtain ⟨hP, hS⟩ := hP
  have hk := plP_kind k n b k' n' b' k1 k2 hP
  subst hk
  have hs : s = s' := by
    have h1 := cmp_zero _ _ hS
    have h2 : s.data.toList = s'.data.toList := by
      exact map_inj _ _ h1
    cases s; cases s'
    simp only [ByteArray.mk.injEq]
    exact Array.ext' h2
  subst hs
  rcases (show k = 1 ∨ k = 2 ∨ k = 3 by omega) with rfl | rfl | rfl
  · have hn := plP_num_inj n n' fu.n fv.n b b' hP
    subst hn
    unfold validV at hu hv
    rw [if_pos rfl] at hu hv
    simp only [Bool.and_eq_true, decide_eq_true_eq] at hu hv
    obtain ⟨rfl, _⟩ := hu
    obtain ⟨rfl, _⟩ := hv
    exact eqB_refl _ _ _ _
  · have hb := plP_flt_inj n n' b b' fu.b fv.b hP
    subst hb
    unfold validV at hu hv
    rw [if_neg (by decide), if_pos rfl] at hu hv
    simp only [Bool.and_eq_true, decide_eq_true_eq] at hu hv
    obtain ⟨rfl, _⟩ := hu
    obtain ⟨rfl, _⟩ := hv
    exact eqB_refl _ _ _ _
  · unfold validV at hu hv
    rw [if_neg (by decide), if_neg (by decide), if_pos rfl] at hu hv
    simp only [Bool.and_eq_true, decide_eq_true_eq] at hu hv
    obtain ⟨rfl, rfl, _⟩ := hu
    obtain ⟨rfl, rfl, _⟩ := hv
    exact eqB_refl _ _ _ _
theorem eqB_eq {k n : Int} {b : Nat} {s : ByteArray} {k' n' : Int} {b' : Nat} {s' : ByteArray} (h : eqB k n b s k' n' b' s' = true) : k = k' ∧ n = n' ∧ b = b' ∧ s = s' := by
  simpa [eqB] using h
theorem cmp_eqB (u v : Va) (fu : u.fit) (fv : v.fit) (hu : u.ok = true) (hv : v.ok = true) : eqB u.k u.n u.b u.s v.k v.n v.b v.s = (u.cmp v == 0) := by
  cases h : eqB u.k u.n u.b u.s v.k v.n v.b v.s
  · cases h2 : (u.cmp v == 0)
    · rfl
    · rw [cmp_same u v fu fv hu hv (by simpa using h2)] at h; cases h
  · obtain ⟨h1, h2, h3, h4⟩ := eqB_eq h
    obtain ⟨k, n, b, s⟩ := u
    obtain ⟨k', n', b', s'⟩ := v
    simp only at h1 h2 h3 h4
    subst h1 h2 h3 h4
    rw [cmpV_self]; rfl
theorem cmpI_in (a b : Int) : -1 ≤ cmpI a b ∧ cmpI a b ≤ 1 := by
  unfold cmpI; split
  · omega
  · split <;> omega
theorem cmpV_in (u v : Va) : -1 ≤ u.cmp v ∧ u.cmp v ≤ 1 := by
  unfold Va.cmp cmpV orI
  split
  · rcases cmp_range (sI u.s) (sI v.s) with h | h | h <;> omega
  · exact cmpI_in _ _
theorem cmpV_trans (u v z : Va) (h1 : u.cmp v ≤ 0) (h2 : v.cmp z ≤ 0) : u.cmp z ≤ 0 := by
  unfold Va.cmp cmpV at *
  generalize plP u.k u.n u.b = a at *
  generalize plP v.k v.n v.b = b at *
  generalize plP z.k z.n z.b = c at *
  have t := cmp_trans (sI u.s) (sI v.s) (sI z.s)
  generalize cmpF (sI u.s) (sI v.s) = p at *
  generalize cmpF (sI v.s) (sI z.s) = q at *
  generalize cmpF (sI u.s) (sI z.s) = r at *
  unfold orI cmpI at *
  rcases Int.lt_trichotomy a b with h | h | h
  · rw [if_pos h] at h1
    rcases Int.lt_trichotomy b c with g | g | g
    · rw [if_pos (show a < c by omega)]; simp
    · rw [if_pos (show a < c by omega)]; simp
    · simp only [if_neg (show ¬ b < c by omega), if_pos g] at h2
      exact absurd h2 (by simp)
  · subst h
    simp only [Int.lt_irrefl, if_false, if_true] at h1
    rcases Int.lt_trichotomy a c with g | g | g
    · rw [if_pos g]; simp
    · subst g
      simp only [Int.lt_irrefl, if_false, if_true] at h2 ⊢
      exact t h1 h2
    · simp only [if_neg (show ¬ a < c by omega), if_pos g] at h2
      exact absurd h2 (by simp)
  · simp only [if_neg (show ¬ a < b by omega), if_pos h] at h1
    exact absurd h1 (by simp)
end Go.Proofs.YtnknkiiikeefgaaGreatDoor.wir.val

/- The reference's Bytes and Encode. -/
import Derived.Test.YtnknkiiikeefgaaGreatDoorV09
import Derived.Test.YtnknkiiikeefgaaGreatDoorW02
namespace Go.Proofs.YtnknkiiikeefgaaGreatDoor.wir.val
open Go.RowKit Go.YtnknkiiikeefgaaGreatDoor
set_option linter.unusedVariables false
theorem rtext4_any (sv : Value) (l : List Int) (w : World) (hr : RdB w sv l) (hl : l.length ≤ 10000) :
    Calls Tryz.prog 185 #[sv] w fun e w' => ∃ r, e = .returned r ∧ OwnB w.heap.size 5 w' r (textB l) ∧ Below w.heap.size w w' := by
  have hnum := Lib.hid (rnum_any l.length (by omega) w)
  have hL9 := numL_le l.length (by omega)
  have hnl := Lib.hid (numB_length l.length)
  have htb := Lib.hid (show numB l.length ++ l = textB l from rfl)
  have hrm := Lib.hid (fun wi (hw : Below w.heap.size w wi) => hr.mono hw)
  obtain ⟨n, hn⟩ : ∃ n, l.length = n := ⟨_, rfl⟩
  have hn' := Lib.hid hn
  obtain ⟨a, c, rfl⟩ := hr.slice
  rw [hn] at hnum hL9 hnl htb hl hrm ⊢
  clear hr hn
  generalize numB n = B at *
  generalize numL n = L at *
  go_enter Tryz.func185, Tryz.ntmps185
  go_wp2_with (first | (go_at_call 153; (with_reducible refine (hnum.out).mono ?_); rintro e w1 ⟨r, rfl, ho, hb⟩; have ho' := Lib.hid ho; have hb' := Lib.hid hb; have rd := Lib.hid (hrm.out _ hb); clear ho hb) | (refine appendB rfl _ _ 83 rfl w.heap.size 5 Tryz.underlying83 (by kernel_rfl) _ rfl B ho'.out _ rfl l rd.out (by rw [hnl.out, hn'.out]; omega) hb'.out.size ?_; intro v' w' h1 h2; have hB := Lib.hid (hb'.out.trans (ho'.out.below h2 hb'.out.size)); rw [htb.out] at h1; have h1' := Lib.hid h1; clear h1 h2; refine Stop.go ?_))
  go_ret
  exact ⟨_, rfl, h1'.out, hB.out⟩
set_option maxHeartbeats 2000000 in
set_option maxRecDepth 100000 in
theorem rBytes_num (n : Int) (b : Nat) (s : ByteArray) (hn : -9223372036854775808 ≤ n ∧ n ≤ 9223372036854775807) (w : World) :
    Calls Tryz.prog 186 #[vA 1 n b s] w fun e w' => ∃ sv, e = .returned sv ∧ OwnB w.heap.size 5 w' sv (encB 1 n b s) ∧ Below w.heap.size w w' := by
  have hS := Lib.hid (fun w => rsigned4_any n hn.1 hn.2 w)
  have hlen := Lib.hid (show (numB (foldN n)).length ≤ 9 by rw [numB_length]; exact numL_le _ (fold_lt n hn))
  have e := Lib.hid (show encB 1 n b s = [1] ++ numB (foldN n) from rfl)
  generalize encB 1 n b s = EB at *
  generalize numB (foldN n) = NB at *
  obtain ⟨W1, hW1⟩ : ∃ W, W = w.alloc (.cells (vC 1 n b s) 29) := ⟨_, rfl⟩
  have hp := Lib.hid (show W1.heap[w.heap.size]? = some (.cells (vC 1 n b s) 29 (0, 0)) by rw [hW1]; exact heap_alloc_new w _)
  have hB := Lib.hid (show Below w.heap.size w W1 by rw [hW1]; exact below_a w _)
  obtain ⟨c0, c1, c2, c3⟩ := cellsV hp.out
  have bA := below_a W1 (.cells #[.int .u8 1] 5)
  have ho := Lib.hid (ownB_row (cs := [1]) (heap_alloc_new W1 (.cells #[.int .u8 1] 5)) 1 rfl (by decide) hB.out.size)
  have hp2 := rowB hp.out bA (Array.getElem?_eq_some_iff.1 hp.out).1
  obtain ⟨d0, d1, d2, d3⟩ := cellsV hp2
  have hB2 := Lib.hid (hB.out.trans (bA.mono hB.out.size))
  clear hn hp2 bA
  go_enter Tryz.func186, Tryz.ntmps186
  go_upto_region 1 with fail
  rw [← hW1]
  clear hW1
  go_wp2_with (go_at_call 204; (with_reducible refine (hS.out _).mono ?_); rintro e w2 ⟨r, rfl, h2, h3⟩; have hr2 := Lib.hid h2.rd; have ho2 := Lib.hid (ho.out.kept h3); have hB3 := Lib.hid (hB2.out.trans (h3.mono hB2.out.size)); clear h2 h3 d0 d1 d2 d3 c0 c1 c2 c3; refine Stop.go'' _ ?_)
  refine StopP.go ?_
  go_wp2_with (refine appendB rfl _ _ 83 rfl w.heap.size 5 Tryz.underlying83 (by kernel_rfl) _ rfl [1] ho2.out _ rfl NB hr2.out (by have := hlen.out; simp; omega) hB3.out.size ?_)
  intro v' w3 h4 h5
  have h4' := Lib.hid h4
  have h5' := Lib.hid (hB3.out.trans (ho2.out.below h5 hB3.out.size))
  clear h4 h5
  refine Stop.go ?_
  go_wp2
  go_ret
  exact ⟨_, rfl, by rw [e.out]; exact h4'.out, h5'.out⟩
set_option maxHeartbeats 4000000 in
set_option maxRecDepth 100000 in
theorem rBytes_flt (n : Int) (b : Nat) (s : ByteArray) (hb : b < 18446744073709551616) (w : World) :
    Calls Tryz.prog 186 #[vA 2 n b s] w fun e w' => ∃ sv, e = .returned sv ∧ OwnB w.heap.size 5 w' sv (encB 2 n b s) ∧ Below w.heap.size w w' := by
  have e := Lib.hid (show encB 2 n b s = [2] ++ be 8 b from rfl)
  have hE := Lib.hid (ith_be8 b)
  have hT := Lib.hid (fun j (h : j < 8) => take_succ_ith (be 8 b) j (by rw [be_length]; exact h))
  have hA := Lib.hid (show (be 8 b).take 8 = be 8 b from List.take_of_length_le (by rw [be_length]; exact Nat.le_refl _))
  have hL := Lib.hid (fun j (h : j ≤ 8) => (show ((be 8 b).take j).length = j by rw [List.length_take, be_length]; omega))
  generalize encB 2 n b s = EB at *
  generalize be 8 b = E at *
  obtain ⟨W1, hW1⟩ : ∃ W, W = w.alloc (.cells (vC 2 n b s) 29) := ⟨_, rfl⟩
  have hp := Lib.hid (show W1.heap[w.heap.size]? = some (.cells (vC 2 n b s) 29 (0, 0)) by rw [hW1]; exact heap_alloc_new w _)
  have hB := Lib.hid (show Below w.heap.size w W1 by rw [hW1]; exact below_a w _)
  have hlt := Lib.hid (Array.getElem?_eq_some_iff.1 hp.out).1
  obtain ⟨c0, c1, c2, c3⟩ := cellsV hp.out
  have bA := below_a W1 (.cells #[.int .u8 2] 5)
  have ho := Lib.hid (ownB_row (cs := [2]) (heap_alloc_new W1 (.cells #[.int .u8 2] 5)) 1 rfl (by decide) (Nat.le_refl W1.heap.size))
  have bA := Lib.hid bA
  have hp2 := rowB hp.out bA.out (Array.getElem?_eq_some_iff.1 hp.out).1
  obtain ⟨d0, d1, d2, d3⟩ := cellsV hp2
  have hz := Lib.hid (hB.out.size)
  clear hb hp2
  go_enter Tryz.func186, Tryz.ntmps186
  go_upto_region 1 with fail
  rw [← hW1]
  clear hW1
  go_upto_region 6 with fail
  clear d0 d1 d2 d3 c0 c1 c2 c3
  go_wp2
  go_loopw [3, 4] (fun x i wr => ∃ j : Nat, j ≤ 8 ∧ i = .int .i64 (7 - (j : Int)) ∧ OwnB W1.heap.size 5 wr x ([2] ++ E.take j) ∧ Below W1.heap.size W1 wr) (fun _ i _ => (intOf i + 1).toNat)
  case atStart => exact ⟨0, by decide, rfl, by simpa using ho.out, bA.out⟩
  case round =>
    obtain ⟨j, hj, rfl, hx, hy⟩ := hrel
    obtain ⟨xa, xc, rfl⟩ := hx.rd.slice
    have hx' := Lib.hid hx
    have hy' := Lib.hid hy
    have hlen := Lib.hid (show ([2] ++ E.take j).length ≤ 9 by have := hL.out j hj; simp only [List.length_append, List.length_cons, List.length_nil]; omega)
    clear hx hy
    generalize ([2] ++ E.take j).length = N at *
    by_cases hlt8 : j < 8
    · have hby : ith E j = (b : Int) / 2 ^ (8 * (7 - j)) % 256 := by
        rw [hE.out j hlt8, pow256]
        rw [show (2 : Int) ^ (8 * (7 - j)) = ((2 ^ (8 * (7 - j)) : Nat) : Int) by simp]
        omega
      obtain ⟨t, ht⟩ : ∃ t : Nat, 8 * (7 - j) = t := ⟨_, rfl⟩
      obtain ⟨i, hi⟩ : ∃ i : Nat, 7 - j = i := ⟨_, rfl⟩
      rw [ht] at hby
      rw [show 7 - (j : Int) = (i : Int) by omega]
      have g1 : (0 : Int) ≤ (i : Int) := by omega
      have g3 : 8 * (i : Int) = (t : Int) := by omega
      have g2 : t < 64 := by omega
      have g4 : i ≤ 7 := by omega
      have hi' := Lib.hid hi
      have ht' := Lib.hid ht
      have hby' := Lib.hid hby
      have hrow := Lib.hid (rowB hp.out hy'.out hlt.out)
      obtain ⟨c0, c1, c2, c3⟩ := cellsV hrow.out
      have hn := Lib.hid (show RdB (wr.alloc (.cells #[.int .u8 ((b : Int) / 2 ^ t % 256)] 5)) (.slice (some ⟨wr.heap.size, 0, none⟩) 1 1) [((b : Int) / 2 ^ t % 256)] from rdB_row (cs := [((b : Int) / 2 ^ t % 256)]) (heap_alloc_new wr (.cells (u8s [((b : Int) / 2 ^ t % 256)]) 5)) 1 rfl (by decide))
      have hox := Lib.hid (show OwnB W1.heap.size 5 (wr.alloc (.cells #[.int .u8 ((b : Int) / 2 ^ t % 256)] 5)) (.slice xa N xc) ([2] ++ E.take j) from hx'.out.kept (below_a wr _))
      have hyx := Lib.hid (show Below W1.heap.size W1 (wr.alloc (.cells #[.int .u8 ((b : Int) / 2 ^ t % 256)] 5)) from hy'.out.trans ((below_a wr _).mono hy'.out.size))
      clear ht hby hi
      go_wp2_with (refine appendB rfl _ _ 83 rfl W1.heap.size 5 Tryz.underlying83 (by kernel_rfl) _ rfl _ hox.out _ rfl _ hn.out (by have h2 := hL.out j hj; simp only [List.length_append, List.length_cons, List.length_nil]; omega) hyx.out.size ?_)
      intro v' w4 h4 h5
      have h4' := Lib.hid h4
      have h5' := Lib.hid (hyx.out.trans (hox.out.below h5 hyx.out.size))
      clear h4 h5 c0 c1 c2 c3
      refine Stop.go ?_
      go_wp2
      go_roundw
      case rel => exact ⟨j + 1, by omega, by have := hi'.out; go_num, by rw [hT.out j hlt8, hby'.out, ← List.append_assoc]; exact h4'.out, h5'.out⟩
      case measure => have := hi'.out; simp [intOf]
    · obtain rfl : j = 8 := by omega
      rw [hA.out] at hx'
      have g1 : ¬ (0 : Int) ≤ 7 - ((8 : Nat) : Int) := by decide
      clear hlt8
      go_wp2
      go_ret
      exact ⟨_, rfl, by rw [e.out]; exact hx'.out.mono hz.out, hB.out.trans (hy'.out.mono hz.out)⟩
set_option maxHeartbeats 2000000 in
set_option maxRecDepth 100000 in
theorem rBytes_text (n : Int) (b : Nat) (s : ByteArray) (hs : s.size ≤ 100) (w : World) :
    Calls Tryz.prog 186 #[vA 3 n b s] w fun e w' => ∃ sv, e = .returned sv ∧ OwnB w.heap.size 5 w' sv (encB 3 n b s) ∧ Below w.heap.size w w' := by
  have e := Lib.hid (show encB 3 n b s = [3] ++ textB (sI s) from rfl)
  have hl := Lib.hid (show (textB (sI s)).length ≤ 1000 by rw [textB_length, sI_length]; have := numL_le s.size (by omega); omega)
  have kc := fun (w : World) => run_bytes_of_string (P := Tryz.prog) w 9 83 5 s Tryz.underlying9 Tryz.underlying83 Tryz.underlying5
  have hT := Lib.hid (fun (W : World) (m : Nat × Nat) => rtext4_any _ (sI s) _ (rd_strI W s (by omega) m) (by rw [sI_length]; omega))
  generalize encB 3 n b s = EB at *
  generalize textB (sI s) = TB at *
  obtain ⟨W1, hW1⟩ : ∃ W, W = w.alloc (.cells (vC 3 n b s) 29) := ⟨_, rfl⟩
  have hp := Lib.hid (show W1.heap[w.heap.size]? = some (.cells (vC 3 n b s) 29 (0, 0)) by rw [hW1]; exact heap_alloc_new w _)
  have hB := Lib.hid (show Below w.heap.size w W1 by rw [hW1]; exact below_a w _)
  obtain ⟨c0, c1, c2, c3⟩ := cellsV hp.out
  have bA := below_a W1 (.cells #[.int .u8 3] 5)
  have ho := Lib.hid (ownB_row (cs := [3]) (heap_alloc_new W1 (.cells #[.int .u8 3] 5)) 1 rfl (by decide) hB.out.size)
  have hp2 := rowB hp.out bA (Array.getElem?_eq_some_iff.1 hp.out).1
  obtain ⟨d0, d1, d2, d3⟩ := cellsV hp2
  have hB1 := Lib.hid (hB.out.trans (bA.mono hB.out.size))
  clear hs hp2 bA
  go_enter Tryz.func186, Tryz.ntmps186
  go_upto_region 1 with fail
  rw [← hW1]
  clear hW1
  go_upto_region 11 with fail
  generalize hgw : W1.heap.size = gw at *
  generalize hW2 : W1.alloc (.cells #[.int .u8 3] 5) = W2 at *
  clear c0 c1 c2 c3 hW2 hgw
  have hT1 := Lib.hid (fun m => hT.out W2 m)
  have hB2 := Lib.hid (fun o => (show Below W2.heap.size W2 (W2.drew.alloc o) from ((Below.refl W2.heap.size W2).drew).alloc (Nat.le_refl _) o))
  go_wp2_with (go_at_call 185; (refine (hT1.out _).mono ?_); rintro e w2 ⟨r, rfl, h2, h4⟩; have hr2 := Lib.hid h2.rd; have hb2 := Lib.hid ((hB2.out _).trans (h4.mono (hB2.out _).size)); have ho2 := Lib.hid (ho.out.kept hb2.out); have hB3 := Lib.hid (hB1.out.trans (hb2.out.mono hB1.out.size)); clear h2 h4 d0 d1 d2 d3; refine Stop.go'' _ ?_)
  refine StopP.go ?_
  go_wp2_with (refine appendB rfl _ _ 83 rfl w.heap.size 5 Tryz.underlying83 (by kernel_rfl) _ rfl [3] ho2.out _ rfl TB hr2.out (by have := hl.out; simp; omega) hB3.out.size ?_)
  intro v' w3 h4 h5
  have h4' := Lib.hid h4
  have h5' := Lib.hid (hB3.out.trans (ho2.out.below h5 hB3.out.size))
  clear h4 h5
  refine Stop.go ?_
  go_wp2
  go_ret
  exact ⟨_, rfl, by rw [e.out]; exact h4'.out, h5'.out⟩
theorem rBytes_any (k n : Int) (b : Nat) (s : ByteArray) (fv : VFit k n b s) (hv : validV k n b s = true) (hs : s.size ≤ 100) (w : World) :
    Calls Tryz.prog 186 #[vA k n b s] w fun e w' => ∃ sv, e = .returned sv ∧ OwnB w.heap.size 5 w' sv (encB k n b s) ∧ Below w.heap.size w w' := by
  have hk := valid_kind hv
  rcases (show k = 1 ∨ k = 2 ∨ k = 3 by omega) with rfl | rfl | rfl
  · exact rBytes_num n b s fv.n w
  · exact rBytes_flt n b s fv.b w
  · exact rBytes_text n b s hs w
/-- What both programs' Encode answer. -/
def EncR (v : Va) (B : Nat) (r : Value) (w' : World) : Prop := if v.ok = true then ∃ sv, r = .tuple #[sv, .int .i64 0] ∧ OwnB B 5 w' sv (encB v.k v.n v.b v.s) else r = .tuple #[.slice none 0 0, .int .i64 8]
end Go.Proofs.YtnknkiiikeefgaaGreatDoor.wir.val

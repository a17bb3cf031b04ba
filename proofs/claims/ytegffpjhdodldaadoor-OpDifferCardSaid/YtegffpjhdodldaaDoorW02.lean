/- Contracts of package wire: numbers. -/
import Derived.Test.YtegffpjhdodldaaDoorRows
import Derived.Test.YtegffpjhdodldaaDoorW01
import Derived.Test.YtegffpjhdodldaaDoorLibB
import Derived.Test.YtegffpjhdodldaaDoorLibD
import Derived.Test.YtegffpjhdodldaaDoorShelf
import Derived.ProofKit
import Derived.Laws.Bits64
namespace Go.Proofs.YtegffpjhdodldaaDoor.wir
open Go.RowKit Go.YtegffpjhdodldaaDoor
set_option linter.unusedVariables false
def StopP (p : Prop) : Prop := p
theorem Stop.go'' (p : Prop) (h : StopP p) : p := h
theorem StopP.go {p : Prop} (h : p) : StopP p := h
theorem sizeOf_any (n : Nat) (hn : n < 18446744073709551616) (w : World) : Calls Tryd.prog 61 #[.int .u64 (n : Int)] w fun e w' => e = .returned (.int .i64 (numL n : Nat)) ∧ w = w' := by
  have hb := Tryd.bits_Len64 (n : Int) w (by omega) (by omega)
  rw [Int.toNat_natCast] at hb
  have hL : Lib.bitLen n ≤ 64 := Lib.bitLen_le n 64 (Nat.le_refl _) hn
  have hb' := Lib.hid hb
  clear hb hn
  by_cases h : n ≤ 247
  · have e : numL n = 1 := by simp [numL, h]
    rw [e]
    clear hL hb' e
    go_enter Tryd.func61, Tryd.ntmps61
    go_wp2
    go_ret
    exact ⟨rfl, rfl⟩
  · have e : numL n = 1 + (Lib.bitLen n + 7) / 8 := by simp [numL, h, ks]
    rw [e]
    clear e
    generalize Lib.bitLen n = L at *
    go_enter Tryd.func61, Tryd.ntmps61
    go_wp2_with (go_at_call 73; (with_reducible refine (hb'.out).mono ?_); rintro e w' ⟨rfl, rfl⟩)
    go_ret
    exact ⟨ret_int (by omega), rfl⟩
/-- A row after some rounds: the first byte, zeros, and the lowest bytes. -/
def numP (k n i : Nat) : List Int := (247 + (k : Int)) :: (List.replicate (k - i) 0 ++ be i n)
theorem numP_length (k n i : Nat) (h : i ≤ k) : (numP k n i).length = 1 + k := by simp [numP, be_length]; omega
theorem numP_set (k n i : Nat) (h : i < k) : (numP k n i).set (k - i) ((n / 256 ^ i % 256 : Nat) : Int) = numP k n (i + 1) := by
  obtain ⟨d, hd⟩ : ∃ d, k - i = d + 1 := ⟨k - i - 1, by omega⟩
  have hd2 : k - (i + 1) = d := by omega
  unfold numP
  rw [hd, hd2, List.set_cons_succ, be_succ, List.replicate_succ', List.append_assoc, List.set_append_right _ _ (by simp)]
  simp
theorem rdB_row {w : World} {g : Nat} {cs : List Int} {E : TypeId} (hg : w.heap[g]? = some (.cells (u8s cs) E (0, 0))) (n : Nat) (hn : cs.length = n) (hm : n ≤ maxLen) : RdB w (.slice (some ⟨g, 0, none⟩) n n) cs := by
  subst hn
  exact .inr ⟨g, 0, _, rfl, Nat.le_refl _, hm, (Array.getElem?_eq_some_iff.1 hg).1, fun i hi => by
    rw [Nat.zero_add, cell_of_row _ _ _ _ _ _ hg]; exact u8s_get _ _ (by omega)⟩
theorem ownB_row {w : World} {g : Nat} {cs : List Int} {E : TypeId} (hg : w.heap[g]? = some (.cells (u8s cs) E (0, 0))) (n : Nat) (hn : cs.length = n) (hm : n ≤ maxLen) {B : Nat} (hB : B ≤ g) : OwnB B E w (.slice (some ⟨g, 0, none⟩) n n) cs := by
  subst hn
  exact ⟨by simp [u8v], .inr ⟨g, _, _, rfl, hB, hg, Nat.le_refl _, hm, by simp [u8s], by simp [u8s, u8v, List.take_of_length_le]⟩⟩
set_option maxRecDepth 10000 in
theorem number_any (n : Nat) (hn : n < 18446744073709551616) (w : World) : Calls Tryd.prog 32 #[.int .u64 (n : Int)] w fun e w' => e = .returned (.slice (some ⟨w.heap.size, 0, none⟩) (numL n) (numL n)) ∧ w'.heap[w.heap.size]? = some (.cells (u8s (numB n)) 5 (0, 0)) ∧ Below w.heap.size w w' := by
  have hs := Lib.hid (fun w => sizeOf_any n hn w)
  have hmk := Lib.hid (fun (k : Nat) (hk : k ≤ 9) (wx : World) => run_makeB (P := Tryd.prog) wx 40 5 Tryd.underlying40 (by kernel_rfl) k k (Nat.le_refl _) (by omega))
  by_cases h : n ≤ 247
  · have e : numL n = 1 := by simp [numL, h]
    have e2 : numB n = [(n : Int)] := by simp [numB, h]
    rw [e] at hs
    rw [e, e2]
    have hm1 : ∀ wx : World, (Instr.makeSlice 40 (.int .i64 1) (.int .i64 1)).run Tryd.prog wx = .ok (.slice (some ⟨wx.heap.size, 0, none⟩) 1 1) (wx.alloc (.cells (u8s [0]) 5)) := hmk.out 1 (by omega)
    have hg := heap_alloc_new w (.cells (u8s [0]) 5)
    have hc : (w.alloc (.cells (u8s [0]) 5)).cell? ⟨w.heap.size, 0, none⟩ = some (.int .u8 0) := by rw [cell_of_row _ _ _ _ _ _ hg]; rfl
    have hf := frozen_of_row _ _ 0 _ _ hg
    have hg' := Lib.hid hg
    clear hn e e2 hmk hg
    go_enter Tryd.func32, Tryd.ntmps32
    go_wp2_with (go_at_call 61; (with_reducible refine (hs.out _).mono ?_); rintro e w' ⟨rfl, rfl⟩)
    go_ret
    exact ⟨rfl, heap_alloc_new w _, (Below.refl _ _).alloc (Nat.le_refl _) _⟩
  · obtain ⟨k1, k8, _, kh⟩ := ks_bounds n (by omega) hn
    have e : numL n = 1 + ks n := by simp [numL, h]
    have e2 : numB n = numP (ks n) n (ks n) := by simp [numB, h, numP]
    rw [e] at hs
    rw [e, e2]
    clear e e2 kh hn
    generalize ks n = k at *
    have hm1 : ∀ wx : World, (Instr.makeSlice 40 (.int .i64 (1 + (k : Int))) (.int .i64 (1 + (k : Int)))).run Tryd.prog wx = .ok (.slice (some ⟨wx.heap.size, 0, none⟩) (1 + k) (1 + k)) (wx.alloc (.cells (u8s (zerosB (1 + k))) 5)) := fun wx => by
      have h := hmk.out (1 + k) (by omega) wx
      rw [show ((1 + k : Nat) : Int) = 1 + (k : Int) by omega] at h
      exact h
    have hg := heap_alloc_new w (.cells (u8s (zerosB (1 + k))) 5)
    have hc : (w.alloc (.cells (u8s (zerosB (1 + k))) 5)).cell? ⟨w.heap.size, 0, none⟩ = some (.int .u8 (ith (zerosB (1 + k)) 0)) := by rw [cell_of_row _ _ _ _ _ _ hg]; exact u8s_get _ _ (by rw [zerosB_length]; omega)
    have hf := frozen_of_row _ _ 0 _ _ hg
    have hg2 := setCell_row hg 0 (.int .u8 (247 + (k : Int)))
    rw [u8s_set, show (zerosB (1 + k)).set 0 (247 + (k : Int)) = numP k n 0 by simp [zerosB, numP, be, Nat.add_comm 1 k, List.replicate_succ]] at hg2
    have hB := Lib.hid ((Below.refl _ _).alloc (Nat.le_refl _) _ : Below w.heap.size w (w.alloc (.cells (u8s (numP k n 0)) 5)))
    have hrow := Lib.hid (heap_alloc_new w (.cells (u8s (numP k n 0)) 5))
    have h0 : (u8s (zerosB (1 + k))).setIfInBounds 0 (Value.int IntKind.u8 (247 + (k : Int))) = u8s (numP k n 0) := by
      rw [u8s_set]; congr 1
      simp [zerosB, numP, be, Nat.add_comm 1 k, List.replicate_succ]
    have hk1 : 1 + (k : Int) - 1 = (k : Int) := by omega
    have hne : (1 + (k : Int) == 1) = false := by simp; omega
    clear hmk hg
    go_enter Tryd.func32, Tryd.ntmps32
    go_wp2_with (go_at_call 61; (with_reducible refine (hs.out _).mono ?_); rintro e w' ⟨rfl, rfl⟩)
    generalize w.alloc (.cells (u8s (numP k n 0)) 5) = W at *
    clear hc hf hm1 h0 hk1 hne hs
    go_loopw [26] (fun i wr => ∃ j : Nat, j ≤ k ∧ i = .int .i64 j ∧ Below w.heap.size w wr ∧ wr.heap[w.heap.size]? = some (.cells (u8s (numP k n j)) 5 (0, 0))) (fun i _ => match i with | .int _ m => k - m.toNat | _ => 0)
    case atStart => exact ⟨0, Nat.zero_le _, rfl, hB.out, hrow.out⟩
    case round =>
      obtain ⟨j, hj, rfl, hb, hr⟩ := hrel
      by_cases hlt : j < k
      · obtain ⟨m, hm⟩ : ∃ m : Nat, (k : Int) - (j : Int) = (m : Int) := ⟨k - j, by omega⟩
        have hmv : m = k - j := by omega
        have hc : wr.cell? ⟨w.heap.size, m, none⟩ = some (.int .u8 (ith (numP k n j) m)) := by rw [cell_of_row _ _ _ _ _ _ hr]; exact u8s_get _ _ (by rw [numP_length _ _ _ hj]; omega)
        have hf := frozen_of_row _ _ m _ _ hr
        have hmk : m < 1 + k := by omega
        have hset := Lib.hid (show (numP k n j).set m ((n / 256 ^ j % 256 : Nat) : Int) = numP k n (j + 1) by rw [hmv]; exact numP_set k n j hlt)
        have hb' := Lib.hid hb; have hr' := Lib.hid hr
        clear hb hr hmv
        go_wp2
        go_roundw
        case rel =>
          have e : ((n / 256 ^ j % 256 : Nat) : Int) = (n : Int) / 2 ^ (8 * j) % 256 := by rw [pow256]; simp
          have h := setCell_row hr'.out m (.int .u8 ((n / 256 ^ j % 256 : Nat) : Int))
          rw [u8s_set, hset.out] at h
          rw [← e]
          exact ⟨j + 1, by omega, by go_num, hb'.out.setCell (p := ⟨w.heap.size, m, none⟩) (Nat.le_refl w.heap.size) _, h⟩
        case measure => go_num
      · obtain rfl : j = k := by omega
        have hb' := Lib.hid hb; have hr' := Lib.hid hr
        clear hb hr
        go_wp2
        go_ret
        exact ⟨rfl, hr'.out, hb'.out⟩
set_option maxRecDepth 10000 in
theorem or_byte (x b : Int) (hx : 0 ≤ x ∧ x < 72057594037927936) (hb : 0 ≤ b ∧ b < 256) : bits BinOp.or IntKind.u64 (x * 256) b = x * 256 + b := by
  obtain ⟨n, rfl⟩ := Int.eq_ofNat_of_zero_le hx.1
  obtain ⟨m, rfl⟩ := Int.eq_ofNat_of_zero_le hb.1
  have h1 : (BitVec.ofInt 64 ((n : Int) * 256)).toNat = 2 ^ 8 * n := by
    rw [show (n : Int) * 256 = ((2 ^ 8 * n : Nat) : Int) by omega, BitVec.ofInt_natCast, BitVec.toNat_ofNat]; omega
  have h2 : (BitVec.ofInt 64 (m : Int)).toNat = m := by
    rw [BitVec.ofInt_natCast, BitVec.toNat_ofNat]; omega
  show IntKind.u64.wrap ((BitVec.ofInt 64 ((n : Int) * 256) ||| BitVec.ofInt 64 (m : Int)).toNat : Int) = _
  rw [BitVec.toNat_or, h1, h2, ← Nat.two_pow_add_eq_or_of_lt (by omega) n, IntKind.wrap_u64]
  omega
set_option maxRecDepth 10000 in
theorem xor_ones (n : Int) (h1 : -9223372036854775808 ≤ n) (h2 : n ≤ 9223372036854775807) : bits BinOp.xor IntKind.i64 (-1) n = -n - 1 := by
  show IntKind.i64.wrap ((BitVec.ofInt 64 (-1) ^^^ BitVec.ofInt 64 n).toNat : Int) = _
  rw [show BitVec.ofInt 64 (-1) = BitVec.allOnes 64 from rfl, BitVec.allOnes_xor, BitVec.toNat_not, BitVec.toNat_ofInt, IntKind.wrap_i64]
  omega
theorem fold_any (n : Int) (h1 : -9223372036854775808 ≤ n) (h2 : n ≤ 9223372036854775807) (w : World) : Calls Tryd.prog 92 #[.int .i64 n] w fun e w' => e = .returned (.int .u64 (foldN n : Nat)) ∧ w = w' := by
  by_cases h : n < 0
  · have e : (foldN n : Int) = 2 * (-n - 1) + 1 := by unfold foldN; rw [if_pos h]; omega
    rw [e]
    clear e
    go_enter Tryd.func92, Tryd.ntmps92
    go_wp2
    all_goals
      go_ret
      refine ⟨ret_int ?_, rfl⟩
      rw [xor_ones n h1 h2]
      simp only [IntKind.wrap_u64]
      omega
  · have e : (foldN n : Int) = 2 * n := by unfold foldN; rw [if_neg h]; omega
    rw [e]
    clear e
    go_enter Tryd.func92, Tryd.ntmps92
    go_wp2
    go_ret
    exact ⟨ret_int (by omega), rfl⟩
theorem signed_any (n : Int) (h1 : -9223372036854775808 ≤ n) (h2 : n ≤ 9223372036854775807) (w : World) : Calls Tryd.prog 77 #[.int .i64 n] w fun e w' => e = .returned (.slice (some ⟨w.heap.size, 0, none⟩) (numL (foldN n)) (numL (foldN n))) ∧ w'.heap[w.heap.size]? = some (.cells (u8s (numB (foldN n))) 5 (0, 0)) ∧ Below w.heap.size w w' := by
  have hf := Lib.hid (fold_any n h1 h2)
  have hn := Lib.hid (number_any (foldN n) (fold_lt n ⟨h1, h2⟩))
  clear h1 h2
  generalize numL (foldN n) = L at *
  generalize numB (foldN n) = B at *
  generalize foldN n = F at *
  go_enter Tryd.func77, Tryd.ntmps77
  go_wp2_with (first | (go_at_call 92; (with_reducible refine (hf.out _).mono ?_); rintro e w' ⟨rfl, rfl⟩) | (go_at_call 32; (with_reducible refine (hn.out _).mono ?_); rintro e w' ⟨rfl, hr, hb⟩; have hr' := Lib.hid hr; have hb' := Lib.hid hb; clear hr hb))
  go_ret
  exact ⟨rfl, hr'.out, hb'.out⟩
end Go.Proofs.YtegffpjhdodldaaDoor.wir

/- Contracts of package wire: numbers. Contracts of the reference of layer 4 (numbers), and of the reference's SameBytes. Contracts of package wire: strings. Contracts of package wire: strings that are read. WireOne's walk. -/
import Derived.Test.YtnknkiiikeefgaaGreatDoorRows
import Derived.Test.YtnknkiiikeefgaaGreatDoorW01
import Derived.Test.YtnknkiiikeefgaaGreatDoorLibB
import Derived.Test.YtnknkiiikeefgaaGreatDoorShelf
import Derived.ProofKit
import Derived.Laws.Bits64
namespace Go.Proofs.YtnknkiiikeefgaaGreatDoor.wir
open Go.RowKit Go.YtnknkiiikeefgaaGreatDoor
set_option linter.unusedVariables false
def StopP (p : Prop) : Prop := p
theorem Stop.go'' (p : Prop) (h : StopP p) : p := h
theorem StopP.go {p : Prop} (h : p) : StopP p := h
theorem sizeOf_any (n : Nat) (hn : n < 18446744073709551616) (w : World) : Calls Tryz.prog 111 #[.int .u64 (n : Int)] w fun e w' => e = .returned (.int .i64 (numL n : Nat)) ∧ w = w' := by
  have hb := Tryz.bits_Len64 (n : Int) w (by omega) (by omega)
  rw [Int.toNat_natCast] at hb
  have hL : Lib.bitLen n ≤ 64 := Lib.bitLen_le n 64 (Nat.le_refl _) hn
  have hb' := Lib.hid hb
  clear hb hn
  by_cases h : n ≤ 247
  · have e : numL n = 1 := by simp [numL, h]
    rw [e]
    clear hL hb' e
    go_enter Tryz.func111, Tryz.ntmps111
    go_wp2
    go_ret
    exact ⟨rfl, rfl⟩
  · have e : numL n = 1 + (Lib.bitLen n + 7) / 8 := by simp [numL, h, ks]
    rw [e]
    clear e
    generalize Lib.bitLen n = L at *
    go_enter Tryz.func111, Tryz.ntmps111
    go_wp2_with (go_at_call 154; (with_reducible refine (hb'.out).mono ?_); rintro e w' ⟨rfl, rfl⟩)
    go_ret
    exact ⟨ret_int (by omega), rfl⟩
/-- A row after some rounds: the first byte, zeros, and the lowest bytes. -/
def numP (k n i : Nat) : List Int := (247 + (k : Int)) :: (List.replicate (k - i) 0 ++ be i n)
theorem numP_length (k n i : Nat) (h : i ≤ k) : (numP k n i).length = 1 + k := by simp [numP, be_length]; omega
theorem numP_set (k n i : Nat) (h : i < k) : (numP k n i).set (k - i) ((n / 256 ^ i % 256 : Nat) : Int) = numP k n (i + 1) := by
  obtain ⟨d, hd⟩ : ∃ d, k - i = d + 1 := ⟨k - i - 1, by omega⟩
  have hd2 : k - (i + 1) = d := by omega
  unfold numP
  rw [hd, hd2, List.set_cons_succ, be_succ, List.replicate_succ', List.append_assoc, List.set_append_right _ _ (by simp)]
  simp
theorem rdB_row {w : World} {g : Nat} {cs : List Int} {E : TypeId} (hg : w.heap[g]? = some (.cells (u8s cs) E (0, 0))) (n : Nat) (hn : cs.length = n) (hm : n ≤ maxLen) : RdB w (.slice (some ⟨g, 0, none⟩) n n) cs := by
  subst hn
  exact .inr ⟨g, 0, _, rfl, Nat.le_refl _, hm, (Array.getElem?_eq_some_iff.1 hg).1, fun i hi => by
    rw [Nat.zero_add, cell_of_row _ _ _ _ _ _ hg]; exact u8s_get _ _ (by omega)⟩
theorem ownB_row {w : World} {g : Nat} {cs : List Int} {E : TypeId} (hg : w.heap[g]? = some (.cells (u8s cs) E (0, 0))) (n : Nat) (hn : cs.length = n) (hm : n ≤ maxLen) {B : Nat} (hB : B ≤ g) : OwnB B E w (.slice (some ⟨g, 0, none⟩) n n) cs := by
  subst hn
  exact ⟨by simp [u8v], .inr ⟨g, _, _, rfl, hB, hg, Nat.le_refl _, hm, by simp [u8s], by simp [u8s, u8v, List.take_of_length_le]⟩⟩
set_option maxRecDepth 10000 in
theorem number_any (n : Nat) (hn : n < 18446744073709551616) (w : World) : Calls Tryz.prog 84 #[.int .u64 (n : Int)] w fun e w' => e = .returned (.slice (some ⟨w.heap.size, 0, none⟩) (numL n) (numL n)) ∧ w'.heap[w.heap.size]? = some (.cells (u8s (numB n)) 5 (0, 0)) ∧ Below w.heap.size w w' := by
  have hs := Lib.hid (fun w => sizeOf_any n hn w)
  have hmk := Lib.hid (fun (k : Nat) (hk : k ≤ 9) (wx : World) => run_makeB (P := Tryz.prog) wx 83 5 Tryz.underlying83 (by kernel_rfl) k k (Nat.le_refl _) (by omega))
  by_cases h : n ≤ 247
  · have e : numL n = 1 := by simp [numL, h]
    have e2 : numB n = [(n : Int)] := by simp [numB, h]
    rw [e] at hs
    rw [e, e2]
    have hm1 : ∀ wx : World, (Instr.makeSlice 83 (.int .i64 1) (.int .i64 1)).run Tryz.prog wx = .ok (.slice (some ⟨wx.heap.size, 0, none⟩) 1 1) (wx.alloc (.cells (u8s [0]) 5)) := hmk.out 1 (by omega)
    have hg := heap_alloc_new w (.cells (u8s [0]) 5)
    have hc : (w.alloc (.cells (u8s [0]) 5)).cell? ⟨w.heap.size, 0, none⟩ = some (.int .u8 0) := by rw [cell_of_row _ _ _ _ _ _ hg]; rfl
    have hf := frozen_of_row _ _ 0 _ _ hg
    have hg' := Lib.hid hg
    clear hn e e2 hmk hg
    go_enter Tryz.func84, Tryz.ntmps84
    go_wp2_with (go_at_call 111; (with_reducible refine (hs.out _).mono ?_); rintro e w' ⟨rfl, rfl⟩)
    go_ret
    exact ⟨rfl, heap_alloc_new w _, (Below.refl _ _).alloc (Nat.le_refl _) _⟩
  · obtain ⟨k1, k8, _, kh⟩ := ks_bounds n (by omega) hn
    have e : numL n = 1 + ks n := by simp [numL, h]
    have e2 : numB n = numP (ks n) n (ks n) := by simp [numB, h, numP]
    rw [e] at hs
    rw [e, e2]
    clear e e2 kh hn
    generalize ks n = k at *
    have hm1 : ∀ wx : World, (Instr.makeSlice 83 (.int .i64 (1 + (k : Int))) (.int .i64 (1 + (k : Int)))).run Tryz.prog wx = .ok (.slice (some ⟨wx.heap.size, 0, none⟩) (1 + k) (1 + k)) (wx.alloc (.cells (u8s (zerosB (1 + k))) 5)) := fun wx => by
      have h := hmk.out (1 + k) (by omega) wx
      rw [show ((1 + k : Nat) : Int) = 1 + (k : Int) by omega] at h
      exact h
    have hg := heap_alloc_new w (.cells (u8s (zerosB (1 + k))) 5)
    have hc : (w.alloc (.cells (u8s (zerosB (1 + k))) 5)).cell? ⟨w.heap.size, 0, none⟩ = some (.int .u8 (ith (zerosB (1 + k)) 0)) := by rw [cell_of_row _ _ _ _ _ _ hg]; exact u8s_get _ _ (by rw [zerosB_length]; omega)
    have hf := frozen_of_row _ _ 0 _ _ hg
    have hg2 := setCell_row hg 0 (.int .u8 (247 + (k : Int)))
    rw [u8s_set, show (zerosB (1 + k)).set 0 (247 + (k : Int)) = numP k n 0 by simp [zerosB, numP, be, Nat.add_comm 1 k, List.replicate_succ]] at hg2
    have hB := Lib.hid ((Below.refl _ _).alloc (Nat.le_refl _) _ : Below w.heap.size w (w.alloc (.cells (u8s (numP k n 0)) 5)))
    have hrow := Lib.hid (heap_alloc_new w (.cells (u8s (numP k n 0)) 5))
    have h0 : (u8s (zerosB (1 + k))).setIfInBounds 0 (Value.int IntKind.u8 (247 + (k : Int))) = u8s (numP k n 0) := by
      rw [u8s_set]; congr 1
      simp [zerosB, numP, be, Nat.add_comm 1 k, List.replicate_succ]
    have hk1 : 1 + (k : Int) - 1 = (k : Int) := by omega
    have hne : (1 + (k : Int) == 1) = false := by simp; omega
    clear hmk hg
    go_enter Tryz.func84, Tryz.ntmps84
    go_wp2_with (go_at_call 111; (with_reducible refine (hs.out _).mono ?_); rintro e w' ⟨rfl, rfl⟩)
    generalize w.alloc (.cells (u8s (numP k n 0)) 5) = W at *
    clear hc hf hm1 h0 hk1 hne hs
    go_loopw [26] (fun i wr => ∃ j : Nat, j ≤ k ∧ i = .int .i64 j ∧ Below w.heap.size w wr ∧ wr.heap[w.heap.size]? = some (.cells (u8s (numP k n j)) 5 (0, 0))) (fun i _ => match i with | .int _ m => k - m.toNat | _ => 0)
    case atStart => exact ⟨0, Nat.zero_le _, rfl, hB.out, hrow.out⟩
    case round =>
      obtain ⟨j, hj, rfl, hb, hr⟩ := hrel
      by_cases hlt : j < k
      · obtain ⟨m, hm⟩ : ∃ m : Nat, (k : Int) - (j : Int) = (m : Int) := ⟨k - j, by omega⟩
        have hmv : m = k - j := by omega
        have hc : wr.cell? ⟨w.heap.size, m, none⟩ = some (.int .u8 (ith (numP k n j) m)) := by rw [cell_of_row _ _ _ _ _ _ hr]; exact u8s_get _ _ (by rw [numP_length _ _ _ hj]; omega)
        have hf := frozen_of_row _ _ m _ _ hr
        have hmk : m < 1 + k := by omega
        have hset := Lib.hid (show (numP k n j).set m ((n / 256 ^ j % 256 : Nat) : Int) = numP k n (j + 1) by rw [hmv]; exact numP_set k n j hlt)
        have hb' := Lib.hid hb; have hr' := Lib.hid hr
        clear hb hr hmv
        go_wp2
        go_roundw
        case rel =>
          have e : ((n / 256 ^ j % 256 : Nat) : Int) = (n : Int) / 2 ^ (8 * j) % 256 := by rw [pow256]; simp
          have h := setCell_row hr'.out m (.int .u8 ((n / 256 ^ j % 256 : Nat) : Int))
          rw [u8s_set, hset.out] at h
          rw [← e]
          exact ⟨j + 1, by omega, by go_num, hb'.out.setCell (p := ⟨w.heap.size, m, none⟩) (Nat.le_refl w.heap.size) _, h⟩
        case measure => go_num
      · obtain rfl : j = k := by omega
        have hb' := Lib.hid hb; have hr' := Lib.hid hr
        clear hb hr
        go_wp2
        go_ret
        exact ⟨rfl, hr'.out, hb'.out⟩
set_option maxRecDepth 10000 in
theorem or_byte (x b : Int) (hx : 0 ≤ x ∧ x < 72057594037927936) (hb : 0 ≤ b ∧ b < 256) : bits BinOp.or IntKind.u64 (x * 256) b = x * 256 + b := by
  obtain ⟨n, rfl⟩ := Int.eq_ofNat_of_zero_le hx.1
  obtain ⟨m, rfl⟩ := Int.eq_ofNat_of_zero_le hb.1
  have h1 : (BitVec.ofInt 64 ((n : Int) * 256)).toNat = 2 ^ 8 * n := by
    rw [show (n : Int) * 256 = ((2 ^ 8 * n : Nat) : Int) by omega, BitVec.ofInt_natCast, BitVec.toNat_ofNat]; omega
  have h2 : (BitVec.ofInt 64 (m : Int)).toNat = m := by
    rw [BitVec.ofInt_natCast, BitVec.toNat_ofNat]; omega
  show IntKind.u64.wrap ((BitVec.ofInt 64 ((n : Int) * 256) ||| BitVec.ofInt 64 (m : Int)).toNat : Int) = _
  rw [BitVec.toNat_or, h1, h2, ← Nat.two_pow_add_eq_or_of_lt (by omega) n, IntKind.wrap_u64]
  omega
set_option maxRecDepth 10000 in
theorem xor_ones (n : Int) (h1 : -9223372036854775808 ≤ n) (h2 : n ≤ 9223372036854775807) : bits BinOp.xor IntKind.i64 (-1) n = -n - 1 := by
  show IntKind.i64.wrap ((BitVec.ofInt 64 (-1) ^^^ BitVec.ofInt 64 n).toNat : Int) = _
  rw [show BitVec.ofInt 64 (-1) = BitVec.allOnes 64 from rfl, BitVec.allOnes_xor, BitVec.toNat_not, BitVec.toNat_ofInt, IntKind.wrap_i64]
  omega
theorem fold_any (n : Int) (h1 : -9223372036854775808 ≤ n) (h2 : n ≤ 9223372036854775807) (w : World) : Calls Tryz.prog 175 #[.int .i64 n] w fun e w' => e = .returned (.int .u64 (foldN n : Nat)) ∧ w = w' := by
  by_cases h : n < 0
  · have e : (foldN n : Int) = 2 * (-n - 1) + 1 := by unfold foldN; rw [if_pos h]; omega
    rw [e]
    clear e
    go_enter Tryz.func175, Tryz.ntmps175
    go_wp2
    all_goals
      go_ret
      refine ⟨ret_int ?_, rfl⟩
      rw [xor_ones n h1 h2]
      simp only [IntKind.wrap_u64]
      omega
  · have e : (foldN n : Int) = 2 * n := by unfold foldN; rw [if_neg h]; omega
    rw [e]
    clear e
    go_enter Tryz.func175, Tryz.ntmps175
    go_wp2
    go_ret
    exact ⟨ret_int (by omega), rfl⟩
theorem unfold_any (f : Nat) (hf : f < 18446744073709551616) (w : World) : Calls Tryz.prog 218 #[.int .u64 (f : Int)] w fun e w' => e = .returned (.int .i64 (unfoldN f)) ∧ w = w' := by
  by_cases h : f % 2 = 1
  · have e : unfoldN f = -((f / 2 : Nat) : Int) - 1 := by unfold unfoldN; rw [if_pos h]
    rw [e]
    clear e
    have hi : (f : Int) % 2 = 1 := by omega
    go_enter Tryz.func218, Tryz.ntmps218
    go_wp2
    all_goals
      go_ret
      exact ⟨ret_int ((xor_ones _ (by omega) (by omega)).trans (by omega)), rfl⟩
  · have e : unfoldN f = ((f / 2 : Nat) : Int) := by unfold unfoldN; rw [if_neg h]
    rw [e]
    clear e
    have hi : (f : Int) % 2 = 0 := by omega
    go_enter Tryz.func218, Tryz.ntmps218
    go_wp2
    go_ret
    exact ⟨ret_int (by omega), rfl⟩
theorem signed_any (n : Int) (h1 : -9223372036854775808 ≤ n) (h2 : n ≤ 9223372036854775807) (w : World) : Calls Tryz.prog 142 #[.int .i64 n] w fun e w' => e = .returned (.slice (some ⟨w.heap.size, 0, none⟩) (numL (foldN n)) (numL (foldN n))) ∧ w'.heap[w.heap.size]? = some (.cells (u8s (numB (foldN n))) 5 (0, 0)) ∧ Below w.heap.size w w' := by
  have hf := Lib.hid (fold_any n h1 h2)
  have hn := Lib.hid (number_any (foldN n) (fold_lt n ⟨h1, h2⟩))
  clear h1 h2
  generalize numL (foldN n) = L at *
  generalize numB (foldN n) = B at *
  generalize foldN n = F at *
  go_enter Tryz.func142, Tryz.ntmps142
  go_wp2_with (first | (go_at_call 175; (with_reducible refine (hf.out _).mono ?_); rintro e w' ⟨rfl, rfl⟩) | (go_at_call 84; (with_reducible refine (hn.out _).mono ?_); rintro e w' ⟨rfl, hr, hb⟩; have hr' := Lib.hid hr; have hb' := Lib.hid hb; clear hr hb))
  go_ret
  exact ⟨rfl, hr'.out, hb'.out⟩
set_option maxRecDepth 10000 in
theorem readNumber_none (l : List Int) (bv : Value) (w : World) (hr : RdB w bv l) (hl : Bytes l) (h : readF l = none) :
    Calls Tryz.prog 157 #[bv] w fun e w' => e = .returned (.tuple #[.int .u64 0, .int .i64 0, .int .i64 12]) ∧ w = w' := by
  by_cases hlen0 : l.length = 0
  · obtain ⟨a, c, rfl⟩ := hr.slice
    rw [hlen0]
    clear hr hl h hlen0
    go_enter Tryz.func157, Tryz.ntmps157
    go_wp2
    go_ret3
    exact ⟨rfl, rfl⟩
  rcases hr with ⟨a, c, rfl, _, rfl⟩ | ⟨b, o, c, rfl, h1, h2, h3, h4⟩
  · simp at hlen0
  unfold maxLen at h2
  have hc0 : w.cell? ⟨b, o, none⟩ = some (.int .u8 (ith l 0)) := h4 0 (by omega)
  have hb0 := hl 0
  unfold readF at h
  rw [if_neg hlen0] at h
  by_cases hq : ith l 0 ≤ 247
  · rw [if_pos hq] at h
    cases h
  rw [if_neg hq] at h
  obtain ⟨K, hK⟩ : ∃ K : Nat, ith l 0 = (K : Int) + 247 := ⟨(ith l 0 - 247).toNat, by omega⟩
  have eK : (ith l 0).toNat - 247 = K := by omega
  rw [eK] at h
  rw [hK] at hc0
  have hx1 : 1 + ((K : Int) + 247) - 247 = (K : Int) + 1 := by omega
  have hK1 : 1 ≤ K := by omega
  have hK8 : K ≤ 8 := by omega
  split at h
  · rename_i hlen
    generalize l.length = N at *
    clear hl h h4 hb0 hq hK eK
    go_enter Tryz.func157, Tryz.ntmps157
    go_wp2
    go_ret3
    exact ⟨rfl, rfl⟩
  rename_i hlen
  have hbd := bytes_drop l 1 hl
  have hcells := Lib.hid (fun j (hj : j < K) => (show w.cell? ⟨b, o + 1 + j, none⟩ = some (.int .u8 (ith (l.drop 1) j)) from by
    rw [ith_drop, Nat.add_assoc]; exact h4 (1 + j) (by omega)))
  have hbyte := Lib.hid (fun j => hbd j)
  have hval := Lib.hid (fun j (hj : j ≤ 7) => (show 0 ≤ (valN (l.drop 1) j : Int) ∧ (valN (l.drop 1) j : Int) < 72057594037927936 from by
    have h1 := valN_lt (l.drop 1) hbd j
    have h2 : (256 : Nat) ^ j ≤ 72057594037927936 := (show (256 : Nat) ^ j ≤ 256 ^ 7 from Nat.pow_le_pow_right (by decide) hj)
    omega))
  have hstep := Lib.hid (fun j => (show (valN (l.drop 1) (j + 1) : Int) = (valN (l.drop 1) j : Int) * 256 + ith (l.drop 1) j from by
    have := hbd j
    rw [valN]; omega))
  have hn64 := valN_lt64 (l.drop 1) hbd K hK8
  have hs := Lib.hid (sizeOf_any (valN (l.drop 1) K) hn64)
  have hnL : numL (valN (l.drop 1) K) ≠ K + 1 := by
    intro h5
    split at h
    · cases h
    · rename_i h6
      unfold numL at h5
      split at h5
      · omega
      · exact h6 ⟨by omega, by omega⟩
  have hnL' : ((numL (valN (l.drop 1) K) : Nat) : Int) ≠ (K : Int) + 1 := by omega
  generalize hV : valN (l.drop 1) K = V at hs hnL'
  have hV' := Lib.hid hV
  generalize numL V = M at hs hnL'
  have hlK : K + 1 ≤ l.length := by omega
  have hbne : ((M : Int) == (K : Int) + 1) = false := by simpa using hnL'
  generalize l.length = N at *
  clear h h4 hn64 hlen hbd hq hb0 hK eK hnL hV hnL'
  go_enter Tryz.func157, Tryz.ntmps157
  go_wp2
  go_loop [6, 34] (fun x i => ∃ j : Nat, j ≤ K ∧ i = .int .i64 j ∧ x = .int .u64 (valN (l.drop 1) j : Nat)) (fun _ i => match i with | .int _ m => K - m.toNat | _ => 0)
  case atStart => exact ⟨0, Nat.zero_le _, rfl, rfl⟩
  case round =>
    obtain ⟨j, hj, rfl, rfl⟩ := hrel
    by_cases hlt : j < K
    · have hck := hcells.out j hlt
      have hb := hbyte.out j
      have hx := hval.out j (by omega)
      have hor := Lib.hid (or_byte _ _ hx hb)
      have hnx := hstep.out j
      generalize hY : valN (l.drop 1) (j + 1) = y at hnx
      generalize hX : valN (l.drop 1) j = x at *
      generalize ith (l.drop 1) j = z at *
      have hnx' := Lib.hid hnx; have hY' := Lib.hid hY
      clear hnx hY hX
      go_wp2
      refine ⟨⟨j + 1, by omega, rfl, ?_⟩, ?_⟩
      · rw [hor.out, ← hnx'.out, hY'.out]
      · show K - ((j : Int) + 1).toNat < K - (j : Int).toNat
        omega
    · obtain rfl : j = K := by omega
      rw [hV'.out]
      clear hV' hcells hbyte hval hstep
      go_wp2_with (go_at_call 111; (with_reducible refine (hs.out _).mono ?_); rintro e w' ⟨rfl, rfl⟩)
      go_ret3
      exact ⟨rfl, rfl⟩
set_option maxRecDepth 10000 in
theorem readNumber_some (l : List Int) (bv : Value) (w : World) (hr : RdB w bv l) (hl : Bytes l) (n u : Nat) (h : readF l = some (n, u)) :
    Calls Tryz.prog 157 #[bv] w fun e w' => e = .returned (.tuple #[.int .u64 (n : Int), .int .i64 (u : Int), .int .i64 0]) ∧ w = w' := by
  obtain ⟨hn64, hu, hul, htk⟩ := readF_some hl h
  have hs := Lib.hid (sizeOf_any n hn64)
  rw [← hu] at hs
  have hu1 := numL_pos n
  have hu9 := numL_le n hn64
  rw [← hu] at hu1 hu9
  rcases hr with ⟨a, c, rfl, _, rfl⟩ | ⟨b, o, c, rfl, h1, h2, h3, h4⟩
  · simp at hul; omega
  unfold maxLen at h2
  have hlen0 : l.length ≠ 0 := by omega
  have hc0 : w.cell? ⟨b, o, none⟩ = some (.int .u8 (ith l 0)) := h4 0 (by omega)
  have hb0 := hl 0
  unfold readF at h
  rw [if_neg hlen0] at h
  by_cases hq : ith l 0 ≤ 247
  · rw [if_pos hq] at h
    obtain ⟨e1, e2⟩ := Prod.mk.injEq .. ▸ Option.some.inj h
    subst e1 e2
    have hlp : 0 < l.length := by omega
    generalize l.length = N at *
    clear hs hu hu1 hu9 htk h h4 hn64 hl hul
    generalize ith l 0 = q at *
    go_enter Tryz.func157, Tryz.ntmps157
    go_wp2
    go_ret3
    exact ⟨by rw [Int.toNat_of_nonneg (by omega)]; rfl, rfl⟩
  · rw [if_neg hq] at h
    obtain ⟨K, hK⟩ : ∃ K : Nat, ith l 0 = (K : Int) + 247 := ⟨(ith l 0 - 247).toNat, by omega⟩
    have eK : (ith l 0).toNat - 247 = K := by omega
    rw [eK] at h
    split at h
    · cases h
    rename_i hlen
    split at h
    · rename_i hks
      obtain ⟨e1, e2⟩ := Prod.mk.injEq .. ▸ Option.some.inj h
      have hbd := bytes_drop l 1 hl
      have hcells := Lib.hid (fun j (hj : j < K) => (show w.cell? ⟨b, o + 1 + j, none⟩ = some (.int .u8 (ith (l.drop 1) j)) from by
        rw [ith_drop, Nat.add_assoc]; exact h4 (1 + j) (by omega)))
      have hbyte := Lib.hid (fun j => hbd j)
      have hval := Lib.hid (fun j (hj : j ≤ 7) => (show 0 ≤ (valN (l.drop 1) j : Int) ∧ (valN (l.drop 1) j : Int) < 72057594037927936 from by
        have h1 := valN_lt (l.drop 1) hbd j
        have h2 : (256 : Nat) ^ j ≤ 72057594037927936 := (show (256 : Nat) ^ j ≤ 256 ^ 7 from Nat.pow_le_pow_right (by decide) hj)
        omega))
      have hstep := Lib.hid (fun j => (show (valN (l.drop 1) (j + 1) : Int) = (valN (l.drop 1) j : Int) * 256 + ith (l.drop 1) j from by
        have := hbd j
        rw [valN]; omega))
      have hfin := Lib.hid e1
      rw [← e2] at hs ⊢
      rw [hK] at hc0
      have hx1 : 1 + ((K : Int) + 247) - 247 = (K : Int) + 1 := by omega
      have hlK : K + 1 ≤ l.length := by omega
      have hK1 : 1 ≤ K := by omega
      have hK8 : K ≤ 8 := by omega
      generalize l.length = N at *
      clear hu hu1 hu9 htk h h4 hn64 hul e2 e1 hks hlen hbd hq hb0 hK eK
      go_enter Tryz.func157, Tryz.ntmps157
      go_wp2
      go_loop [6, 34] (fun x i => ∃ j : Nat, j ≤ K ∧ i = .int .i64 j ∧ x = .int .u64 (valN (l.drop 1) j : Nat)) (fun _ i => match i with | .int _ m => K - m.toNat | _ => 0)
      case atStart => exact ⟨0, Nat.zero_le _, rfl, rfl⟩
      case round =>
        obtain ⟨j, hj, rfl, rfl⟩ := hrel
        by_cases hlt : j < K
        · have hck := hcells.out j hlt
          have hb := hbyte.out j
          have hx := hval.out j (by omega)
          have hor := Lib.hid (or_byte _ _ hx hb)
          have hnx := hstep.out j
          generalize hY : valN (l.drop 1) (j + 1) = y at hnx
          generalize hX : valN (l.drop 1) j = x at *
          generalize ith (l.drop 1) j = z at *
          have hnx' := Lib.hid hnx; have hY' := Lib.hid hY
          clear hnx hY hX
          go_wp2
          refine ⟨⟨j + 1, by omega, rfl, ?_⟩, ?_⟩
          · rw [hor.out, ← hnx'.out, hY'.out]
          · show K - ((j : Int) + 1).toNat < K - (j : Int).toNat
            omega
        · obtain rfl : j = K := by omega
          rw [hfin.out]
          clear hfin hcells hbyte hval hstep
          go_wp2_with (go_at_call 111; (with_reducible refine (hs.out _).mono ?_); rintro e w' ⟨rfl, rfl⟩)
          go_ret3
          exact ⟨rfl, rfl⟩
    · cases h
theorem readNumber_any (l : List Int) (bv : Value) (w : World) (hr : RdB w bv l) (hl : Bytes l) :
    Calls Tryz.prog 157 #[bv] w fun e w' => e = .returned (.tuple #[.int .u64 (rdN l : Nat), .int .i64 (rdU l : Nat), .int .i64 (rdE l)]) ∧ w = w' := by
  cases h : readF l with
  | none => obtain ⟨h1, h2, h3⟩ := rd_none h; rw [h1, h2, h3]; exact readNumber_none l bv w hr hl h
  | some p => obtain ⟨n, u⟩ := p; obtain ⟨h1, h2, h3⟩ := rd_some h; rw [h1, h2, h3]; exact readNumber_some l bv w hr hl n u h
theorem readSigned_any (l : List Int) (bv : Value) (w : World) (hr : RdB w bv l) (hl : Bytes l) :
    Calls Tryz.prog 212 #[bv] w fun e w' => e = .returned (.tuple #[.int .i64 (unfoldN (rdN l)), .int .i64 (rdU l : Nat), .int .i64 (rdE l)]) ∧ w = w' := by
  have hn := Lib.hid (readNumber_any l bv w hr hl)
  have hu := Lib.hid (unfold_any (rdN l) (rdN_lt hl))
  obtain ⟨a, c, rfl⟩ := hr.slice
  clear hr hl
  generalize rdN l = N at *
  generalize rdU l = U at *
  generalize rdE l = E at *
  generalize l.length = L at *
  generalize unfoldN N = F at *
  go_enter Tryz.func212, Tryz.ntmps212
  go_wp2_with (first | (go_at_call 157; (with_reducible refine (hn.out).mono ?_); rintro e w' ⟨rfl, rfl⟩) | (go_at_call 218; (with_reducible refine (hu.out _).mono ?_); rintro e w' ⟨rfl, rfl⟩))
  go_ret3
  exact ⟨rfl, rfl⟩
end Go.Proofs.YtnknkiiikeefgaaGreatDoor.wir
namespace Go.Proofs.YtnknkiiikeefgaaGreatDoor.wir
open Go.RowKit Go.YtnknkiiikeefgaaGreatDoor
set_option linter.unusedVariables false
theorem rdB_at {w : World} {a : Option Addr} {n c : Nat} {l : List Int} (h : RdB w (.slice a n c) l) (i : Nat) (hi : i < l.length) : ∃ b o, a = some ⟨b, o, none⟩ ∧ b < w.heap.size ∧ w.cell? ⟨b, o + i, none⟩ = some (.int .u8 (ith l i)) := by
  rcases h with ⟨_, _, _, _, rfl⟩ | ⟨b, o, c', h1, h2, h3, h4, h5⟩
  · exact absurd hi (Nat.not_lt_zero _)
  · cases h1
    exact ⟨b, o, rfl, h4, h5 i hi⟩
def sameF (a b : List Int) : Bool := decide (a = b)
theorem sameF_len {a b : List Int} (h : a.length ≠ b.length) : sameF a b = false := by
  simp only [sameF, decide_eq_false_iff_not]; intro e; exact h (by rw [e])
theorem sameF_not {a b : List Int} (k : Nat) (h : ith a k ≠ ith b k) : sameF a b = false := by
  simp only [sameF, decide_eq_false_iff_not]; intro e; exact h (by rw [e])
theorem sameF_yes {a b : List Int} (h : a.length = b.length) (h2 : ∀ i, i < a.length → ith a i = ith b i) : sameF a b = true := by
  simp only [sameF, decide_eq_true_eq]; exact ith_ext h h2
theorem sameF_self (a : List Int) : sameF a a = true := by simp [sameF]
set_option maxRecDepth 100000 in
theorem same_any (va vb : Value) (a b : List Int) (w : World) (hm : a.length ≤ 140737488355328) (h1 : RdB w va a) (h2 : RdB w vb b) :
    Calls Tryz.prog 46 #[va, vb] w fun e w' => e = .returned (.bool (sameF a b)) ∧ Draws w w' := by
  obtain ⟨a1, c1, rfl⟩ := h1.slice
  obtain ⟨a2, c2, rfl⟩ := h2.slice
  by_cases hlen : a.length = b.length
  · rw [← hlen] at h2 ⊢
    have h1' := Lib.hid h1; have h2' := Lib.hid h2; have hb := Lib.hid hlen
    clear h1 h2 hlen
    generalize hna : a.length = n at *
    have hn := Lib.hid hna
    clear hna
    go_enter Tryz.func46, Tryz.ntmps46
    go_wp2
    go_loopw [5] (fun i wr => ∃ k : Nat, k ≤ n ∧ i = .int .i64 k ∧ Draws w wr ∧ ∀ j, j < k → ith a j = ith b j) (fun i _ => match i with | .int _ m => n - m.toNat | _ => 0)
    case atStart => exact ⟨0, Nat.zero_le _, rfl, Draws.refl _, fun j hj => absurd hj (Nat.not_lt_zero _)⟩
    case round =>
      obtain ⟨k, hk, rfl, hd, he⟩ := hrel
      have he' := Lib.hid he; clear he
      by_cases hlt : k < n
      · obtain ⟨b1, o1, rfl, _, e1⟩ := rdB_at h1'.out k (by rw [hn.out]; exact hlt)
        obtain ⟨b2, o2, rfl, _, e2⟩ := rdB_at h2'.out k (by rw [← hb.out]; exact hlt)
        have c1 := (hd.cell _).trans e1
        have c2 := (hd.cell _).trans e2
        have hnot := Lib.hid (fun h => sameF_not (a := a) (b := b) k h)
        by_cases hx : ith a k = ith b k
        · have hx' := Lib.hid hx
          rw [← hx] at c2
          clear hx hnot
          generalize hX : ith a k = x at c1 c2
          clear hX e1 e2
          go_wp2
          go_quiet (fail)
          go_wp2
          go_roundw
          case rel => exact ⟨k + 1, by omega, by go_num, hd.drewN _, fun j hj => by
            rcases Nat.lt_or_ge j k with h | h
            · exact he'.out j h
            · obtain rfl : j = k := by omega
              exact hx'.out⟩
          case measure => go_num
        · have hs := Lib.hid (hnot.out hx)
          have hxb : (ith a k != ith b k) = true := by simpa using hx
          clear hnot
          generalize ith a k = x at *
          generalize ith b k = y at *
          clear e1 e2 hx
          go_wp2
          go_quiet (fail)
          go_wp2
          go_ret
          exact ⟨ret_bool hs.out.symm, hd.drewN _⟩
      · have hkn : k = n := by omega
        have hs := Lib.hid (sameF_yes (a := a) (b := b) (by rw [hn.out]; exact hb.out) (fun i hi => he'.out i (by rw [hn.out] at hi; omega)))
        clear hkn
        go_wp2
        go_ret
        exact ⟨ret_bool hs.out.symm, hd⟩
  · have hs := Lib.hid (sameF_len hlen)
    have hbne : ((a.length : Int) != (b.length : Int)) = true := by simp; omega
    clear h1 h2
    generalize a.length = n at *
    generalize b.length = m at *
    clear hlen
    go_enter Tryz.func46, Tryz.ntmps46
    go_wp2
    go_ret
    exact ⟨ret_bool hs.out.symm, Draws.refl _⟩
theorem own_lit (w : World) (x : Int) : OwnB w.heap.size 5 (w.alloc (.cells #[.int .u8 x] 5)) (.slice (some ⟨w.heap.size, 0, none⟩) 1 1) [x] :=
  ⟨rfl, .inr ⟨w.heap.size, 1, _, rfl, Nat.le_refl _, heap_alloc_new w _, Nat.le_refl _, by decide, rfl, rfl⟩⟩
theorem rd_one (w : World) (x : Int) : RdB (w.alloc (.cells #[.int .u8 x] 5)) (.slice (some ⟨w.heap.size, 0, none⟩) 1 1) [x] := (own_lit w x).rd
theorem below_new (w : World) (o : Obj) : Below w.heap.size w (w.alloc o) := (Below.refl _ _).alloc (Nat.le_refl _) o
def outF (j n t : Nat) : List Int := (247 + (j : Int)) :: (be j n).take t
theorem outF_length (j n t : Nat) (h : t ≤ j) : (outF j n t).length = t + 1 := by simp [outF, be_length]; omega
theorem outF_succ (j n t : Nat) (h : t < j) : outF j n t ++ [ith (be j n) t] = outF j n (t + 1) := by
  unfold outF
  rw [take_succ_ith _ _ (by rw [be_length]; exact h), List.cons_append]
set_option maxRecDepth 100000 in
theorem rnum_any (n : Nat) (hn : n < 18446744073709551616) (w : World) : Calls Tryz.prog 153 #[.int .u64 (n : Int)] w fun e w' => ∃ v, e = .returned v ∧ OwnB w.heap.size 5 w' v (numB n) ∧ Below w.heap.size w w' := by
  by_cases h : n ≤ 247
  · have e2 : numB n = [(n : Int)] := by simp [numB, h]
    rw [e2]
    clear hn e2
    go_enter Tryz.func153, Tryz.ntmps153
    go_wp2
    go_ret
    exact ⟨_, rfl, own_lit w _, below_new w _⟩
  · obtain ⟨k1, k8, _, kh⟩ := ks_bounds n (by omega) hn
    have hpos := Lib.hid (fun j => div_pos_iff n j (by omega) hn)
    have e2 := Lib.hid (show numB n = (247 + (ks n : Int)) :: be (ks n) n by simp [numB, h])
    have hn0 := Lib.hid (show n / 256 ^ 0 = n by simp)
    have hlt64 := Lib.hid (fun j => Nat.lt_of_le_of_lt (Nat.div_le_self n (256 ^ j)) hn)
    clear kh hn
    generalize ks n = k at *
    go_enter Tryz.func153, Tryz.ntmps153
    go_wp2
    go_loopw [0, 3] (fun x s wr => ∃ j : Nat, j ≤ k ∧ x = .int .u64 ((n / 256 ^ j : Nat) : Int) ∧ OwnB w.heap.size 5 wr s (le j n) ∧ Below w.heap.size w wr) (fun _ s _ => 10 - lenS s)
    case atStart => exact ⟨0, Nat.zero_le _, by rw [hn0.out], OwnB.nil _ _ _, Below.refl _ _⟩
    case round =>
      obtain ⟨j, hj, rfl, ho, hb⟩ := hrel
      obtain ⟨sa, sc, rfl⟩ := ho.rd.slice
      have hlen := le_length j n
      by_cases hlt : j < k
      · have hp := (hpos.out j).2 hlt
        have h64 := hlt64.out j
        have hst := Lib.hid (div_step n j)
        have hle := Lib.hid (show le (j + 1) n = le j n ++ [((n / 256 ^ j % 256 : Nat) : Int)] from rfl)
        have hl1 := le_length (j + 1) n
        generalize hy : n / 256 ^ (j + 1) = y at hst
        have hY := Lib.hid hy
        clear hy
        generalize hq : n / 256 ^ j = q at *
        clear hq
        have hlen' := Lib.hid hlen
        rw [hlen] at ho ⊢
        clear hlen
        have hzw := hb.size
        have ho' := Lib.hid (ho.kept (below_new wr (.cells #[.int .u8 ((q : Int) % 256)] 5)))
        have hb' := Lib.hid hb
        have hl1' := Lib.hid hl1
        clear ho hb hl1
        go_wp2_with (refine appendB rfl _ _ 83 rfl w.heap.size 5 Tryz.underlying83 (by kernel_rfl) _ rfl _ ho'.out _ rfl _ (rd_one _ _) (by rw [hlen'.out]; simp; omega) (by simp; omega) ?_)
        intro v' w' h1 h2
        have hb2 := ho'.out.below h2 (by simp; omega)
        rw [show le j n ++ [(q : Int) % 256] = le (j + 1) n by rw [hle.out]; simp] at h1
        obtain ⟨va, vc, rfl⟩ := h1.rd.slice
        have h1' := Lib.hid h1; have hB2 := Lib.hid (hb'.out.trans (((Below.refl _ _).alloc hzw _).trans hb2))
        rw [hl1'.out] at h1' ⊢
        clear h1 h2 hb2 ho' hle
        refine Stop.go ?_
        go_wp2
        go_roundw
        case rel => exact ⟨j + 1, by omega, by rw [hY.out, ← hst.out]; simp, h1'.out, hB2.out⟩
        case measure => simp [lenS]; omega
      · obtain rfl : j = k := by omega
        obtain ⟨w1, hw1⟩ : ∃ w1, w1 = wr := ⟨_, rfl⟩
        subst hw1
        have hz0 : n / 256 ^ j = 0 := Nat.eq_zero_of_not_pos (fun hp => by have := (hpos.out j).1 hp; omega)
        have ho' := Lib.hid ho; have hb' := Lib.hid hb
        have hzw := hb.size
        have hlen' := Lib.hid hlen
        rw [hz0, show ((0 : Nat) : Int) = 0 from rfl]
        rw [hlen] at ho' ⊢
        clear ho hb hz0 hlen hpos hlt64 hn0
        go_wp2
        generalize hW : w1.alloc _ = W
        have how := Lib.hid (show OwnB w1.heap.size 5 W (.slice (some ⟨w1.heap.size, 0, none⟩) 1 1) (outF j n 0) by rw [← hW]; exact own_lit w1 _)
        have hbw := Lib.hid (show Below w1.heap.size w1 W by rw [← hW]; exact below_new w1 _)
        clear hW
        have hdr := Lib.hid ho'.out.rd
        clear ho'
        go_loopw [4, 5] (fun s i wr => ∃ t : Nat, t ≤ j ∧ i = .int .i64 ((j : Int) - 1 - (t : Int)) ∧ OwnB w1.heap.size 5 wr s (outF j n t) ∧ Below w1.heap.size w1 wr) (fun _ i _ => (intOf i + 1).toNat)
        case atStart => exact ⟨0, Nat.zero_le _, by simp, how.out, hbw.out⟩
        case round =>
          obtain ⟨t, ht, rfl, ho, hb⟩ := hrel
          obtain ⟨qa, qc, rfl⟩ := ho.rd.slice
          have hlo := outF_length j n t ht
          by_cases hlt : t < j
          · obtain ⟨m, hm⟩ : ∃ m : Nat, (j : Int) - 1 - (t : Int) = (m : Int) := ⟨j - 1 - t, by omega⟩
            have hmv : m = j - 1 - t := by omega
            obtain ⟨b, o, rfl, hbs, e1⟩ := rdB_at hdr.out m (by rw [hlen'.out]; omega)
            have c1 := (hb.cell (p := ⟨b, o + m, none⟩) hbs).trans e1
            have hx := Lib.hid (show outF j n t ++ [ith (le j n) m] = outF j n (t + 1) by rw [ith_le _ _ _ (by omega), hmv, ← outF_succ j n t hlt, ith_be _ _ _ hlt])
            have hmj : m < j := by omega
            have hm0 : (m : Int) - 1 = (j : Int) - 1 - ((t + 1 : Nat) : Int) := by omega
            have hm0' := Lib.hid hm0
            generalize ith (le j n) m = x at *
            have hls := Lib.hid (outF_length j n (t + 1) (by omega))
            have hlo' := Lib.hid hlo
            rw [hlo] at ho ⊢
            rw [hm]
            have hzq := hb.size
            have ho' := Lib.hid (ho.kept (below_new wr (.cells #[.int .u8 x] 5)))
            have hb' := Lib.hid hb
            clear ho hb hlo hm0 hmv e1 hm
            go_wp2_with (refine appendB rfl _ _ 83 rfl w1.heap.size 5 Tryz.underlying83 (by kernel_rfl) _ rfl _ ho'.out _ rfl _ (rd_one _ _) (by rw [hlo'.out]; simp; omega) (by simp; omega) ?_)
            intro v' w' h1 h2
            have hb2 := ho'.out.below h2 (by simp; omega)
            rw [hx.out] at h1
            obtain ⟨va, vc, rfl⟩ := h1.rd.slice
            have h1' := Lib.hid h1; have hB2 := Lib.hid (hb'.out.trans (((Below.refl _ _).alloc hzq _).trans hb2))
            rw [hls.out] at h1' ⊢
            clear h1 h2 hb2 ho' hx
            refine Stop.go ?_
            go_wp2
            go_roundw
            case rel => exact ⟨t + 1, by omega, by rw [hm0'.out], h1'.out, hB2.out⟩
            case measure => simp [intOf]
          · obtain rfl : t = j := by omega
            have hi : (t : Int) - 1 - (t : Int) = -1 := by omega
            rw [hi]
            have ho' := Lib.hid (ho.mono hzw)
            have hB := Lib.hid (hb'.out.trans (hb.mono hzw))
            rw [hlo] at ho' ⊢
            clear ho hb hlo hi
            go_wp2
            go_ret
            refine ⟨_, rfl, ?_, hB.out⟩
            rw [e2.out]
            have : outF t n t = (247 + (t : Int)) :: be t n := by simp [outF, List.take_of_length_le, be_length]
            rw [← this]; exact ho'.out
theorem rdB_take {w : World} {a : Option Addr} {n c : Nat} {l : List Int} (h : RdB w (.slice a n c) l) (k : Nat) (hk : k ≤ n) : RdB w (.slice a k c) (l.take k) := by
  rcases h with ⟨a', c', e, h1, rfl⟩ | ⟨b, o, c', e, h1, h2, h3, h4⟩
  · cases e
    obtain rfl : k = 0 := by omega
    exact .inl ⟨a, c, rfl, h1, rfl⟩
  · cases e
    have hl : (l.take k).length = k := by rw [List.length_take]; omega
    exact .inr ⟨b, o, c, by rw [hl], by rw [hl]; omega, h2, h3, fun i hi => by
      rw [hl] at hi
      rw [ith_take _ _ _ hi]; exact h4 i (by omega)⟩
theorem draws_rdB {w w' : World} (h : Draws w w') {v : Value} {l : List Int} (hr : RdB w v l) : RdB w' v l := hr.mono (h.below (Below.refl _ _))
/-- What the reference reads, behind the number it took. -/
def refE (l : List Int) : Bool := sameF (l.take (numL (refN l))) (numB (refN l))
theorem refE_yes {l : List Int} (hl : Bytes l) (h : refE l = true) : rdN l = refN l ∧ rdU l = numL (refN l) ∧ rdE l = 0 := by
  have h1 : l.take (numL (refN l)) = numB (refN l) := by simpa [refE, sameF] using h
  have h2 := readF_ref hl
  rw [if_pos h1] at h2
  exact rd_some h2
theorem refE_no {l : List Int} (hl : Bytes l) (h : refE l = false) : rdN l = 0 ∧ rdU l = 0 ∧ rdE l = 12 := by
  have h1 : ¬ l.take (numL (refN l)) = numB (refN l) := by simpa [refE, sameF] using h
  have h2 := readF_ref hl
  rw [if_neg h1] at h2
  exact rd_none h2
theorem rsigned4_any (n : Int) (h1 : -9223372036854775808 ≤ n) (h2 : n ≤ 9223372036854775807) (w : World) : Calls Tryz.prog 204 #[.int .i64 n] w fun e w' => ∃ v, e = .returned v ∧ OwnB w.heap.size 5 w' v (numB (foldN n)) ∧ Below w.heap.size w w' := by
  have hn := Lib.hid (rnum_any (foldN n) (fold_lt n ⟨h1, h2⟩) w)
  by_cases h : 0 ≤ n
  · have e : (foldN n : Int) = 2 * n := by unfold foldN; rw [if_neg (by omega)]; omega
    rw [e] at hn
    generalize numB (foldN n) = B at *
    clear e
    go_enter Tryz.func204, Tryz.ntmps204
    go_wp2_with (go_at_call 153; (with_reducible refine (hn.out).mono ?_); rintro e w' ⟨v, rfl, hr, hb⟩; have hr' := Lib.hid hr; have hb' := Lib.hid hb; clear hr hb)
    go_ret
    exact ⟨_, rfl, hr'.out, hb'.out⟩
  · have e : (foldN n : Int) = 2 * (-(n + 1)) + 1 := by unfold foldN; rw [if_pos (by omega)]; omega
    rw [e] at hn
    generalize numB (foldN n) = B at *
    clear e
    go_enter Tryz.func204, Tryz.ntmps204
    go_wp2_with (go_at_call 153; (with_reducible refine (hn.out).mono ?_); rintro e w' ⟨v, rfl, hr, hb⟩; have hr' := Lib.hid hr; have hb' := Lib.hid hb; clear hr hb)
    go_ret
    exact ⟨_, rfl, hr'.out, hb'.out⟩
theorem same_yesW (va vb : Value) (a : List Int) (w : World) (hm : a.length ≤ 140737488355328) (h1 : RdB w va a) (h2 : RdB w vb a) :
    Calls Tryz.prog 46 #[va, vb] w fun e w' => e = .returned (.bool true) ∧ Draws w w' := by
  have h := same_any va vb a a w hm h1 h2
  rw [sameF_self] at h
  exact h
end Go.Proofs.YtnknkiiikeefgaaGreatDoor.wir
namespace Go.Proofs.YtnknkiiikeefgaaGreatDoor.wir
open Go.RowKit Go.YtnknkiiikeefgaaGreatDoor
set_option linter.unusedVariables false
theorem rdB_len0 {w : World} {v : Value} {r : List Int} (h : RdB w v r) (h0 : r.length = 0) : ∃ a c, v = .slice a 0 c := by
  obtain ⟨a, c, rfl⟩ := h.slice
  exact ⟨a, c, by rw [h0]⟩
theorem step_copyB {P : Program} {ops : Array Oper} {o : Oper} {a : Act} {w : World} {K : Act → World → Prop} {Q : Exit → Act → World → Prop} {E : Prop} (hgd : o.guard = none) (d s : Operand) (dT sT : TypeId)
    (ho : o.op = .call { callee := .builtin .copy, args := #[d, s], argTypes := #[dT, sT] }) (elem : TypeId) (hu : P.underlying dT = some (.slice elem)) (hsz : (P.info? elem).map (·.size) = some 1)
    (dp : Option Addr) (g off dLen dCap : Nat) (hd : a.eval d = .slice dp dLen dCap) (sv : Value) (hs : a.eval s = sv) (r : List Int) (hr : RdB w sv r) (hdp : 0 < r.length → dp = some ⟨g, off, none⟩)
    (cs : List Int) (t : TypeId) (hg : w.heap[g]? = some (.cells (u8s cs) t (0, 0))) (hle : r.length ≤ dLen) (hfit : off + r.length ≤ cs.length)
    (h : ∀ w', Hid (w' = w.setRow g (u8s (overlay cs off r))) → K (a.put o.dst (goInt r.length)) w') :
    if Region.wanted o (yielded ops a.tmps) = true then Oper.wp P o a w K Q else E := by
  have hw : Region.wanted o (yielded ops a.tmps) = true := by simp [Region.wanted, hgd]
  rw [if_pos hw]
  have h := h _ (show _ = _ from rfl)
  by_cases h0 : r.length = 0
  · obtain ⟨sa, sc, rfl⟩ := rdB_len0 hr h0
    obtain rfl : r = [] := List.eq_nil_of_length_eq_zero h0
    have hrun := run_copy_none (P := P) w dT sT o.type elem dp sa dLen dCap 0 sc hu hsz (Nat.zero_min _)
    unfold Oper.wp
    simp [execOp, ho, resolve, invoke, builtin, hd, hs, hrun, Result.andThen]
    have e : overlay cs off [] = cs := by simp [overlay]
    rw [e, setRow_self w g _ t _ hg] at h
    exact h
  · obtain rfl := hdp (by omega)
    rcases hr with ⟨sa, sc, rfl, _, rfl⟩ | ⟨b, o', c, rfl, h1, h2, h3, h4⟩
    · simp at h0
    · have hrun := run_copy_row (P := P) w dT sT o.type elem g off dLen dCap ⟨b, o', none⟩ r.length c (u8s cs) t (u8v r) hu hsz hg (by rw [u8v_length]; exact (Nat.min_eq_left hle).symm) (RdB.src h4) (by rw [u8v_length, u8s_size]; exact hfit) (u8v_one r)
      unfold Oper.wp
      simp [execOp, ho, resolve, invoke, builtin, hd, hs, hrun, Result.andThen]
      have e : ((u8s cs).toList.take off ++ (u8v r ++ (u8s cs).toList.drop (off + r.length))).toArray = u8s (overlay cs off r) := by
        simp [u8s, u8v, overlay]
      rw [u8v_length, e]; exact h
theorem below_drewG (B : Nat) (w : World) : Below B w w.drew := ((Draws.refl _).drewN 1).below (Below.refl _ _)
theorem below_drew (w : World) : Below w.heap.size w w.drew := below_drewG _ w
/-- A function without a result has come to its end. -/
def IsRet (e : Ending) : Prop := ∃ v, e = .returned v
theorem put_some (g A T : Nat) (B : List Int) (rv : Value) (r : List Int) (w : World) (hT : B.length = T) (hb : w.heap[g]? = some (.cells (u8s B) 5 (0, 0)))
    (hv : w.heap[g + 1]? = some (.cells #[.slice (some ⟨g, 0, none⟩) T T] 83 (0, 0))) (ha : w.heap[g + 2]? = some (.cells #[.int .i64 (A : Int)] 3 (0, 0)))
    (hr : RdB w rv r) (hfit : A + r.length ≤ T) (hm : T ≤ 1000000) (hlt : A < T) :
    Calls Tryz.prog 171 #[rv, .pointer (some ⟨g + 2, 0, none⟩), .pointer (some ⟨g + 1, 0, none⟩)] w fun e w' => IsRet e ∧ w'.heap[g]? = some (.cells (u8s (overlay B A r)) 5 (0, 0)) ∧ w'.heap[g + 1]? = some (.cells #[.slice (some ⟨g, 0, none⟩) T T] 83 (0, 0)) ∧ w'.heap[g + 2]? = some (.cells #[.int .i64 ((A + r.length : Nat) : Int)] 3 (0, 0)) ∧ Below g w w' := by
  have c1 : w.cell? ⟨g + 1, 0, none⟩ = some (.slice (some ⟨g, 0, none⟩) T T) := by rw [cell_of_row _ _ _ _ _ _ hv]; rfl
  have c2 : w.cell? ⟨g + 2, 0, none⟩ = some (.int .i64 (A : Int)) := by rw [cell_of_row _ _ _ _ _ _ ha]; rfl
  have f2 := frozen_of_row _ _ 0 _ _ ha
  have hrs := hr
  obtain ⟨ra, rc, rfl⟩ := hr.slice
  have hr' := Lib.hid hrs; have hb' := Lib.hid hb; have hv' := Lib.hid hv; have ha' := Lib.hid ha; have hT' := Lib.hid hT
  clear hr hrs hb hv ha hT
  generalize hn : r.length = n at *
  have hn' := Lib.hid hn
  clear hn
  have g1 : A ≤ T := by omega
  have g2 : ¬ T = A := by omega
  go_enter Tryz.func171, Tryz.ntmps171
  have hwr : IntKind.i64.wrap ((A : Int) + (n : Int)) = (A : Int) + (n : Int) := IntWalk.i64_in _ (by omega)
  have k0 := Lib.hid (fun (w4 : World) (h : w4 = w.drew.setRow g (u8s (overlay B A r))) => (show w4.heap[g + 2]? = some (.cells #[.int .i64 (A : Int)] 3 (0, 0)) from by rw [h]; exact (setRow_other w.drew g (g + 2) _ (by omega)).trans ha'.out))
  go_wp2
  go_region_law ((refine step_copyB rfl _ _ 83 83 rfl 5 Tryz.underlying83 (by kernel_rfl) (some ⟨g, A, none⟩) g A (T - A) (T - A) rfl _ rfl r (hr'.out.mono (below_drew w)) (fun _ => rfl) B 5 hb'.out (by rw [hn'.out]; omega) (by rw [hn'.out, hT'.out]; omega) ?_; intro w4 hw4; have k2 : w4.cell? ⟨g + 2, 0, none⟩ = some (.int .i64 (A : Int)) := (by rw [cell_of_row _ _ _ _ _ _ (k0.out _ hw4.out)]; rfl); have k3 : w4.frozen? ⟨g + 2, 0, none⟩ = false := (frozen_of_row _ _ 0 _ _ (k0.out _ hw4.out)); rw [hn'.out]))
  all_goals
    go_end0
    refine ⟨⟨_, rfl⟩, ?_, ?_, ?_, ?_⟩
    · rw [hw4.out]
      exact (setCell_rows _ _ _ _ (by omega)).trans (setRow_heap w.drew g _ _ _ _ hb'.out)
    · rw [hw4.out]
      exact (setCell_rows _ _ _ _ (by omega)).trans ((setRow_other w.drew g (g + 1) _ (by omega)).trans hv'.out)
    · exact setCell_row (k0.out _ hw4.out) 0 (.int .i64 ((A : Int) + (n : Int)))
    · rw [hw4.out]
      exact (below_setRow' (below_drewG g w) (Nat.le_refl _) _).setCell (by simp) _
theorem put_end (g A T : Nat) (B : List Int) (rv : Value) (r : List Int) (w : World) (hT : B.length = T) (hb : w.heap[g]? = some (.cells (u8s B) 5 (0, 0)))
    (hv : w.heap[g + 1]? = some (.cells #[.slice (some ⟨g, 0, none⟩) T T] 83 (0, 0))) (ha : w.heap[g + 2]? = some (.cells #[.int .i64 (A : Int)] 3 (0, 0)))
    (hr : RdB w rv r) (hfit : A + r.length ≤ T) (hm : T ≤ 1000000) (hlt : A = T) :
    Calls Tryz.prog 171 #[rv, .pointer (some ⟨g + 2, 0, none⟩), .pointer (some ⟨g + 1, 0, none⟩)] w fun e w' => IsRet e ∧ w'.heap[g]? = some (.cells (u8s (overlay B A r)) 5 (0, 0)) ∧ w'.heap[g + 1]? = some (.cells #[.slice (some ⟨g, 0, none⟩) T T] 83 (0, 0)) ∧ w'.heap[g + 2]? = some (.cells #[.int .i64 ((A + r.length : Nat) : Int)] 3 (0, 0)) ∧ Below g w w' := by
  subst hlt
  have c1 : w.cell? ⟨g + 1, 0, none⟩ = some (.slice (some ⟨g, 0, none⟩) A A) := by rw [cell_of_row _ _ _ _ _ _ hv]; rfl
  have c2 : w.cell? ⟨g + 2, 0, none⟩ = some (.int .i64 (A : Int)) := by rw [cell_of_row _ _ _ _ _ _ ha]; rfl
  have f2 := frozen_of_row _ _ 0 _ _ ha
  have hrs := hr
  obtain ⟨ra, rc, rfl⟩ := hr.slice
  have hr' := Lib.hid hrs; have hb' := Lib.hid hb; have hv' := Lib.hid hv; have ha' := Lib.hid ha; have hT' := Lib.hid hT
  clear hr hrs hb hv ha hT
  generalize hn : r.length = n at *
  have hn' := Lib.hid hn
  clear hn
  go_enter Tryz.func171, Tryz.ntmps171
  have hwr : IntKind.i64.wrap ((A : Int) + (n : Int)) = (A : Int) + (n : Int) := IntWalk.i64_in _ (by omega)
  have k0 := Lib.hid (fun (w4 : World) (h : w4 = w.drew.setRow g (u8s (overlay B A r))) => (show w4.heap[g + 2]? = some (.cells #[.int .i64 (A : Int)] 3 (0, 0)) from by rw [h]; exact (setRow_other w.drew g (g + 2) _ (by omega)).trans ha'.out))
  go_wp2
  go_region_law ((refine step_copyB rfl _ _ 83 83 rfl 5 Tryz.underlying83 (by kernel_rfl) (some ⟨g, 0, none⟩) g A 0 0 rfl _ rfl r (hr'.out.mono (below_drew w)) (fun h => by rw [hn'.out] at h; omega) B 5 hb'.out (by rw [hn'.out]; omega) (by rw [hn'.out, hT'.out]; omega) ?_; intro w4 hw4; have k2 : w4.cell? ⟨g + 2, 0, none⟩ = some (.int .i64 (A : Int)) := (by rw [cell_of_row _ _ _ _ _ _ (k0.out _ hw4.out)]; rfl); have k3 : w4.frozen? ⟨g + 2, 0, none⟩ = false := (frozen_of_row _ _ 0 _ _ (k0.out _ hw4.out)); rw [hn'.out]))
  all_goals
    go_end0
    refine ⟨⟨_, rfl⟩, ?_, ?_, ?_, ?_⟩
    · rw [hw4.out]
      exact (setCell_rows _ _ _ _ (by omega)).trans (setRow_heap w.drew g _ _ _ _ hb'.out)
    · rw [hw4.out]
      exact (setCell_rows _ _ _ _ (by omega)).trans ((setRow_other w.drew g (g + 1) _ (by omega)).trans hv'.out)
    · exact setCell_row (k0.out _ hw4.out) 0 (.int .i64 ((A : Int) + (n : Int)))
    · rw [hw4.out]
      exact (below_setRow' (below_drewG g w) (Nat.le_refl _) _).setCell (by simp) _
theorem put_any (g A T : Nat) (B : List Int) (rv : Value) (r : List Int) (w : World) (hT : B.length = T) (hb : w.heap[g]? = some (.cells (u8s B) 5 (0, 0)))
    (hv : w.heap[g + 1]? = some (.cells #[.slice (some ⟨g, 0, none⟩) T T] 83 (0, 0))) (ha : w.heap[g + 2]? = some (.cells #[.int .i64 (A : Int)] 3 (0, 0)))
    (hr : RdB w rv r) (hfit : A + r.length ≤ T) (hm : T ≤ 1000000) :
    Calls Tryz.prog 171 #[rv, .pointer (some ⟨g + 2, 0, none⟩), .pointer (some ⟨g + 1, 0, none⟩)] w fun e w' => IsRet e ∧ w'.heap[g]? = some (.cells (u8s (overlay B A r)) 5 (0, 0)) ∧ w'.heap[g + 1]? = some (.cells #[.slice (some ⟨g, 0, none⟩) T T] 83 (0, 0)) ∧ w'.heap[g + 2]? = some (.cells #[.int .i64 ((A + r.length : Nat) : Int)] 3 (0, 0)) ∧ Below g w w' := by
  rcases Nat.lt_or_ge A T with h | h
  · exact put_some g A T B rv r w hT hb hv ha hr hfit hm h
  · exact put_end g A T B rv r w hT hb hv ha hr hfit hm (by omega)
theorem below_a1 (w : World) (o : Obj) : Below w.heap.size w (w.alloc o) := (Below.refl _ _).alloc (Nat.le_refl _) o
theorem overlay_zero (h : List Int) (n : Nat) : overlay (zerosB (h.length + n)) 0 h = h ++ zerosB n := by
  unfold overlay zerosB
  rw [List.take_zero, List.nil_append, Nat.zero_add, List.drop_replicate, Nat.add_sub_cancel_left]
theorem counted_any (k n : Nat) (hk : k < 9223372036854775808) (hn : n ≤ 900000) (w : World) :
    Calls Tryz.prog 140 #[.int .i64 (k : Int), .int .i64 (n : Int)] w fun e w' => ∃ g, e = .returned (.tuple #[.slice (some ⟨g, 0, none⟩) (numL k + n) (numL k + n), .func (.func 171) #[] #[.pointer (some ⟨g + 2, 0, none⟩), .pointer (some ⟨g + 1, 0, none⟩)]]) ∧ w.heap.size ≤ g ∧
      w'.heap[g]? = some (.cells (u8s (numB k ++ zerosB n)) 5 (0, 0)) ∧ w'.heap[g + 1]? = some (.cells #[.slice (some ⟨g, 0, none⟩) (numL k + n) (numL k + n)] 83 (0, 0)) ∧ w'.heap[g + 2]? = some (.cells #[.int .i64 (numL k : Nat)] 3 (0, 0)) ∧ Below w.heap.size w w' := by
  have hmf : ∀ (fn : Fn) (first cap : Array Value) (w : World), (Instr.makeFunc fn first cap).run Tryz.prog w = .ok (.func fn first cap) w := fun _ _ _ _ => rfl
  have hN := Lib.hid (number_any k (by omega) w)
  have hL9 := numL_le k (by omega)
  have hlen := Lib.hid (numB_length k)
  generalize numL k = L at *
  generalize numB k = B at *
  have hmk := fun (wx : World) => run_makeB (P := Tryz.prog) wx 83 5 Tryz.underlying83 (by kernel_rfl) (L + n) (L + n) (Nat.le_refl _) (by omega)
  have hmk' : ∀ wx : World, (Instr.makeSlice 83 (.int .i64 ((L : Int) + (n : Int))) (.int .i64 ((L : Int) + (n : Int)))).run Tryz.prog wx = .ok (.slice (some ⟨wx.heap.size, 0, none⟩) (L + n) (L + n)) (wx.alloc (.cells (u8s (zerosB (L + n))) 5)) := fun wx => by
    have h := hmk wx
    rw [show ((L + n : Nat) : Int) = (L : Int) + (n : Int) by omega] at h
    exact h
  clear hmk
  go_enter Tryz.func140, Tryz.ntmps140
  go_wp2_with (go_at_call 84; (with_reducible refine (hN.out).mono ?_); rintro e w1 ⟨rfl, hg, hb⟩; have hg' := Lib.hid hg; have hb' := Lib.hid hb; clear hg hb; refine Stop.go'' _ ?_)
  refine StopP.go ?_
  have hz := hb'.out.size
  have k0 := Lib.hid (fun (W2 : World) (h : W2 = (w1.alloc (.cells (u8s (zerosB (L + n))) 5)).alloc (.cells #[.slice (some ⟨w1.heap.size, 0, none⟩) (L + n) (L + n)] 83)) => (show RdB W2 (.slice (some ⟨w.heap.size, 0, none⟩) L L) B ∧ W2.heap[w1.heap.size]? = some (.cells (u8s (zerosB (L + n))) 5 (0, 0)) ∧ W2.heap[w1.heap.size + 1]? = some (.cells #[.slice (some ⟨w1.heap.size, 0, none⟩) (L + n) (L + n)] 83 (0, 0)) ∧ Below w.heap.size w W2 ∧ W2.heap.size = w1.heap.size + 2 from by
    subst h
    refine ⟨(rdB_row hg'.out L hlen.out (by unfold maxLen; omega)).mono ((below_a1 w1 _).trans ((below_a1 _ _).mono (by simp))), (hp1 _ _ _ (by simp)).trans (heap_alloc_new w1 _), hn2 w1 _ _, hb'.out.trans (((below_a1 w1 _).trans ((below_a1 _ _).mono (by simp))).mono hz), by simp⟩))
  have kA := Lib.hid (k0.out _ rfl)
  have kB := Lib.hid (show overlay (zerosB (L + n)) 0 B = B ++ zerosB n by have h := overlay_zero B n; rw [hlen.out] at h; exact h)
  clear hN hg' hb'
  go_wp2_with (refine copyB rfl _ _ 83 83 rfl 5 Tryz.underlying83 (by kernel_rfl) w1.heap.size 0 (L + n) (L + n) rfl _ rfl B (kA.out.1) (zerosB (L + n)) 5 (kA.out.2.1) (by rw [hlen.out]; omega) (by rw [hlen.out, zerosB_length]; omega) ?_)
  intro w2 hw2
  have r0 := Lib.hid (show w2.heap[w1.heap.size]? = some (.cells (u8s (B ++ zerosB n)) 5 (0, 0)) by rw [hw2.out, kB.out]; exact setRow_heap _ _ _ _ _ _ kA.out.2.1)
  have r1 := Lib.hid (show w2.heap[w1.heap.size + 1]? = some (.cells #[.slice (some ⟨w1.heap.size, 0, none⟩) (L + n) (L + n)] 83 (0, 0)) by rw [hw2.out]; exact (setRow_other _ _ _ _ (by omega)).trans kA.out.2.2.1)
  have r2 := Lib.hid (show Below w.heap.size w w2 by rw [hw2.out]; exact below_setRow' kA.out.2.2.2.1 hz _)
  have r3 := Lib.hid (show w2.heap.size = w1.heap.size + 2 by rw [hw2.out]; simp only [World.setRow, Array.size_modify]; exact kA.out.2.2.2.2)
  have r4 := Lib.hid (show (w2.alloc (.cells #[.int .i64 (L : Int)] 3)).cell? ⟨w1.heap.size + 1, 0, none⟩ = some (.slice (some ⟨w1.heap.size, 0, none⟩) (L + n) (L + n)) by
    rw [cell_of_row _ _ _ _ _ _ ((hp1 _ _ _ (by rw [r3.out]; omega)).trans r1.out)]; rfl)
  have r5 := Lib.hid hlen.out
  clear hw2 kA kB k0
  refine Stop.go ?_
  rw [hlen.out]
  have r6 := r4.out
  clear r4
  go_wp2
  go_ret2
  refine ⟨w1.heap.size, ?_, hz, ?_, ?_, ?_, ?_⟩
  · rw [r3.out]; rfl
  · exact (hp1 _ _ _ (by rw [r3.out]; omega)).trans r0.out
  · exact (hp1 _ _ _ (by rw [r3.out]; omega)).trans r1.out
  · have h := heap_alloc_new w2 (.cells #[.int .i64 (L : Int)] 3)
    rw [r3.out] at h
    exact h
  · exact r2.out.alloc r2.out.size _
/-- The bytes of a string. -/
def textB (l : List Int) : List Int := numB l.length ++ l
theorem textB_length (l : List Int) : (textB l).length = numL l.length + l.length := by rw [textB, List.length_append, numB_length]
theorem overlay_end (h r : List Int) : overlay (h ++ zerosB r.length) h.length r = h ++ r := by
  unfold overlay
  rw [List.take_left' rfl, List.drop_eq_nil_of_le (by rw [List.length_append, zerosB_length]; omega), List.append_nil]
theorem bytes_any (sv : Value) (l : List Int) (w : World) (hr : RdB w sv l) (hl : l.length ≤ 10000) :
    Calls Tryz.prog 105 #[sv] w fun e w' => ∃ g, e = .returned (.tuple #[.slice (some ⟨g, 0, none⟩) (textB l).length (textB l).length, .int .i64 0]) ∧ w.heap.size ≤ g ∧ w'.heap[g]? = some (.cells (u8s (textB l)) 5 (0, 0)) ∧ Below w.heap.size w w' := by
  have hc := Lib.hid (counted_any l.length l.length (by omega) (by omega) w)
  have hL9 := numL_le l.length (by omega)
  have hpt := Lib.hid (fun (g : Nat) (w1 : World) (hg : w.heap.size ≤ g) (hB : Below w.heap.size w w1) h1 h2 h3 => put_any g (numL l.length) (numL l.length + l.length) (numB l.length ++ zerosB l.length) sv l w1 (by rw [List.length_append, numB_length, zerosB_length]) h1 h2 h3 (hr.mono hB) (Nat.le_refl _) (by omega))
  have hov := Lib.hid (show overlay (numB l.length ++ zerosB l.length) (numL l.length) l = textB l by have h := overlay_end (numB l.length) l; rw [numB_length] at h; exact h)
  rw [textB_length]
  obtain ⟨a, c, rfl⟩ := hr.slice
  clear hr
  generalize textB l = TB at *
  generalize numB l.length ++ zerosB l.length = B0 at *
  generalize numL l.length = L at *
  generalize l.length = n at *
  go_enter Tryz.func105, Tryz.ntmps105
  go_wp2_with (go_at_call 140; (with_reducible refine (hc.out).mono ?_); rintro e w1 ⟨g, rfl, hg, h1, h2, h3, hb⟩; have hp := Lib.hid (hpt.out g w1 hg hb h1 h2 h3); have hb' := Lib.hid hb; clear h1 h2 h3 hb)
  go_wp2_with (go_at_call 171; (with_reducible refine (hp.out).mono ?_); rintro e w2 ⟨⟨v, rfl⟩, r0, r1, r2, hb2⟩; have r0' := Lib.hid r0; have hb2' := Lib.hid hb2; clear r0 r1 r2 hb2)
  go_ret2
  exact ⟨g, rfl, hg, by rw [← hov.out]; exact r0'.out, hb'.out.trans (hb2'.out.mono hg)⟩
theorem bytes_many (a : Option Addr) (n c : Nat) (w : World) (hn : 10000 < n) :
    Calls Tryz.prog 105 #[.slice a n c] w fun e w' => e = .returned (.tuple #[.slice none 0 0, .int .i64 4]) ∧ w = w' := by
  go_enter Tryz.func105, Tryz.ntmps105
  go_wp2
  go_ret2
  exact ⟨rfl, rfl⟩
end Go.Proofs.YtnknkiiikeefgaaGreatDoor.wir
namespace Go.Proofs.YtnknkiiikeefgaaGreatDoor.wir
open Go.RowKit Go.YtnknkiiikeefgaaGreatDoor
set_option linter.unusedVariables false
/-- What is read of a counted row: how many items, and how many bytes their number has. -/
def readC (l : List Int) (most : Int) (size : Nat) : Option (Nat × Nat) :=
  match readF l with
  | none => none
  | some p => if (p.1 : Int) ≤ most ∧ p.1 ≤ (l.length - p.2) / size then some p else none
theorem readC_some {l : List Int} {most : Int} {size n u : Nat} (h : readC l most size = some (n, u)) : readF l = some (n, u) ∧ (n : Int) ≤ most ∧ n ≤ (l.length - u) / size := by
  unfold readC at h
  split at h
  · cases h
  · split at h
    · rename_i h1 h2
      cases h
      exact ⟨h1, h2.1, h2.2⟩
    · cases h
theorem readCounted_arg (bv : Value) (most : Int) (hm : most < 0) (size : Int) (w : World) :
    Calls Tryz.prog 188 #[bv, .int .i64 most, .int .i64 size] w fun e w' => e = .returned (.tuple #[.slice none 0 0, .int .i64 0, .int .i64 2]) ∧ w = w' := by
  go_enter Tryz.func188, Tryz.ntmps188
  go_wp2
  go_ret3
  exact ⟨rfl, rfl⟩
theorem readCounted_no (l : List Int) (bv : Value) (most : Int) (h0 : 0 ≤ most) (hmx : most ≤ 9223372036854775807) (size : Nat) (hs : 1 ≤ size) (hs2 : size ≤ 1000) (w : World) (hr : RdB w bv l) (hl : Bytes l) (hlm : l.length ≤ 1000000) (h : readC l most size = none) :
    Calls Tryz.prog 188 #[bv, .int .i64 most, .int .i64 (size : Int)] w fun e w' => e = .returned (.tuple #[.slice none 0 0, .int .i64 0, .int .i64 12]) ∧ w = w' := by
  have hn := readNumber_any l bv w hr hl
  obtain ⟨a, c, rfl⟩ := hr.slice
  obtain ⟨M, rfl⟩ : ∃ M : Nat, most = (M : Int) := ⟨most.toNat, by omega⟩
  cases hre : readF l with
  | none =>
    obtain ⟨e1, e2, e3⟩ := rd_none hre
    rw [e1, e2, e3] at hn
    have hn' := Lib.hid hn
    clear hn hr hl h hre e1 e2 e3
    generalize l.length = L at *
    go_enter Tryz.func188, Tryz.ntmps188
    go_wp2_with (go_at_call 157; (with_reducible refine (hn'.out).mono ?_); rintro e w1 ⟨rfl, rfl⟩)
    go_ret3
    exact ⟨rfl, rfl⟩
  | some p =>
    obtain ⟨n, u⟩ := p
    obtain ⟨e1, e2, e3⟩ := rd_some hre
    obtain ⟨hn64, hu, hul, _⟩ := readF_some hl hre
    rw [e1, e2, e3] at hn
    have hn' := Lib.hid hn
    have hcap : l.length ≤ c := by
      rcases hr with ⟨a', c', e, _, e2⟩ | ⟨b', o, c', e, h3, _⟩
      · simp [e2]
      · cases e; exact h3
    have hno : ¬ ((n : Int) ≤ (M : Int) ∧ n ≤ (l.length - u) / size) := by
      intro hc
      unfold readC at h
      rw [hre] at h
      simp only [hc, and_self, if_true] at h
      cases h
    clear hn hr hl h hre e1 e2 e3 hu
    generalize l.length = L at *
    by_cases g1 : (M : Int) < (n : Int)
    · clear hno
      rcases Decidable.em (c = u) with rfl | gc
      all_goals
        go_enter Tryz.func188, Tryz.ntmps188
        go_wp2_with (go_at_call 157; (with_reducible refine (hn'.out).mono ?_); rintro e w1 ⟨rfl, rfl⟩)
        go_ret3
        exact ⟨rfl, rfl⟩
    · have g2 : (L - u) / size < n := by
        rcases Nat.lt_or_ge ((L - u) / size) n with h | h
        · exact h
        · exact absurd ⟨by omega, h⟩ hno
      clear hno
      have g3 : (n : Int) ≤ (M : Int) := by omega
      clear g1
      obtain ⟨D, hD⟩ : ∃ D, L - u = D := ⟨_, rfl⟩
      rw [hD] at g2
      obtain ⟨q, hq⟩ : ∃ q, D / size = q := ⟨_, rfl⟩
      have hq' : (D : Int) / (size : Int) = (q : Int) := by rw [← hq]; rfl
      have hqm : q ≤ 1000000 := by rw [← hq]; exact Nat.le_trans (Nat.div_le_self _ _) (by omega)
      rw [hq] at g2
      clear hq
      have hD' : (L : Int) - (u : Int) = (D : Int) := by omega
      rcases Decidable.em (c = u) with rfl | gc
      all_goals
        go_enter Tryz.func188, Tryz.ntmps188
        go_wp2_with (go_at_call 157; (with_reducible refine (hn'.out).mono ?_); rintro e w1 ⟨rfl, rfl⟩)
        go_ret3
        exact ⟨rfl, rfl⟩
theorem rdB_sub {w : World} {b o n c : Nat} {l : List Int} (h : RdB w (.slice (some ⟨b, o, none⟩) n c) l) (u k cap : Nat) (hk : u + k ≤ n) (hcap : k ≤ cap) (hc : cap ≤ c) : RdB w (.slice (some ⟨b, o + u, none⟩) k cap) ((l.drop u).take k) := by
  rcases h with ⟨a', c', e, h1, rfl⟩ | ⟨b', o', c', e, h1, h2, h3, h4⟩
  · cases e
    obtain rfl : k = 0 := by omega
    exact .inl ⟨_, _, rfl, (fun h => by cases h), by simp⟩
  · cases e
    have hl : ((l.drop u).take k).length = k := by rw [List.length_take, List.length_drop]; omega
    exact .inr ⟨b, o + u, cap, by rw [hl], by rw [hl]; exact hcap, Nat.le_trans hc h2, h3, fun i hi => by
      rw [hl] at hi
      rw [ith_take _ _ _ hi, ith_drop, Nat.add_assoc]; exact h4 (u + i) (by omega)⟩
theorem readCounted_ok (l : List Int) (bv : Value) (most : Int) (h0 : 0 ≤ most) (hmx : most ≤ 9223372036854775807) (size : Nat) (hs : 1 ≤ size) (hs2 : size ≤ 1000) (w : World) (hr : RdB w bv l) (hl : Bytes l) (hlm : l.length ≤ 1000000) (n u : Nat) (h : readC l most size = some (n, u)) :
    Calls Tryz.prog 188 #[bv, .int .i64 most, .int .i64 (size : Int)] w fun e w' => ∃ A C, e = .returned (.tuple #[.slice A (n * size) C, .int .i64 ((u + n * size : Nat) : Int), .int .i64 0]) ∧ RdB w (.slice A (n * size) C) ((l.drop u).take (n * size)) ∧ w = w' := by
  have hn := readNumber_any l bv w hr hl
  obtain ⟨hre, g1, g2⟩ := readC_some h
  obtain ⟨e1, e2, e3⟩ := rd_some hre
  obtain ⟨hn64, hu, hul, _⟩ := readF_some hl hre
  have hu1 := numL_pos n
  rw [← hu] at hu1
  rw [e1, e2, e3] at hn
  rcases hr with ⟨a, c, rfl, _, rfl⟩ | ⟨b, o, c, rfl, r1, r2, r3, r4⟩
  · simp at hul; omega
  have hrd : RdB w (.slice (some ⟨b, o, none⟩) l.length c) l := .inr ⟨b, o, c, rfl, r1, r2, r3, r4⟩
  have hmulN : n * size ≤ l.length - u := Nat.le_trans (Nat.mul_le_mul_right _ g2) (Nat.div_mul_le_self _ _)
  obtain ⟨M, rfl⟩ : ∃ M : Nat, most = (M : Int) := ⟨most.toNat, by omega⟩
  obtain ⟨K, hK⟩ : ∃ K, n * size = K := ⟨_, rfl⟩
  have hmul : (n : Int) * (size : Int) = (K : Int) := by rw [← hK]; exact (Int.natCast_mul _ _).symm
  obtain ⟨q, hq⟩ : ∃ q, (l.length - u) / size = q := ⟨_, rfl⟩
  have hq' : ((l.length - u : Nat) : Int) / (size : Int) = (q : Int) := by rw [← hq]; rfl
  have hqm : q ≤ 1000000 := by rw [← hq]; exact Nat.le_trans (Nat.div_le_self _ _) (by omega)
  obtain ⟨D, hD⟩ : ∃ D, l.length - u = D := ⟨_, rfl⟩
  have hD' : (l.length : Int) - (u : Int) = (D : Int) := by omega
  rw [hq] at g2
  rw [hD] at hq'
  rw [hK] at hmulN ⊢
  rw [hD] at hmulN
  have hn' := Lib.hid hn
  have hfin := Lib.hid (fun cap (h1 : K ≤ cap) (h2 : cap ≤ c) => rdB_sub hrd u K cap (by omega) h1 h2)
  have hempty := Lib.hid (fun (h : K = 0) (A : Option Addr) (C : Nat) (hA : A ≠ none) => (show RdB w (.slice A K C) ((l.drop u).take K) from .inl ⟨A, C, by rw [h], fun h => absurd h hA, by rw [h]; simp⟩))
  have hn0 := Lib.hid (fun (h : K = 0) => (show n = 0 from by have := Nat.le_mul_of_pos_right n hs; omega))
  unfold maxLen at r2
  clear hn hl h hre e1 e2 e3 hu hrd r4 hK hq
  generalize l.length = L at *
  have hDle : D + u = L := by omega
  rcases Decidable.em (c = u) with rfl | gc
  · obtain rfl : K = 0 := by omega
    obtain rfl : D = 0 := by omega
    obtain rfl := hn0.out rfl
    have he := Lib.hid (hempty.out rfl)
    clear hempty hn0 hfin
    go_enter Tryz.func188, Tryz.ntmps188
    go_wp2_with (go_at_call 157; (with_reducible refine (hn'.out).mono ?_); rintro e w1 ⟨rfl, rfl⟩)
    go_ret3
    exact ⟨some ⟨b, o, none⟩, 0, rfl, he.out _ _ (by simp), rfl⟩
  · go_enter Tryz.func188, Tryz.ntmps188
    go_wp2_with (go_at_call 157; (with_reducible refine (hn'.out).mono ?_); rintro e w1 ⟨rfl, rfl⟩)
    go_ret3
    refine ⟨_, _, rfl, hfin.out _ (by omega) (by omega), rfl⟩
/-- What ReadBytes answers. -/
theorem readBytes_arg (bv : Value) (most : Int) (hm : most < 0) (w : World) :
    Calls Tryz.prog 189 #[bv, .int .i64 most] w fun e w' => e = .returned (.tuple #[.slice none 0 0, .int .i64 0, .int .i64 2]) ∧ w = w' := by
  have hc := Lib.hid (readCounted_arg bv most hm 1 w)
  go_enter Tryz.func189, Tryz.ntmps189
  go_wp2_with (go_at_call 188; (with_reducible refine (hc.out).mono ?_); rintro e w1 ⟨rfl, rfl⟩)
  go_ret3
  exact ⟨rfl, rfl⟩
theorem readBytes_no (l : List Int) (bv : Value) (most : Int) (h0 : 0 ≤ most) (hmx : most ≤ 9223372036854775807) (w : World) (hr : RdB w bv l) (hl : Bytes l) (hlm : l.length ≤ 1000000) (h : readC l most 1 = none) :
    Calls Tryz.prog 189 #[bv, .int .i64 most] w fun e w' => e = .returned (.tuple #[.slice none 0 0, .int .i64 0, .int .i64 12]) ∧ w = w' := by
  have hc0 := readCounted_no l bv most h0 hmx 1 (by omega) (by omega) w hr hl hlm h
  rw [show ((1 : Nat) : Int) = 1 from rfl] at hc0
  have hc := Lib.hid hc0
  clear hc0
  obtain ⟨a, c, rfl⟩ := hr.slice
  clear hr hl h
  go_enter Tryz.func189, Tryz.ntmps189
  go_wp2_with (go_at_call 188; (with_reducible refine (hc.out).mono ?_); rintro e w1 ⟨rfl, rfl⟩)
  go_ret3
  exact ⟨rfl, rfl⟩
theorem overlay_all (r : List Int) : overlay (zerosB r.length) 0 r = r := by
  have h := overlay_zero r 0
  simpa [zerosB] using h
theorem readBytes_ok (l : List Int) (bv : Value) (most : Int) (h0 : 0 ≤ most) (hmx : most ≤ 9223372036854775807) (w : World) (hr : RdB w bv l) (hl : Bytes l) (hlm : l.length ≤ 1000000) (n u : Nat) (h : readC l most 1 = some (n, u)) :
    Calls Tryz.prog 189 #[bv, .int .i64 most] w fun e w' => e = .returned (.tuple #[.slice (some ⟨w.heap.size, 0, none⟩) n n, .int .i64 ((u + n : Nat) : Int), .int .i64 0]) ∧ w'.heap[w.heap.size]? = some (.cells (u8s ((l.drop u).take n)) 5 (0, 0)) ∧ Below w.heap.size w w' := by
  have hc0 := readCounted_ok l bv most h0 hmx 1 (by omega) (by omega) w hr hl hlm n u h
  rw [Nat.mul_one, show ((1 : Nat) : Int) = 1 from rfl] at hc0
  have hc := Lib.hid hc0
  clear hc0
  obtain ⟨hre, g1, g2⟩ := readC_some h
  have hul := (readF_some hl hre).2.2.1
  rw [Nat.div_one] at g2
  have hlen := Lib.hid (show ((l.drop u).take n).length = n by rw [List.length_take, List.length_drop]; omega)
  have hn6 : n ≤ 1000000 := by omega
  obtain ⟨a, c, rfl⟩ := hr.slice
  clear hr hl h hre g1 g2 hul
  generalize l.length = L at *
  generalize (l.drop u).take n = R at *
  have hmk := fun (wx : World) => run_makeB (P := Tryz.prog) wx 83 5 Tryz.underlying83 (by kernel_rfl) n n (Nat.le_refl _) (by omega)
  have hov := Lib.hid (overlay_all R)
  rw [hlen.out] at hov
  go_enter Tryz.func189, Tryz.ntmps189
  go_wp2_with (go_at_call 188; (with_reducible refine (hc.out).mono ?_); rintro e w1 ⟨A, C, rfl, hrd, rfl⟩; have hrd' := Lib.hid (hrd.mono (below_a1 w (.cells (u8s (zerosB n)) 5))); clear hrd; refine Stop.go'' _ ?_)
  refine StopP.go ?_
  have hrow := Lib.hid (heap_alloc_new w (.cells (u8s (zerosB n)) 5))
  go_wp2_with (refine copyB rfl _ _ 83 83 rfl 5 Tryz.underlying83 (by kernel_rfl) w.heap.size 0 n n rfl _ rfl R hrd'.out (zerosB n) 5 hrow.out (by rw [hlen.out]; omega) (by rw [hlen.out, zerosB_length]; omega) ?_)
  intro w2 hw2
  refine Stop.go ?_
  have r0 := Lib.hid (show w2.heap[w.heap.size]? = some (.cells (u8s R) 5 (0, 0)) by rw [hw2.out, hov.out]; exact setRow_heap _ _ _ _ _ _ hrow.out)
  have r1 := Lib.hid (show Below w.heap.size w w2 by rw [hw2.out]; exact below_setRow' (below_a1 w _) (Nat.le_refl _) _)
  clear hw2
  go_wp2
  go_ret3
  exact ⟨rfl, r0.out, r1.out⟩
end Go.Proofs.YtnknkiiikeefgaaGreatDoor.wir
namespace Go
namespace YtnknkiiikeefgaaGreatDoor
section
variable {P : Program} {ops : Array Oper} {md : Region.Mode} {Q : Exit → Act → World → Prop}
def takeB (md : Region.Mode) (ops : Array Oper) (listed : Array Bool) (i : Nat) : Bool := Region.noSelect ops && Region.free md ops listed i && (Region.ready md ops listed).contains i
/-- In a region that draws its order: an operation that looks at no memory is taken first; what follows stands behind a variable, so that the frame is written out at each step. -/
theorem any_take (i : Nat) {oi : Oper} {v : Value} {D : Option Tmp} {fuel : Nat} {listed : Array Bool} {a : Act} {w : World} (hi : ops[i]? = some oi) (hB : takeB md ops listed i = true) (hQ : ∀ c a a' w, Q (.panic c) a w → Q (.panic c) a' w)
    (hw : Region.wanted oi (yielded ops a.tmps) = true) (hD : oi.dst = D) (hv : ∀ w, (execOp a.eval oi).run P w = .ok (.value v) w)
    (hK : ∀ K' : Act → Prop, (∀ a, wpAny P md ops Q fuel (listed.setIfInBounds i true) a w → K' a) → K' (a.put D v)) : wpAny P md ops Q (fuel + 1) listed a w := by
  simp only [takeB, Bool.and_eq_true] at hB
  subst hD
  exact wpAny_take hi hB.1.1 hB.1.2 hB.2 (fun c a w h => hQ _ _ _ _ h) (.inl ⟨hw, hv⟩) (hK _ fun _ h => h)
/-- The only one that may come up. -/
theorem any_only (i : Nat) {oi : Oper} {fuel : Nat} {listed : Array Bool} {a : Act} {w : World} (hi : ops[i]? = some oi) (hr : Region.ready md ops listed = [i])
    (hK : ∀ K' : Act → World → Prop, (∀ a w, wpAny P md ops Q fuel (listed.setIfInBounds i true) a w → K' a w) → if Region.wanted oi (yielded ops a.tmps) = true then Oper.wp P oi a w K' Q else K' (a.put oi.dst undef) w) : wpAny P md ops Q (fuel + 1) listed a w :=
  wpAny_ready (rs := [i]) hr (by simp) (AllReady.cons hi (fun K hK' => hK K hK') AllReady.nil)
theorem region_start {id : Nat} {a : Act} {w : World} (hm : P.follows .mixedOrders = true) (h : wpAny P .any ops (NoPanic Q) ops.size (Array.replicate ops.size false) a w.drew) : (Code.region id ops true).wp P Q a w :=
  wp_region_noPanic (wp_region_any hm h)
end
end YtnknkiiikeefgaaGreatDoor
end Go
namespace Go.Proofs.YtnknkiiikeefgaaGreatDoor.wir
open Go.RowKit Go.YtnknkiiikeefgaaGreatDoor
set_option linter.unusedVariables false
theorem own_nil (w : World) : OwnB w.heap.size 5 (w.alloc (.cells #[] 5)) (.slice (some ⟨w.heap.size, 0, none⟩) 0 0) [] :=
  ⟨rfl, .inr ⟨w.heap.size, 0, _, rfl, Nat.le_refl _, heap_alloc_new w _, Nat.le_refl _, by decide, rfl, rfl⟩⟩
theorem own_slice {base : Nat} {E : TypeId} {w : World} {v : Value} {l : List Int} (h : OwnB base E w v l) (k : Nat) (hk : l.length = k) : ∃ a c, v = .slice a k c := by
  obtain ⟨a, c, rfl⟩ := h.rd.slice
  exact ⟨a, c, by rw [hk]⟩
theorem rd_full (n : Nat) (hn : n < 18446744073709551616) (b : List Int) : rdN (numB n ++ b) = n ∧ rdU (numB n ++ b) = numL n ∧ rdE (numB n ++ b) = 0 := rd_some (readF_num n hn b)
theorem readC_text (s b : List Int) (hs : s.length ≤ 1000) : readC (textB s ++ b) 1000 1 = some (s.length, numL s.length) := by
  have h := readF_num s.length (by omega) (s ++ b)
  rw [← List.append_assoc] at h
  unfold readC textB
  rw [h]
  have h2 : ((s.length : Nat) : Int) ≤ 1000 ∧ s.length ≤ ((numB s.length ++ s ++ b).length - numL s.length) / 1 := by
    refine ⟨by omega, ?_⟩
    rw [Nat.div_one, List.length_append, List.length_append, numB_length]; omega
  simp only [h2, and_self, if_true]
theorem text_part (s b : List Int) : ((textB s ++ b).drop (numL s.length)).take s.length = s := by
  have h : (textB s ++ b).drop (numL s.length) = s ++ b := by
    unfold textB
    rw [List.append_assoc, List.drop_left' (numB_length _)]
  rw [h, List.take_left' rfl]
theorem readC_cut (s : List Int) (hs : s.length ≤ 1000) : readC ((textB s).take ((textB s).length - 1)) 1000 1 = none := by
  have hlen := textB_length s
  by_cases h0 : s.length = 0
  · obtain rfl := List.eq_nil_of_length_eq_zero h0
    have : (textB []).take ((textB []).length - 1) = [] := by decide
    rw [this]; rfl
  · have h1 : (textB s).take ((textB s).length - 1) = numB s.length ++ s.take (s.length - 1) := by
      unfold textB
      rw [List.take_append, List.length_append, numB_length]
      rw [List.take_of_length_le (by rw [numB_length]; omega)]
      congr 2; omega
    rw [h1]
    unfold readC
    rw [readF_num s.length (by omega)]
    have h2 : ¬ ((s.length : Int) ≤ 1000 ∧ s.length ≤ ((numB s.length ++ s.take (s.length - 1)).length - numL s.length) / 1) := by
      rw [Nat.div_one, List.length_append, numB_length, List.length_take]; omega
    simp only [h2, if_false]
theorem text_bytes (s : List Int) (hs : Bytes s) (hl : s.length ≤ 1000000) : Bytes (textB s) := bytes_append _ _ (numB_bytes _ (by omega)) hs
/-- What is read has just the bytes that were read. -/
theorem readC_back {b : List Int} (hb : Bytes b) {n u : Nat} (h : readC b 1000 1 = some (n, u)) : b.take (u + n) = textB ((b.drop u).take n) ∧ ((b.drop u).take n).length = n ∧ 1 ≤ u ∧ u + n ≤ b.length := by
  obtain ⟨h1, h2, h3⟩ := readC_some h
  obtain ⟨a1, a2, a3, a4⟩ := readF_some hb h1
  rw [Nat.div_one] at h3
  have hlen : ((b.drop u).take n).length = n := by rw [List.length_take, List.length_drop]; omega
  refine ⟨?_, hlen, by rw [a2]; exact numL_pos n, by omega⟩
  rw [textB, hlen, ← a4, List.take_add]
theorem bytes_take (l : List Int) (k : Nat) (hl : Bytes l) : Bytes (l.take k) := fun i => by
  rcases Nat.lt_or_ge i k with hi | hi
  · rw [ith_take _ _ _ hi]; exact hl i
  · rw [ith_over _ _ (by rw [List.length_take]; omega)]; omega
theorem rdB_cap {w : World} {a : Option Addr} {n c : Nat} {l : List Int} (h : RdB w (.slice a n c) l) : n ≤ c := by
  rcases h with ⟨a', c', e, _, _⟩ | ⟨b, o, c', e, h1, _⟩
  · cases e; exact Nat.zero_le _
  · cases e; exact h1
end Go.Proofs.YtnknkiiikeefgaaGreatDoor.wir

/- Contracts of package wire: numbers. -/
import Derived.Test.YtegffpjhdodldaaRows
import Derived.Test.YtegffpjhdodldaaW01
import Derived.Test.YtegffpjhdodldaaLibB
import Derived.Test.YtegffpjhdodldaaLibD
import Derived.Test.YtegffpjhdodldaaShelf
import Derived.ProofKit
import Derived.Laws.Bits64
namespace Go.Proofs.Ytegffpjhdodldaa
open Go.RowKit Go.Ytegffpjhdodldaa
set_option linter.unusedVariables false
def StopP (p : Prop) : Prop := p
theorem Stop.go'' (p : Prop) (h : StopP p) : p := h
theorem StopP.go {p : Prop} (h : p) : StopP p := h
theorem sizeOf_any (n : Nat) (hn : n < 18446744073709551616) (w : World) : Calls Try.prog 53 #[.int .u64 (n : Int)] w fun e w' => e = .returned (.int .i64 (numL n : Nat)) ∧ w = w' := by
  have hb := Try.bits_Len64 (n : Int) w (by omega) (by omega)
  rw [Int.toNat_natCast] at hb
  have hL : Lib.bitLen n ≤ 64 := Lib.bitLen_le n 64 (Nat.le_refl _) hn
  have hb' := Lib.hid hb
  clear hb hn
  by_cases h : n ≤ 247
  · have e : numL n = 1 := by simp [numL, h]
    rw [e]
    clear hL hb' e
    go_enter Try.func53, Try.ntmps53
    go_wp2
    go_ret
    exact ⟨rfl, rfl⟩
  · have e : numL n = 1 + (Lib.bitLen n + 7) / 8 := by simp [numL, h, ks]
    rw [e]
    clear e
    generalize Lib.bitLen n = L at *
    go_enter Try.func53, Try.ntmps53
    go_wp2_with (go_at_call 59; (with_reducible refine (hb'.out).mono ?_); rintro e w' ⟨rfl, rfl⟩)
    go_ret
    exact ⟨ret_int (by omega), rfl⟩
/-- A row after some rounds: the first byte, zeros, and the lowest bytes. -/
def numP (k n i : Nat) : List Int := (247 + (k : Int)) :: (List.replicate (k - i) 0 ++ be i n)
theorem numP_length (k n i : Nat) (h : i ≤ k) : (numP k n i).length = 1 + k := by simp [numP, be_length]; omega
theorem numP_set (k n i : Nat) (h : i < k) : (numP k n i).set (k - i) ((n / 256 ^ i % 256 : Nat) : Int) = numP k n (i + 1) := by
  obtain ⟨d, hd⟩ : ∃ d, k - i = d + 1 := ⟨k - i - 1, by omega⟩
  have hd2 : k - (i + 1) = d := by omega
  unfold numP
  rw [hd, hd2, List.set_cons_succ, be_succ, List.replicate_succ', List.append_assoc, List.set_append_right _ _ (by simp)]
  simp
theorem rdB_row {w : World} {g : Nat} {cs : List Int} {E : TypeId} (hg : w.heap[g]? = some (.cells (u8s cs) E (0, 0))) (n : Nat) (hn : cs.length = n) (hm : n ≤ maxLen) : RdB w (.slice (some ⟨g, 0, none⟩) n n) cs := by
  subst hn
  exact .inr ⟨g, 0, _, rfl, Nat.le_refl _, hm, (Array.getElem?_eq_some_iff.1 hg).1, fun i hi => by
    rw [Nat.zero_add, cell_of_row _ _ _ _ _ _ hg]; exact u8s_get _ _ (by omega)⟩
theorem ownB_row {w : World} {g : Nat} {cs : List Int} {E : TypeId} (hg : w.heap[g]? = some (.cells (u8s cs) E (0, 0))) (n : Nat) (hn : cs.length = n) (hm : n ≤ maxLen) {B : Nat} (hB : B ≤ g) : OwnB B E w (.slice (some ⟨g, 0, none⟩) n n) cs := by
  subst hn
  exact ⟨by simp [u8v], .inr ⟨g, _, _, rfl, hB, hg, Nat.le_refl _, hm, by simp [u8s], by simp [u8s, u8v, List.take_of_length_le]⟩⟩
set_option maxRecDepth 10000 in
theorem number_any (n : Nat) (hn : n < 18446744073709551616) (w : World) : Calls Try.prog 40 #[.int .u64 (n : Int)] w fun e w' => e = .returned (.slice (some ⟨w.heap.size, 0, none⟩) (numL n) (numL n)) ∧ w'.heap[w.heap.size]? = some (.cells (u8s (numB n)) 5 (0, 0)) ∧ Below w.heap.size w w' := by
  have hs := Lib.hid (fun w => sizeOf_any n hn w)
  have hmk := Lib.hid (fun (k : Nat) (hk : k ≤ 9) (wx : World) => run_makeB (P := Try.prog) wx 29 5 Try.underlying29 (by kernel_rfl) k k (Nat.le_refl _) (by omega))
  by_cases h : n ≤ 247
  · have e : numL n = 1 := by simp [numL, h]
    have e2 : numB n = [(n : Int)] := by simp [numB, h]
    rw [e] at hs
    rw [e, e2]
    have hm1 : ∀ wx : World, (Instr.makeSlice 29 (.int .i64 1) (.int .i64 1)).run Try.prog wx = .ok (.slice (some ⟨wx.heap.size, 0, none⟩) 1 1) (wx.alloc (.cells (u8s [0]) 5)) := hmk.out 1 (by omega)
    have hg := heap_alloc_new w (.cells (u8s [0]) 5)
    have hc : (w.alloc (.cells (u8s [0]) 5)).cell? ⟨w.heap.size, 0, none⟩ = some (.int .u8 0) := by rw [cell_of_row _ _ _ _ _ _ hg]; rfl
    have hf := frozen_of_row _ _ 0 _ _ hg
    have hg' := Lib.hid hg
    clear hn e e2 hmk hg
    go_enter Try.func40, Try.ntmps40
    go_wp2_with (go_at_call 53; (with_reducible refine (hs.out _).mono ?_); rintro e w' ⟨rfl, rfl⟩)
    go_ret
    exact ⟨rfl, heap_alloc_new w _, (Below.refl _ _).alloc (Nat.le_refl _) _⟩
  · obtain ⟨k1, k8, _, kh⟩ := ks_bounds n (by omega) hn
    have e : numL n = 1 + ks n := by simp [numL, h]
    have e2 : numB n = numP (ks n) n (ks n) := by simp [numB, h, numP]
    rw [e] at hs
    rw [e, e2]
    clear e e2 kh hn
    generalize ks n = k at *
    have hm1 : ∀ wx : World, (Instr.makeSlice 29 (.int .i64 (1 + (k : Int))) (.int .i64 (1 + (k : Int)))).run Try.prog wx = .ok (.slice (some ⟨wx.heap.size, 0, none⟩) (1 + k) (1 + k)) (wx.alloc (.cells (u8s (zerosB (1 + k))) 5)) := fun wx => by
      have h := hmk.out (1 + k) (by omega) wx
      rw [show ((1 + k : Nat) : Int) = 1 + (k : Int) by omega] at h
      exact h
    have hg := heap_alloc_new w (.cells (u8s (zerosB (1 + k))) 5)
    have hc : (w.alloc (.cells (u8s (zerosB (1 + k))) 5)).cell? ⟨w.heap.size, 0, none⟩ = some (.int .u8 (ith (zerosB (1 + k)) 0)) := by rw [cell_of_row _ _ _ _ _ _ hg]; exact u8s_get _ _ (by rw [zerosB_length]; omega)
    have hf := frozen_of_row _ _ 0 _ _ hg
    have hg2 := setCell_row hg 0 (.int .u8 (247 + (k : Int)))
    rw [u8s_set, show (zerosB (1 + k)).set 0 (247 + (k : Int)) = numP k n 0 by simp [zerosB, numP, be, Nat.add_comm 1 k, List.replicate_succ]] at hg2
    have hB := Lib.hid ((Below.refl _ _).alloc (Nat.le_refl _) _ : Below w.heap.size w (w.alloc (.cells (u8s (numP k n 0)) 5)))
    have hrow := Lib.hid (heap_alloc_new w (.cells (u8s (numP k n 0)) 5))
    have h0 : (u8s (zerosB (1 + k))).setIfInBounds 0 (Value.int IntKind.u8 (247 + (k : Int))) = u8s (numP k n 0) := by
      rw [u8s_set]; congr 1
      simp [zerosB, numP, be, Nat.add_comm 1 k, List.replicate_succ]
    have hk1 : 1 + (k : Int) - 1 = (k : Int) := by omega
    have hne : (1 + (k : Int) == 1) = false := by simp; omega
    clear hmk hg
    go_enter Try.func40, Try.ntmps40
    go_wp2_with (go_at_call 53; (with_reducible refine (hs.out _).mono ?_); rintro e w' ⟨rfl, rfl⟩)
    generalize w.alloc (.cells (u8s (numP k n 0)) 5) = W at *
    clear hc hf hm1 h0 hk1 hne hs
    go_loopw [26] (fun i wr => ∃ j : Nat, j ≤ k ∧ i = .int .i64 j ∧ Below w.heap.size w wr ∧ wr.heap[w.heap.size]? = some (.cells (u8s (numP k n j)) 5 (0, 0))) (fun i _ => match i with | .int _ m => k - m.toNat | _ => 0)
    case atStart => exact ⟨0, Nat.zero_le _, rfl, hB.out, hrow.out⟩
    case round =>
      obtain ⟨j, hj, rfl, hb, hr⟩ := hrel
      by_cases hlt : j < k
      · obtain ⟨m, hm⟩ : ∃ m : Nat, (k : Int) - (j : Int) = (m : Int) := ⟨k - j, by omega⟩
        have hmv : m = k - j := by omega
        have hc : wr.cell? ⟨w.heap.size, m, none⟩ = some (.int .u8 (ith (numP k n j) m)) := by rw [cell_of_row _ _ _ _ _ _ hr]; exact u8s_get _ _ (by rw [numP_length _ _ _ hj]; omega)
        have hf := frozen_of_row _ _ m _ _ hr
        have hmk : m < 1 + k := by omega
        have hset := Lib.hid (show (numP k n j).set m ((n / 256 ^ j % 256 : Nat) : Int) = numP k n (j + 1) by rw [hmv]; exact numP_set k n j hlt)
        have hb' := Lib.hid hb; have hr' := Lib.hid hr
        clear hb hr hmv
        go_wp2
        go_roundw
        case rel =>
          have e : ((n / 256 ^ j % 256 : Nat) : Int) = (n : Int) / 2 ^ (8 * j) % 256 := by rw [pow256]; simp
          have h := setCell_row hr'.out m (.int .u8 ((n / 256 ^ j % 256 : Nat) : Int))
          rw [u8s_set, hset.out] at h
          rw [← e]
          exact ⟨j + 1, by omega, by go_num, hb'.out.setCell (p := ⟨w.heap.size, m, none⟩) (Nat.le_refl w.heap.size) _, h⟩
        case measure => go_num
      · obtain rfl : j = k := by omega
        have hb' := Lib.hid hb; have hr' := Lib.hid hr
        clear hb hr
        go_wp2
        go_ret
        exact ⟨rfl, hr'.out, hb'.out⟩
set_option maxRecDepth 10000 in
theorem or_byte (x b : Int) (hx : 0 ≤ x ∧ x < 72057594037927936) (hb : 0 ≤ b ∧ b < 256) : bits BinOp.or IntKind.u64 (x * 256) b = x * 256 + b := by
  obtain ⟨n, rfl⟩ := Int.eq_ofNat_of_zero_le hx.1
  obtain ⟨m, rfl⟩ := Int.eq_ofNat_of_zero_le hb.1
  have h1 : (BitVec.ofInt 64 ((n : Int) * 256)).toNat = 2 ^ 8 * n := by
    rw [show (n : Int) * 256 = ((2 ^ 8 * n : Nat) : Int) by omega, BitVec.ofInt_natCast, BitVec.toNat_ofNat]; omega
  have h2 : (BitVec.ofInt 64 (m : Int)).toNat = m := by
    rw [BitVec.ofInt_natCast, BitVec.toNat_ofNat]; omega
  show IntKind.u64.wrap ((BitVec.ofInt 64 ((n : Int) * 256) ||| BitVec.ofInt 64 (m : Int)).toNat : Int) = _
  rw [BitVec.toNat_or, h1, h2, ← Nat.two_pow_add_eq_or_of_lt (by omega) n, IntKind.wrap_u64]
  omega
set_option maxRecDepth 10000 in
theorem xor_ones (n : Int) (h1 : -9223372036854775808 ≤ n) (h2 : n ≤ 9223372036854775807) : bits BinOp.xor IntKind.i64 (-1) n = -n - 1 := by
  show IntKind.i64.wrap ((BitVec.ofInt 64 (-1) ^^^ BitVec.ofInt 64 n).toNat : Int) = _
  rw [show BitVec.ofInt 64 (-1) = BitVec.allOnes 64 from rfl, BitVec.allOnes_xor, BitVec.toNat_not, BitVec.toNat_ofInt, IntKind.wrap_i64]
  omega
set_option maxRecDepth 10000 in
theorem readNumber_none (l : List Int) (bv : Value) (w : World) (hr : RdB w bv l) (hl : Bytes l) (h : readF l = none) :
    Calls Try.prog 48 #[bv] w fun e w' => e = .returned (.tuple #[.int .u64 0, .int .i64 0, .int .i64 12]) ∧ w = w' := by
  by_cases hlen0 : l.length = 0
  · obtain ⟨a, c, rfl⟩ := hr.slice
    rw [hlen0]
    clear hr hl h hlen0
    go_enter Try.func48, Try.ntmps48
    go_wp2
    go_ret3
    exact ⟨rfl, rfl⟩
  rcases hr with ⟨a, c, rfl, _, rfl⟩ | ⟨b, o, c, rfl, h1, h2, h3, h4⟩
  · simp at hlen0
  unfold maxLen at h2
  have hc0 : w.cell? ⟨b, o, none⟩ = some (.int .u8 (ith l 0)) := h4 0 (by omega)
  have hb0 := hl 0
  unfold readF at h
  rw [if_neg hlen0] at h
  by_cases hq : ith l 0 ≤ 247
  · rw [if_pos hq] at h
    cases h
  rw [if_neg hq] at h
  obtain ⟨K, hK⟩ : ∃ K : Nat, ith l 0 = (K : Int) + 247 := ⟨(ith l 0 - 247).toNat, by omega⟩
  have eK : (ith l 0).toNat - 247 = K := by omega
  rw [eK] at h
  rw [hK] at hc0
  have hx1 : 1 + ((K : Int) + 247) - 247 = (K : Int) + 1 := by omega
  have hK1 : 1 ≤ K := by omega
  have hK8 : K ≤ 8 := by omega
  split at h
  · rename_i hlen
    generalize l.length = N at *
    clear hl h h4 hb0 hq hK eK
    go_enter Try.func48, Try.ntmps48
    go_wp2
    go_ret3
    exact ⟨rfl, rfl⟩
  rename_i hlen
  have hbd := bytes_drop l 1 hl
  have hcells := Lib.hid (fun j (hj : j < K) => (show w.cell? ⟨b, o + 1 + j, none⟩ = some (.int .u8 (ith (l.drop 1) j)) from by
    rw [ith_drop, Nat.add_assoc]; exact h4 (1 + j) (by omega)))
  have hbyte := Lib.hid (fun j => hbd j)
  have hval := Lib.hid (fun j (hj : j ≤ 7) => (show 0 ≤ (valN (l.drop 1) j : Int) ∧ (valN (l.drop 1) j : Int) < 72057594037927936 from by
    have h1 := valN_lt (l.drop 1) hbd j
    have h2 : (256 : Nat) ^ j ≤ 72057594037927936 := (show (256 : Nat) ^ j ≤ 256 ^ 7 from Nat.pow_le_pow_right (by decide) hj)
    omega))
  have hstep := Lib.hid (fun j => (show (valN (l.drop 1) (j + 1) : Int) = (valN (l.drop 1) j : Int) * 256 + ith (l.drop 1) j from by
    have := hbd j
    rw [valN]; omega))
  have hn64 := valN_lt64 (l.drop 1) hbd K hK8
  have hs := Lib.hid (sizeOf_any (valN (l.drop 1) K) hn64)
  have hnL : numL (valN (l.drop 1) K) ≠ K + 1 := by
    intro h5
    split at h
    · cases h
    · rename_i h6
      unfold numL at h5
      split at h5
      · omega
      · exact h6 ⟨by omega, by omega⟩
  have hnL' : ((numL (valN (l.drop 1) K) : Nat) : Int) ≠ (K : Int) + 1 := by omega
  generalize hV : valN (l.drop 1) K = V at hs hnL'
  have hV' := Lib.hid hV
  generalize numL V = M at hs hnL'
  have hlK : K + 1 ≤ l.length := by omega
  have hbne : ((M : Int) == (K : Int) + 1) = false := by simpa using hnL'
  generalize l.length = N at *
  clear h h4 hn64 hlen hbd hq hb0 hK eK hnL hV hnL'
  go_enter Try.func48, Try.ntmps48
  go_wp2
  go_loop [6, 34] (fun x i => ∃ j : Nat, j ≤ K ∧ i = .int .i64 j ∧ x = .int .u64 (valN (l.drop 1) j : Nat)) (fun _ i => match i with | .int _ m => K - m.toNat | _ => 0)
  case atStart => exact ⟨0, Nat.zero_le _, rfl, rfl⟩
  case round =>
    obtain ⟨j, hj, rfl, rfl⟩ := hrel
    by_cases hlt : j < K
    · have hck := hcells.out j hlt
      have hb := hbyte.out j
      have hx := hval.out j (by omega)
      have hor := Lib.hid (or_byte _ _ hx hb)
      have hnx := hstep.out j
      generalize hY : valN (l.drop 1) (j + 1) = y at hnx
      generalize hX : valN (l.drop 1) j = x at *
      generalize ith (l.drop 1) j = z at *
      have hnx' := Lib.hid hnx; have hY' := Lib.hid hY
      clear hnx hY hX
      go_wp2
      refine ⟨⟨j + 1, by omega, rfl, ?_⟩, ?_⟩
      · rw [hor.out, ← hnx'.out, hY'.out]
      · show K - ((j : Int) + 1).toNat < K - (j : Int).toNat
        omega
    · obtain rfl : j = K := by omega
      rw [hV'.out]
      clear hV' hcells hbyte hval hstep
      go_wp2_with (go_at_call 53; (with_reducible refine (hs.out _).mono ?_); rintro e w' ⟨rfl, rfl⟩)
      go_ret3
      exact ⟨rfl, rfl⟩
set_option maxRecDepth 10000 in
theorem readNumber_some (l : List Int) (bv : Value) (w : World) (hr : RdB w bv l) (hl : Bytes l) (n u : Nat) (h : readF l = some (n, u)) :
    Calls Try.prog 48 #[bv] w fun e w' => e = .returned (.tuple #[.int .u64 (n : Int), .int .i64 (u : Int), .int .i64 0]) ∧ w = w' := by
  obtain ⟨hn64, hu, hul, htk⟩ := readF_some hl h
  have hs := Lib.hid (sizeOf_any n hn64)
  rw [← hu] at hs
  have hu1 := numL_pos n
  have hu9 := numL_le n hn64
  rw [← hu] at hu1 hu9
  rcases hr with ⟨a, c, rfl, _, rfl⟩ | ⟨b, o, c, rfl, h1, h2, h3, h4⟩
  · simp at hul; omega
  unfold maxLen at h2
  have hlen0 : l.length ≠ 0 := by omega
  have hc0 : w.cell? ⟨b, o, none⟩ = some (.int .u8 (ith l 0)) := h4 0 (by omega)
  have hb0 := hl 0
  unfold readF at h
  rw [if_neg hlen0] at h
  by_cases hq : ith l 0 ≤ 247
  · rw [if_pos hq] at h
    obtain ⟨e1, e2⟩ := Prod.mk.injEq .. ▸ Option.some.inj h
    subst e1 e2
    have hlp : 0 < l.length := by omega
    generalize l.length = N at *
    clear hs hu hu1 hu9 htk h h4 hn64 hl hul
    generalize ith l 0 = q at *
    go_enter Try.func48, Try.ntmps48
    go_wp2
    go_ret3
    exact ⟨by rw [Int.toNat_of_nonneg (by omega)]; rfl, rfl⟩
  · rw [if_neg hq] at h
    obtain ⟨K, hK⟩ : ∃ K : Nat, ith l 0 = (K : Int) + 247 := ⟨(ith l 0 - 247).toNat, by omega⟩
    have eK : (ith l 0).toNat - 247 = K := by omega
    rw [eK] at h
    split at h
    · cases h
    rename_i hlen
    split at h
    · rename_i hks
      obtain ⟨e1, e2⟩ := Prod.mk.injEq .. ▸ Option.some.inj h
      have hbd := bytes_drop l 1 hl
      have hcells := Lib.hid (fun j (hj : j < K) => (show w.cell? ⟨b, o + 1 + j, none⟩ = some (.int .u8 (ith (l.drop 1) j)) from by
        rw [ith_drop, Nat.add_assoc]; exact h4 (1 + j) (by omega)))
      have hbyte := Lib.hid (fun j => hbd j)
      have hval := Lib.hid (fun j (hj : j ≤ 7) => (show 0 ≤ (valN (l.drop 1) j : Int) ∧ (valN (l.drop 1) j : Int) < 72057594037927936 from by
        have h1 := valN_lt (l.drop 1) hbd j
        have h2 : (256 : Nat) ^ j ≤ 72057594037927936 := (show (256 : Nat) ^ j ≤ 256 ^ 7 from Nat.pow_le_pow_right (by decide) hj)
        omega))
      have hstep := Lib.hid (fun j => (show (valN (l.drop 1) (j + 1) : Int) = (valN (l.drop 1) j : Int) * 256 + ith (l.drop 1) j from by
        have := hbd j
        rw [valN]; omega))
      have hfin := Lib.hid e1
      rw [← e2] at hs ⊢
      rw [hK] at hc0
      have hx1 : 1 + ((K : Int) + 247) - 247 = (K : Int) + 1 := by omega
      have hlK : K + 1 ≤ l.length := by omega
      have hK1 : 1 ≤ K := by omega
      have hK8 : K ≤ 8 := by omega
      generalize l.length = N at *
      clear hu hu1 hu9 htk h h4 hn64 hul e2 e1 hks hlen hbd hq hb0 hK eK
      go_enter Try.func48, Try.ntmps48
      go_wp2
      go_loop [6, 34] (fun x i => ∃ j : Nat, j ≤ K ∧ i = .int .i64 j ∧ x = .int .u64 (valN (l.drop 1) j : Nat)) (fun _ i => match i with | .int _ m => K - m.toNat | _ => 0)
      case atStart => exact ⟨0, Nat.zero_le _, rfl, rfl⟩
      case round =>
        obtain ⟨j, hj, rfl, rfl⟩ := hrel
        by_cases hlt : j < K
        · have hck := hcells.out j hlt
          have hb := hbyte.out j
          have hx := hval.out j (by omega)
          have hor := Lib.hid (or_byte _ _ hx hb)
          have hnx := hstep.out j
          generalize hY : valN (l.drop 1) (j + 1) = y at hnx
          generalize hX : valN (l.drop 1) j = x at *
          generalize ith (l.drop 1) j = z at *
          have hnx' := Lib.hid hnx; have hY' := Lib.hid hY
          clear hnx hY hX
          go_wp2
          refine ⟨⟨j + 1, by omega, rfl, ?_⟩, ?_⟩
          · rw [hor.out, ← hnx'.out, hY'.out]
          · show K - ((j : Int) + 1).toNat < K - (j : Int).toNat
            omega
        · obtain rfl : j = K := by omega
          rw [hfin.out]
          clear hfin hcells hbyte hval hstep
          go_wp2_with (go_at_call 53; (with_reducible refine (hs.out _).mono ?_); rintro e w' ⟨rfl, rfl⟩)
          go_ret3
          exact ⟨rfl, rfl⟩
    · cases h
theorem readNumber_any (l : List Int) (bv : Value) (w : World) (hr : RdB w bv l) (hl : Bytes l) :
    Calls Try.prog 48 #[bv] w fun e w' => e = .returned (.tuple #[.int .u64 (rdN l : Nat), .int .i64 (rdU l : Nat), .int .i64 (rdE l)]) ∧ w = w' := by
  cases h : readF l with
  | none => obtain ⟨h1, h2, h3⟩ := rd_none h; rw [h1, h2, h3]; exact readNumber_none l bv w hr hl h
  | some p => obtain ⟨n, u⟩ := p; obtain ⟨h1, h2, h3⟩ := rd_some h; rw [h1, h2, h3]; exact readNumber_some l bv w hr hl n u h
end Go.Proofs.Ytegffpjhdodldaa

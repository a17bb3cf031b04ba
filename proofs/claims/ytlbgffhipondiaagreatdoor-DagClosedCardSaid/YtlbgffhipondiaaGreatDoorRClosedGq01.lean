/- Texts that the row stands on, part 1. -/
import Derived.Test.YtlbgffhipondiaaGreatDoorRClosedGq00
import Derived.Test.YtlbgffhipondiaaGreatDoorRows
import Derived.Laws.Bits64
import Derived.Shelf.Small.Strs
import Derived.Shelf.Pu.Clone
import Derived.Deep.Cut
import Derived.Deep.DeepCutAuto
import Derived.BigQuiet
import Derived.Deep.MidRow
namespace Go.Proofs.YtlbgffhipondiaaGreatDoor.wir
open Go.RowKit Go.YtlbgffhipondiaaGreatDoor
set_option linter.unusedVariables false
def StopP (p : Prop) : Prop := p
theorem Stop.go'' (p : Prop) (h : StopP p) : p := h
theorem StopP.go {p : Prop} (h : p) : StopP p := h
theorem sizeOf_any (n : Nat) (hn : n < 18446744073709551616) (w : World) : Calls Tryz.prog 154 #[.int .u64 (n : Int)] w fun e w' => e = .returned (.int .i64 (numL n : Nat)) ∧ w = w' := by
  have hb := Tryz.bits_Len64 (n : Int) w (by omega) (by omega)
  rw [Int.toNat_natCast] at hb
  have hL : Lib.bitLen n ≤ 64 := Lib.bitLen_le n 64 (Nat.le_refl _) hn
  have hb' := Lib.hid hb
  clear hb hn
  by_cases h : n ≤ 247
  · have e : numL n = 1 := by simp [numL, h]
    rw [e]
    clear hL hb' e
    go_enter Tryz.func154, Tryz.ntmps154
    go_wp2
    go_ret
    exact ⟨rfl, rfl⟩
  · have e : numL n = 1 + (Lib.bitLen n + 7) / 8 := by simp [numL, h, ks]
    rw [e]
    clear e
    generalize Lib.bitLen n = L at *
    go_enter Tryz.func154, Tryz.ntmps154
    go_wp2_with (go_at_call 193; (with_reducible refine (hb'.out).mono ?_); rintro e w' ⟨rfl, rfl⟩)
    go_ret
    exact ⟨ret_int (by omega), rfl⟩
/-- A row after some rounds: the first byte, zeros, and the lowest bytes. -/
def numP (k n i : Nat) : List Int := (247 + (k : Int)) :: (List.replicate (k - i) 0 ++ be i n)
theorem numP_length (k n i : Nat) (h : i ≤ k) : (numP k n i).length = 1 + k := by simp [numP, be_length]; omega
theorem numP_set (k n i : Nat) (h : i < k) : (numP k n i).set (k - i) ((n / 256 ^ i % 256 : Nat) : Int) = numP k n (i + 1) := by
  obtain ⟨d, hd⟩ : ∃ d, k - i = d + 1 := ⟨k - i - 1, by omega⟩
  have hd2 : k - (i + 1) = d := by omega
  unfold numP
  rw [hd, hd2, List.set_cons_succ, be_succ, List.replicate_succ', List.append_assoc, List.set_append_right _ _ (by simp)]
  simp
theorem rdB_row {w : World} {g : Nat} {cs : List Int} {E : TypeId} (hg : w.heap[g]? = some (.cells (u8s cs) E (0, 0))) (n : Nat) (hn : cs.length = n) (hm : n ≤ maxLen) : RdB w (.slice (some ⟨g, 0, none⟩) n n) cs := by
  subst hn
  exact .inr ⟨g, 0, _, rfl, Nat.le_refl _, hm, (Array.getElem?_eq_some_iff.1 hg).1, fun i hi => by
    rw [Nat.zero_add, cell_of_row _ _ _ _ _ _ hg]; exact u8s_get _ _ (by omega)⟩
theorem ownB_row {w : World} {g : Nat} {cs : List Int} {E : TypeId} (hg : w.heap[g]? = some (.cells (u8s cs) E (0, 0))) (n : Nat) (hn : cs.length = n) (hm : n ≤ maxLen) {B : Nat} (hB : B ≤ g) : OwnB B E w (.slice (some ⟨g, 0, none⟩) n n) cs := by
  subst hn
  exact ⟨by simp [u8v], .inr ⟨g, _, _, rfl, hB, hg, Nat.le_refl _, hm, by simp [u8s], by simp [u8s, u8v, List.take_of_length_le]⟩⟩
set_option maxRecDepth 10000 in
theorem number_any (n : Nat) (hn : n < 18446744073709551616) (w : World) : Calls Tryz.prog 113 #[.int .u64 (n : Int)] w fun e w' => e = .returned (.slice (some ⟨w.heap.size, 0, none⟩) (numL n) (numL n)) ∧ w'.heap[w.heap.size]? = some (.cells (u8s (numB n)) 5 (0, 0)) ∧ Below w.heap.size w w' := by
  have hs := Lib.hid (fun w => sizeOf_any n hn w)
  have hmk := Lib.hid (fun (k : Nat) (hk : k ≤ 9) (wx : World) => run_makeB (P := Tryz.prog) wx 101 5 Tryz.underlying101 (by kernel_rfl) k k (Nat.le_refl _) (by omega))
  by_cases h : n ≤ 247
  · have e : numL n = 1 := by simp [numL, h]
    have e2 : numB n = [(n : Int)] := by simp [numB, h]
    rw [e] at hs
    rw [e, e2]
    have hm1 : ∀ wx : World, (Instr.makeSlice 101 (.int .i64 1) (.int .i64 1)).run Tryz.prog wx = .ok (.slice (some ⟨wx.heap.size, 0, none⟩) 1 1) (wx.alloc (.cells (u8s [0]) 5)) := hmk.out 1 (by omega)
    have hg := heap_alloc_new w (.cells (u8s [0]) 5)
    have hc : (w.alloc (.cells (u8s [0]) 5)).cell? ⟨w.heap.size, 0, none⟩ = some (.int .u8 0) := by rw [cell_of_row _ _ _ _ _ _ hg]; rfl
    have hf := frozen_of_row _ _ 0 _ _ hg
    have hg' := Lib.hid hg
    clear hn e e2 hmk hg
    go_enter Tryz.func113, Tryz.ntmps113
    go_wp2_with (go_at_call 154; (with_reducible refine (hs.out _).mono ?_); rintro e w' ⟨rfl, rfl⟩)
    go_ret
    exact ⟨rfl, heap_alloc_new w _, (Below.refl _ _).alloc (Nat.le_refl _) _⟩
  · obtain ⟨k1, k8, _, kh⟩ := ks_bounds n (by omega) hn
    have e : numL n = 1 + ks n := by simp [numL, h]
    have e2 : numB n = numP (ks n) n (ks n) := by simp [numB, h, numP]
    rw [e] at hs
    rw [e, e2]
    clear e e2 kh hn
    generalize ks n = k at *
    have hm1 : ∀ wx : World, (Instr.makeSlice 101 (.int .i64 (1 + (k : Int))) (.int .i64 (1 + (k : Int)))).run Tryz.prog wx = .ok (.slice (some ⟨wx.heap.size, 0, none⟩) (1 + k) (1 + k)) (wx.alloc (.cells (u8s (zerosB (1 + k))) 5)) := fun wx => by
      have h := hmk.out (1 + k) (by omega) wx
      rw [show ((1 + k : Nat) : Int) = 1 + (k : Int) by omega] at h
      exact h
    have hg := heap_alloc_new w (.cells (u8s (zerosB (1 + k))) 5)
    have hc : (w.alloc (.cells (u8s (zerosB (1 + k))) 5)).cell? ⟨w.heap.size, 0, none⟩ = some (.int .u8 (ith (zerosB (1 + k)) 0)) := by rw [cell_of_row _ _ _ _ _ _ hg]; exact u8s_get _ _ (by rw [zerosB_length]; omega)
    have hf := frozen_of_row _ _ 0 _ _ hg
    have hg2 := setCell_row hg 0 (.int .u8 (247 + (k : Int)))
    rw [u8s_set, show (zerosB (1 + k)).set 0 (247 + (k : Int)) = numP k n 0 by simp [zerosB, numP, be, Nat.add_comm 1 k, List.replicate_succ]] at hg2
    have hB := Lib.hid ((Below.refl _ _).alloc (Nat.le_refl _) _ : Below w.heap.size w (w.alloc (.cells (u8s (numP k n 0)) 5)))
    have hrow := Lib.hid (heap_alloc_new w (.cells (u8s (numP k n 0)) 5))
    have h0 : (u8s (zerosB (1 + k))).setIfInBounds 0 (Value.int IntKind.u8 (247 + (k : Int))) = u8s (numP k n 0) := by
      rw [u8s_set]; congr 1
      simp [zerosB, numP, be, Nat.add_comm 1 k, List.replicate_succ]
    have hk1 : 1 + (k : Int) - 1 = (k : Int) := by omega
    have hne : (1 + (k : Int) == 1) = false := by simp; omega
    clear hmk hg
    go_enter Tryz.func113, Tryz.ntmps113
    go_wp2_with (go_at_call 154; (with_reducible refine (hs.out _).mono ?_); rintro e w' ⟨rfl, rfl⟩)
    generalize w.alloc (.cells (u8s (numP k n 0)) 5) = W at *
    clear hc hf hm1 h0 hk1 hne hs
    go_loopw [26] (fun i wr => ∃ j : Nat, j ≤ k ∧ i = .int .i64 j ∧ Below w.heap.size w wr ∧ wr.heap[w.heap.size]? = some (.cells (u8s (numP k n j)) 5 (0, 0))) (fun i _ => match i with | .int _ m => k - m.toNat | _ => 0)
    case atStart => exact ⟨0, Nat.zero_le _, rfl, hB.out, hrow.out⟩
    case round =>
      obtain ⟨j, hj, rfl, hb, hr⟩ := hrel
      by_cases hlt : j < k
      · obtain ⟨m, hm⟩ : ∃ m : Nat, (k : Int) - (j : Int) = (m : Int) := ⟨k - j, by omega⟩
        have hmv : m = k - j := by omega
        have hc : wr.cell? ⟨w.heap.size, m, none⟩ = some (.int .u8 (ith (numP k n j) m)) := by rw [cell_of_row _ _ _ _ _ _ hr]; exact u8s_get _ _ (by rw [numP_length _ _ _ hj]; omega)
        have hf := frozen_of_row _ _ m _ _ hr
        have hmk : m < 1 + k := by omega
        have hset := Lib.hid (show (numP k n j).set m ((n / 256 ^ j % 256 : Nat) : Int) = numP k n (j + 1) by rw [hmv]; exact numP_set k n j hlt)
        have hb' := Lib.hid hb; have hr' := Lib.hid hr
        clear hb hr hmv
        go_wp2
        go_roundw
        case rel =>
          have e : ((n / 256 ^ j % 256 : Nat) : Int) = (n : Int) / 2 ^ (8 * j) % 256 := by rw [pow256]; simp
          have h := setCell_row hr'.out m (.int .u8 ((n / 256 ^ j % 256 : Nat) : Int))
          rw [u8s_set, hset.out] at h
          rw [← e]
          exact ⟨j + 1, by omega, by go_num, hb'.out.setCell (p := ⟨w.heap.size, m, none⟩) (Nat.le_refl w.heap.size) _, h⟩
        case measure => go_num
      · obtain rfl : j = k := by omega
        have hb' := Lib.hid hb; have hr' := Lib.hid hr
        clear hb hr
        go_wp2
        go_ret
        exact ⟨rfl, hr'.out, hb'.out⟩
set_option maxRecDepth 10000 in
theorem or_byte (x b : Int) (hx : 0 ≤ x ∧ x < 72057594037927936) (hb : 0 ≤ b ∧ b < 256) : bits BinOp.or IntKind.u64 (x * 256) b = x * 256 + b := by
  obtain ⟨n, rfl⟩ := Int.eq_ofNat_of_zero_le hx.1
  obtain ⟨m, rfl⟩ := Int.eq_ofNat_of_zero_le hb.1
  have h1 : (BitVec.ofInt 64 ((n : Int) * 256)).toNat = 2 ^ 8 * n := by
    rw [show (n : Int) * 256 = ((2 ^ 8 * n : Nat) : Int) by omega, BitVec.ofInt_natCast, BitVec.toNat_ofNat]; omega
  have h2 : (BitVec.ofInt 64 (m : Int)).toNat = m := by
    rw [BitVec.ofInt_natCast, BitVec.toNat_ofNat]; omega
  show IntKind.u64.wrap ((BitVec.ofInt 64 ((n : Int) * 256) ||| BitVec.ofInt 64 (m : Int)).toNat : Int) = _
  rw [BitVec.toNat_or, h1, h2, ← Nat.two_pow_add_eq_or_of_lt (by omega) n, IntKind.wrap_u64]
  omega
set_option maxRecDepth 10000 in
theorem xor_ones (n : Int) (h1 : -9223372036854775808 ≤ n) (h2 : n ≤ 9223372036854775807) : bits BinOp.xor IntKind.i64 (-1) n = -n - 1 := by
  show IntKind.i64.wrap ((BitVec.ofInt 64 (-1) ^^^ BitVec.ofInt 64 n).toNat : Int) = _
  rw [show BitVec.ofInt 64 (-1) = BitVec.allOnes 64 from rfl, BitVec.allOnes_xor, BitVec.toNat_not, BitVec.toNat_ofInt, IntKind.wrap_i64]
  omega
theorem fold_any (n : Int) (h1 : -9223372036854775808 ≤ n) (h2 : n ≤ 9223372036854775807) (w : World) : Calls Tryz.prog 204 #[.int .i64 n] w fun e w' => e = .returned (.int .u64 (foldN n : Nat)) ∧ w = w' := by
  by_cases h : n < 0
  · have e : (foldN n : Int) = 2 * (-n - 1) + 1 := by unfold foldN; rw [if_pos h]; omega
    rw [e]
    clear e
    go_enter Tryz.func204, Tryz.ntmps204
    go_wp2
    all_goals
      go_ret
      refine ⟨ret_int ?_, rfl⟩
      rw [xor_ones n h1 h2]
      simp only [IntKind.wrap_u64]
      omega
  · have e : (foldN n : Int) = 2 * n := by unfold foldN; rw [if_neg h]; omega
    rw [e]
    clear e
    go_enter Tryz.func204, Tryz.ntmps204
    go_wp2
    go_ret
    exact ⟨ret_int (by omega), rfl⟩
theorem signed_any (n : Int) (h1 : -9223372036854775808 ≤ n) (h2 : n ≤ 9223372036854775807) (w : World) : Calls Tryz.prog 173 #[.int .i64 n] w fun e w' => e = .returned (.slice (some ⟨w.heap.size, 0, none⟩) (numL (foldN n)) (numL (foldN n))) ∧ w'.heap[w.heap.size]? = some (.cells (u8s (numB (foldN n))) 5 (0, 0)) ∧ Below w.heap.size w w' := by
  have hf := Lib.hid (fold_any n h1 h2)
  have hn := Lib.hid (number_any (foldN n) (fold_lt n ⟨h1, h2⟩))
  clear h1 h2
  generalize numL (foldN n) = L at *
  generalize numB (foldN n) = B at *
  generalize foldN n = F at *
  go_enter Tryz.func173, Tryz.ntmps173
  go_wp2_with (first | (go_at_call 204; (with_reducible refine (hf.out _).mono ?_); rintro e w' ⟨rfl, rfl⟩) | (go_at_call 113; (with_reducible refine (hn.out _).mono ?_); rintro e w' ⟨rfl, hr, hb⟩; have hr' := Lib.hid hr; have hb' := Lib.hid hb; clear hr hb))
  go_ret
  exact ⟨rfl, hr'.out, hb'.out⟩
end Go.Proofs.YtlbgffhipondiaaGreatDoor.wir
namespace Go.Proofs.YtlbgffhipondiaaGreatDoor.wir
open Go.RowKit Go.YtlbgffhipondiaaGreatDoor
set_option linter.unusedVariables false
theorem rdB_at {w : World} {a : Option Addr} {n c : Nat} {l : List Int} (h : RdB w (.slice a n c) l) (i : Nat) (hi : i < l.length) : ∃ b o, a = some ⟨b, o, none⟩ ∧ b < w.heap.size ∧ w.cell? ⟨b, o + i, none⟩ = some (.int .u8 (ith l i)) := by
  rcases h with ⟨_, _, _, _, rfl⟩ | ⟨b, o, c', h1, h2, h3, h4, h5⟩
  · exact absurd hi (Nat.not_lt_zero _)
  · cases h1
    exact ⟨b, o, rfl, h4, h5 i hi⟩
def sameF (a b : List Int) : Bool := decide (a = b)
theorem sameF_self (a : List Int) : sameF a a = true := by simp [sameF]
theorem own_lit (w : World) (x : Int) : OwnB w.heap.size 5 (w.alloc (.cells #[.int .u8 x] 5)) (.slice (some ⟨w.heap.size, 0, none⟩) 1 1) [x] :=
  ⟨rfl, .inr ⟨w.heap.size, 1, _, rfl, Nat.le_refl _, heap_alloc_new w _, Nat.le_refl _, by decide, rfl, rfl⟩⟩
theorem rd_one (w : World) (x : Int) : RdB (w.alloc (.cells #[.int .u8 x] 5)) (.slice (some ⟨w.heap.size, 0, none⟩) 1 1) [x] := (own_lit w x).rd
theorem below_new (w : World) (o : Obj) : Below w.heap.size w (w.alloc o) := (Below.refl _ _).alloc (Nat.le_refl _) o
def outF (j n t : Nat) : List Int := (247 + (j : Int)) :: (be j n).take t
theorem outF_length (j n t : Nat) (h : t ≤ j) : (outF j n t).length = t + 1 := by simp [outF, be_length]; omega
theorem outF_succ (j n t : Nat) (h : t < j) : outF j n t ++ [ith (be j n) t] = outF j n (t + 1) := by
  unfold outF
  rw [take_succ_ith _ _ (by rw [be_length]; exact h), List.cons_append]
set_option maxRecDepth 100000 in
theorem rnum_any (n : Nat) (hn : n < 18446744073709551616) (w : World) : Calls Tryz.prog 184 #[.int .u64 (n : Int)] w fun e w' => ∃ v, e = .returned v ∧ OwnB w.heap.size 5 w' v (numB n) ∧ Below w.heap.size w w' := by
  by_cases h : n ≤ 247
  · have e2 : numB n = [(n : Int)] := by simp [numB, h]
    rw [e2]
    clear hn e2
    go_enter Tryz.func184, Tryz.ntmps184
    go_wp2
    go_ret
    exact ⟨_, rfl, own_lit w _, below_new w _⟩
  · obtain ⟨k1, k8, _, kh⟩ := ks_bounds n (by omega) hn
    have hpos := Lib.hid (fun j => div_pos_iff n j (by omega) hn)
    have e2 := Lib.hid (show numB n = (247 + (ks n : Int)) :: be (ks n) n by simp [numB, h])
    have hn0 := Lib.hid (show n / 256 ^ 0 = n by simp)
    have hlt64 := Lib.hid (fun j => Nat.lt_of_le_of_lt (Nat.div_le_self n (256 ^ j)) hn)
    clear kh hn
    generalize ks n = k at *
    go_enter Tryz.func184, Tryz.ntmps184
    go_wp2
    go_loopw [0, 3] (fun x s wr => ∃ j : Nat, j ≤ k ∧ x = .int .u64 ((n / 256 ^ j : Nat) : Int) ∧ OwnB w.heap.size 5 wr s (le j n) ∧ Below w.heap.size w wr) (fun _ s _ => 10 - lenS s)
    case atStart => exact ⟨0, Nat.zero_le _, by rw [hn0.out], OwnB.nil _ _ _, Below.refl _ _⟩
    case round =>
      obtain ⟨j, hj, rfl, ho, hb⟩ := hrel
      obtain ⟨sa, sc, rfl⟩ := ho.rd.slice
      have hlen := le_length j n
      by_cases hlt : j < k
      · have hp := (hpos.out j).2 hlt
        have h64 := hlt64.out j
        have hst := Lib.hid (div_step n j)
        have hle := Lib.hid (show le (j + 1) n = le j n ++ [((n / 256 ^ j % 256 : Nat) : Int)] from rfl)
        have hl1 := le_length (j + 1) n
        generalize hy : n / 256 ^ (j + 1) = y at hst
        have hY := Lib.hid hy
        clear hy
        generalize hq : n / 256 ^ j = q at *
        clear hq
        have hlen' := Lib.hid hlen
        rw [hlen] at ho ⊢
        clear hlen
        have hzw := hb.size
        have ho' := Lib.hid (ho.kept (below_new wr (.cells #[.int .u8 ((q : Int) % 256)] 5)))
        have hb' := Lib.hid hb
        have hl1' := Lib.hid hl1
        clear ho hb hl1
        go_wp2_with (refine appendB rfl _ _ 101 rfl w.heap.size 5 Tryz.underlying101 (by kernel_rfl) _ rfl _ ho'.out _ rfl _ (rd_one _ _) (by rw [hlen'.out]; simp; omega) (by simp; omega) ?_)
        intro v' w' h1 h2
        have hb2 := ho'.out.below h2 (by simp; omega)
        rw [show le j n ++ [(q : Int) % 256] = le (j + 1) n by rw [hle.out]; simp] at h1
        obtain ⟨va, vc, rfl⟩ := h1.rd.slice
        have h1' := Lib.hid h1; have hB2 := Lib.hid (hb'.out.trans (((Below.refl _ _).alloc hzw _).trans hb2))
        rw [hl1'.out] at h1' ⊢
        clear h1 h2 hb2 ho' hle
        refine Stop.go ?_
        go_wp2
        go_roundw
        case rel => exact ⟨j + 1, by omega, by rw [hY.out, ← hst.out]; simp, h1'.out, hB2.out⟩
        case measure => simp [lenS]; omega
      · obtain rfl : j = k := by omega
        obtain ⟨w1, hw1⟩ : ∃ w1, w1 = wr := ⟨_, rfl⟩
        subst hw1
        have hz0 : n / 256 ^ j = 0 := Nat.eq_zero_of_not_pos (fun hp => by have := (hpos.out j).1 hp; omega)
        have ho' := Lib.hid ho; have hb' := Lib.hid hb
        have hzw := hb.size
        have hlen' := Lib.hid hlen
        rw [hz0, show ((0 : Nat) : Int) = 0 from rfl]
        rw [hlen] at ho' ⊢
        clear ho hb hz0 hlen hpos hlt64 hn0
        go_wp2
        generalize hW : w1.alloc _ = W
        have how := Lib.hid (show OwnB w1.heap.size 5 W (.slice (some ⟨w1.heap.size, 0, none⟩) 1 1) (outF j n 0) by rw [← hW]; exact own_lit w1 _)
        have hbw := Lib.hid (show Below w1.heap.size w1 W by rw [← hW]; exact below_new w1 _)
        clear hW
        have hdr := Lib.hid ho'.out.rd
        clear ho'
        go_loopw [4, 5] (fun s i wr => ∃ t : Nat, t ≤ j ∧ i = .int .i64 ((j : Int) - 1 - (t : Int)) ∧ OwnB w1.heap.size 5 wr s (outF j n t) ∧ Below w1.heap.size w1 wr) (fun _ i _ => (intOf i + 1).toNat)
        case atStart => exact ⟨0, Nat.zero_le _, by simp, how.out, hbw.out⟩
        case round =>
          obtain ⟨t, ht, rfl, ho, hb⟩ := hrel
          obtain ⟨qa, qc, rfl⟩ := ho.rd.slice
          have hlo := outF_length j n t ht
          by_cases hlt : t < j
          · obtain ⟨m, hm⟩ : ∃ m : Nat, (j : Int) - 1 - (t : Int) = (m : Int) := ⟨j - 1 - t, by omega⟩
            have hmv : m = j - 1 - t := by omega
            obtain ⟨b, o, rfl, hbs, e1⟩ := rdB_at hdr.out m (by rw [hlen'.out]; omega)
            have c1 := (hb.cell (p := ⟨b, o + m, none⟩) hbs).trans e1
            have hx := Lib.hid (show outF j n t ++ [ith (le j n) m] = outF j n (t + 1) by rw [ith_le _ _ _ (by omega), hmv, ← outF_succ j n t hlt, ith_be _ _ _ hlt])
            have hmj : m < j := by omega
            have hm0 : (m : Int) - 1 = (j : Int) - 1 - ((t + 1 : Nat) : Int) := by omega
            have hm0' := Lib.hid hm0
            generalize ith (le j n) m = x at *
            have hls := Lib.hid (outF_length j n (t + 1) (by omega))
            have hlo' := Lib.hid hlo
            rw [hlo] at ho ⊢
            rw [hm]
            have hzq := hb.size
            have ho' := Lib.hid (ho.kept (below_new wr (.cells #[.int .u8 x] 5)))
            have hb' := Lib.hid hb
            clear ho hb hlo hm0 hmv e1 hm
            go_wp2_with (refine appendB rfl _ _ 101 rfl w1.heap.size 5 Tryz.underlying101 (by kernel_rfl) _ rfl _ ho'.out _ rfl _ (rd_one _ _) (by rw [hlo'.out]; simp; omega) (by simp; omega) ?_)
            intro v' w' h1 h2
            have hb2 := ho'.out.below h2 (by simp; omega)
            rw [hx.out] at h1
            obtain ⟨va, vc, rfl⟩ := h1.rd.slice
            have h1' := Lib.hid h1; have hB2 := Lib.hid (hb'.out.trans (((Below.refl _ _).alloc hzq _).trans hb2))
            rw [hls.out] at h1' ⊢
            clear h1 h2 hb2 ho' hx
            refine Stop.go ?_
            go_wp2
            go_roundw
            case rel => exact ⟨t + 1, by omega, by rw [hm0'.out], h1'.out, hB2.out⟩
            case measure => simp [intOf]
          · obtain rfl : t = j := by omega
            have hi : (t : Int) - 1 - (t : Int) = -1 := by omega
            rw [hi]
            have ho' := Lib.hid (ho.mono hzw)
            have hB := Lib.hid (hb'.out.trans (hb.mono hzw))
            rw [hlo] at ho' ⊢
            clear ho hb hlo hi
            go_wp2
            go_ret
            refine ⟨_, rfl, ?_, hB.out⟩
            rw [e2.out]
            have : outF t n t = (247 + (t : Int)) :: be t n := by simp [outF, List.take_of_length_le, be_length]
            rw [← this]; exact ho'.out
theorem rsigned4_any (n : Int) (h1 : -9223372036854775808 ≤ n) (h2 : n ≤ 9223372036854775807) (w : World) : Calls Tryz.prog 239 #[.int .i64 n] w fun e w' => ∃ v, e = .returned v ∧ OwnB w.heap.size 5 w' v (numB (foldN n)) ∧ Below w.heap.size w w' := by
  have hn := Lib.hid (rnum_any (foldN n) (fold_lt n ⟨h1, h2⟩) w)
  by_cases h : 0 ≤ n
  · have e : (foldN n : Int) = 2 * n := by unfold foldN; rw [if_neg (by omega)]; omega
    rw [e] at hn
    generalize numB (foldN n) = B at *
    clear e
    go_enter Tryz.func239, Tryz.ntmps239
    go_wp2_with (go_at_call 184; (with_reducible refine (hn.out).mono ?_); rintro e w' ⟨v, rfl, hr, hb⟩; have hr' := Lib.hid hr; have hb' := Lib.hid hb; clear hr hb)
    go_ret
    exact ⟨_, rfl, hr'.out, hb'.out⟩
  · have e : (foldN n : Int) = 2 * (-(n + 1)) + 1 := by unfold foldN; rw [if_pos (by omega)]; omega
    rw [e] at hn
    generalize numB (foldN n) = B at *
    clear e
    go_enter Tryz.func239, Tryz.ntmps239
    go_wp2_with (go_at_call 184; (with_reducible refine (hn.out).mono ?_); rintro e w' ⟨v, rfl, hr, hb⟩; have hr' := Lib.hid hr; have hb' := Lib.hid hb; clear hr hb)
    go_ret
    exact ⟨_, rfl, hr'.out, hb'.out⟩
end Go.Proofs.YtlbgffhipondiaaGreatDoor.wir
namespace Go.Proofs.YtlbgffhipondiaaGreatDoor.wir
open Go.RowKit Go.YtlbgffhipondiaaGreatDoor
set_option linter.unusedVariables false
theorem rdB_len0 {w : World} {v : Value} {r : List Int} (h : RdB w v r) (h0 : r.length = 0) : ∃ a c, v = .slice a 0 c := by
  obtain ⟨a, c, rfl⟩ := h.slice
  exact ⟨a, c, by rw [h0]⟩
theorem step_copyB {P : Program} {ops : Array Oper} {o : Oper} {a : Act} {w : World} {K : Act → World → Prop} {Q : Exit → Act → World → Prop} {E : Prop} (hgd : o.guard = none) (d s : Operand) (dT sT : TypeId)
    (ho : o.op = .call { callee := .builtin .copy, args := #[d, s], argTypes := #[dT, sT] }) (elem : TypeId) (hu : P.underlying dT = some (.slice elem)) (hsz : (P.info? elem).map (·.size) = some 1)
    (dp : Option Addr) (g off dLen dCap : Nat) (hd : a.eval d = .slice dp dLen dCap) (sv : Value) (hs : a.eval s = sv) (r : List Int) (hr : RdB w sv r) (hdp : 0 < r.length → dp = some ⟨g, off, none⟩)
    (cs : List Int) (t : TypeId) (hg : w.heap[g]? = some (.cells (u8s cs) t (0, 0))) (hle : r.length ≤ dLen) (hfit : off + r.length ≤ cs.length)
    (h : ∀ w', Hid (w' = w.setRow g (u8s (overlay cs off r))) → K (a.put o.dst (goInt r.length)) w') :
    if Region.wanted o (yielded ops a.tmps) = true then Oper.wp P o a w K Q else E := by
  have hw : Region.wanted o (yielded ops a.tmps) = true := by simp [Region.wanted, hgd]
  rw [if_pos hw]
  have h := h _ (show _ = _ from rfl)
  by_cases h0 : r.length = 0
  · obtain ⟨sa, sc, rfl⟩ := rdB_len0 hr h0
    obtain rfl : r = [] := List.eq_nil_of_length_eq_zero h0
    have hrun := run_copy_none (P := P) w dT sT o.type elem dp sa dLen dCap 0 sc hu hsz (Nat.zero_min _)
    unfold Oper.wp
    simp [execOp, ho, resolve, invoke, builtin, hd, hs, hrun, Result.andThen]
    have e : overlay cs off [] = cs := by simp [overlay]
    rw [e, setRow_self w g _ t _ hg] at h
    exact h
  · obtain rfl := hdp (by omega)
    rcases hr with ⟨sa, sc, rfl, _, rfl⟩ | ⟨b, o', c, rfl, h1, h2, h3, h4⟩
    · simp at h0
    · have hrun := run_copy_row (P := P) w dT sT o.type elem g off dLen dCap ⟨b, o', none⟩ r.length c (u8s cs) t (u8v r) hu hsz hg (by rw [u8v_length]; exact (Nat.min_eq_left hle).symm) (RdB.src h4) (by rw [u8v_length, u8s_size]; exact hfit) (u8v_one r)
      unfold Oper.wp
      simp [execOp, ho, resolve, invoke, builtin, hd, hs, hrun, Result.andThen]
      have e : ((u8s cs).toList.take off ++ (u8v r ++ (u8s cs).toList.drop (off + r.length))).toArray = u8s (overlay cs off r) := by
        simp [u8s, u8v, overlay]
      rw [u8v_length, e]; exact h
theorem below_drewG (B : Nat) (w : World) : Below B w w.drew := ((Draws.refl _).drewN 1).below (Below.refl _ _)
theorem below_drew (w : World) : Below w.heap.size w w.drew := below_drewG _ w
/-- A function without a result has come to its end. -/
def IsRet (e : Ending) : Prop := ∃ v, e = .returned v
theorem put_some (g A T : Nat) (B : List Int) (rv : Value) (r : List Int) (w : World) (hT : B.length = T) (hb : w.heap[g]? = some (.cells (u8s B) 5 (0, 0)))
    (hv : w.heap[g + 1]? = some (.cells #[.slice (some ⟨g, 0, none⟩) T T] 101 (0, 0))) (ha : w.heap[g + 2]? = some (.cells #[.int .i64 (A : Int)] 3 (0, 0)))
    (hr : RdB w rv r) (hfit : A + r.length ≤ T) (hm : T ≤ 1000000) (hlt : A < T) :
    Calls Tryz.prog 200 #[rv, .pointer (some ⟨g + 2, 0, none⟩), .pointer (some ⟨g + 1, 0, none⟩)] w fun e w' => IsRet e ∧ w'.heap[g]? = some (.cells (u8s (overlay B A r)) 5 (0, 0)) ∧ w'.heap[g + 1]? = some (.cells #[.slice (some ⟨g, 0, none⟩) T T] 101 (0, 0)) ∧ w'.heap[g + 2]? = some (.cells #[.int .i64 ((A + r.length : Nat) : Int)] 3 (0, 0)) ∧ Below g w w' := by
  have c1 : w.cell? ⟨g + 1, 0, none⟩ = some (.slice (some ⟨g, 0, none⟩) T T) := by rw [cell_of_row _ _ _ _ _ _ hv]; rfl
  have c2 : w.cell? ⟨g + 2, 0, none⟩ = some (.int .i64 (A : Int)) := by rw [cell_of_row _ _ _ _ _ _ ha]; rfl
  have f2 := frozen_of_row _ _ 0 _ _ ha
  have hrs := hr
  obtain ⟨ra, rc, rfl⟩ := hr.slice
  have hr' := Lib.hid hrs; have hb' := Lib.hid hb; have hv' := Lib.hid hv; have ha' := Lib.hid ha; have hT' := Lib.hid hT
  clear hr hrs hb hv ha hT
  generalize hn : r.length = n at *
  have hn' := Lib.hid hn
  clear hn
  have g1 : A ≤ T := by omega
  have g2 : ¬ T = A := by omega
  go_enter Tryz.func200, Tryz.ntmps200
  have hwr : IntKind.i64.wrap ((A : Int) + (n : Int)) = (A : Int) + (n : Int) := IntWalk.i64_in _ (by omega)
  have k0 := Lib.hid (fun (w4 : World) (h : w4 = w.drew.setRow g (u8s (overlay B A r))) => (show w4.heap[g + 2]? = some (.cells #[.int .i64 (A : Int)] 3 (0, 0)) from by rw [h]; exact (setRow_other w.drew g (g + 2) _ (by omega)).trans ha'.out))
  go_wp2
  go_region_law ((refine step_copyB rfl _ _ 101 101 rfl 5 Tryz.underlying101 (by kernel_rfl) (some ⟨g, A, none⟩) g A (T - A) (T - A) rfl _ rfl r (hr'.out.mono (below_drew w)) (fun _ => rfl) B 5 hb'.out (by rw [hn'.out]; omega) (by rw [hn'.out, hT'.out]; omega) ?_; intro w4 hw4; have k2 : w4.cell? ⟨g + 2, 0, none⟩ = some (.int .i64 (A : Int)) := (by rw [cell_of_row _ _ _ _ _ _ (k0.out _ hw4.out)]; rfl); have k3 : w4.frozen? ⟨g + 2, 0, none⟩ = false := (frozen_of_row _ _ 0 _ _ (k0.out _ hw4.out)); rw [hn'.out]))
  all_goals
    go_end0
    refine ⟨⟨_, rfl⟩, ?_, ?_, ?_, ?_⟩
    · rw [hw4.out]
      exact (setCell_rows _ _ _ _ (by omega)).trans (setRow_heap w.drew g _ _ _ _ hb'.out)
    · rw [hw4.out]
      exact (setCell_rows _ _ _ _ (by omega)).trans ((setRow_other w.drew g (g + 1) _ (by omega)).trans hv'.out)
    · exact setCell_row (k0.out _ hw4.out) 0 (.int .i64 ((A : Int) + (n : Int)))
    · rw [hw4.out]
      exact (below_setRow' (below_drewG g w) (Nat.le_refl _) _).setCell (by simp) _
theorem put_end (g A T : Nat) (B : List Int) (rv : Value) (r : List Int) (w : World) (hT : B.length = T) (hb : w.heap[g]? = some (.cells (u8s B) 5 (0, 0)))
    (hv : w.heap[g + 1]? = some (.cells #[.slice (some ⟨g, 0, none⟩) T T] 101 (0, 0))) (ha : w.heap[g + 2]? = some (.cells #[.int .i64 (A : Int)] 3 (0, 0)))
    (hr : RdB w rv r) (hfit : A + r.length ≤ T) (hm : T ≤ 1000000) (hlt : A = T) :
    Calls Tryz.prog 200 #[rv, .pointer (some ⟨g + 2, 0, none⟩), .pointer (some ⟨g + 1, 0, none⟩)] w fun e w' => IsRet e ∧ w'.heap[g]? = some (.cells (u8s (overlay B A r)) 5 (0, 0)) ∧ w'.heap[g + 1]? = some (.cells #[.slice (some ⟨g, 0, none⟩) T T] 101 (0, 0)) ∧ w'.heap[g + 2]? = some (.cells #[.int .i64 ((A + r.length : Nat) : Int)] 3 (0, 0)) ∧ Below g w w' := by
  subst hlt
  have c1 : w.cell? ⟨g + 1, 0, none⟩ = some (.slice (some ⟨g, 0, none⟩) A A) := by rw [cell_of_row _ _ _ _ _ _ hv]; rfl
  have c2 : w.cell? ⟨g + 2, 0, none⟩ = some (.int .i64 (A : Int)) := by rw [cell_of_row _ _ _ _ _ _ ha]; rfl
  have f2 := frozen_of_row _ _ 0 _ _ ha
  have hrs := hr
  obtain ⟨ra, rc, rfl⟩ := hr.slice
  have hr' := Lib.hid hrs; have hb' := Lib.hid hb; have hv' := Lib.hid hv; have ha' := Lib.hid ha; have hT' := Lib.hid hT
  clear hr hrs hb hv ha hT
  generalize hn : r.length = n at *
  have hn' := Lib.hid hn
  clear hn
  go_enter Tryz.func200, Tryz.ntmps200
  have hwr : IntKind.i64.wrap ((A : Int) + (n : Int)) = (A : Int) + (n : Int) := IntWalk.i64_in _ (by omega)
  have k0 := Lib.hid (fun (w4 : World) (h : w4 = w.drew.setRow g (u8s (overlay B A r))) => (show w4.heap[g + 2]? = some (.cells #[.int .i64 (A : Int)] 3 (0, 0)) from by rw [h]; exact (setRow_other w.drew g (g + 2) _ (by omega)).trans ha'.out))
  go_wp2
  go_region_law ((refine step_copyB rfl _ _ 101 101 rfl 5 Tryz.underlying101 (by kernel_rfl) (some ⟨g, 0, none⟩) g A 0 0 rfl _ rfl r (hr'.out.mono (below_drew w)) (fun h => by rw [hn'.out] at h; omega) B 5 hb'.out (by rw [hn'.out]; omega) (by rw [hn'.out, hT'.out]; omega) ?_; intro w4 hw4; have k2 : w4.cell? ⟨g + 2, 0, none⟩ = some (.int .i64 (A : Int)) := (by rw [cell_of_row _ _ _ _ _ _ (k0.out _ hw4.out)]; rfl); have k3 : w4.frozen? ⟨g + 2, 0, none⟩ = false := (frozen_of_row _ _ 0 _ _ (k0.out _ hw4.out)); rw [hn'.out]))
  all_goals
    go_end0
    refine ⟨⟨_, rfl⟩, ?_, ?_, ?_, ?_⟩
    · rw [hw4.out]
      exact (setCell_rows _ _ _ _ (by omega)).trans (setRow_heap w.drew g _ _ _ _ hb'.out)
    · rw [hw4.out]
      exact (setCell_rows _ _ _ _ (by omega)).trans ((setRow_other w.drew g (g + 1) _ (by omega)).trans hv'.out)
    · exact setCell_row (k0.out _ hw4.out) 0 (.int .i64 ((A : Int) + (n : Int)))
    · rw [hw4.out]
      exact (below_setRow' (below_drewG g w) (Nat.le_refl _) _).setCell (by simp) _
theorem put_any (g A T : Nat) (B : List Int) (rv : Value) (r : List Int) (w : World) (hT : B.length = T) (hb : w.heap[g]? = some (.cells (u8s B) 5 (0, 0)))
    (hv : w.heap[g + 1]? = some (.cells #[.slice (some ⟨g, 0, none⟩) T T] 101 (0, 0))) (ha : w.heap[g + 2]? = some (.cells #[.int .i64 (A : Int)] 3 (0, 0)))
    (hr : RdB w rv r) (hfit : A + r.length ≤ T) (hm : T ≤ 1000000) :
    Calls Tryz.prog 200 #[rv, .pointer (some ⟨g + 2, 0, none⟩), .pointer (some ⟨g + 1, 0, none⟩)] w fun e w' => IsRet e ∧ w'.heap[g]? = some (.cells (u8s (overlay B A r)) 5 (0, 0)) ∧ w'.heap[g + 1]? = some (.cells #[.slice (some ⟨g, 0, none⟩) T T] 101 (0, 0)) ∧ w'.heap[g + 2]? = some (.cells #[.int .i64 ((A + r.length : Nat) : Int)] 3 (0, 0)) ∧ Below g w w' := by
  rcases Nat.lt_or_ge A T with h | h
  · exact put_some g A T B rv r w hT hb hv ha hr hfit hm h
  · exact put_end g A T B rv r w hT hb hv ha hr hfit hm (by omega)
theorem below_a1 (w : World) (o : Obj) : Below w.heap.size w (w.alloc o) := (Below.refl _ _).alloc (Nat.le_refl _) o
theorem overlay_zero (h : List Int) (n : Nat) : overlay (zerosB (h.length + n)) 0 h = h ++ zerosB n := by
  unfold overlay zerosB
  rw [List.take_zero, List.nil_append, Nat.zero_add, List.drop_replicate, Nat.add_sub_cancel_left]
theorem counted_any (k n : Nat) (hk : k < 9223372036854775808) (hn : n ≤ 900000) (w : World) :
    Calls Tryz.prog 171 #[.int .i64 (k : Int), .int .i64 (n : Int)] w fun e w' => ∃ g, e = .returned (.tuple #[.slice (some ⟨g, 0, none⟩) (numL k + n) (numL k + n), .func (.func 200) #[] #[.pointer (some ⟨g + 2, 0, none⟩), .pointer (some ⟨g + 1, 0, none⟩)]]) ∧ w.heap.size ≤ g ∧
      w'.heap[g]? = some (.cells (u8s (numB k ++ zerosB n)) 5 (0, 0)) ∧ w'.heap[g + 1]? = some (.cells #[.slice (some ⟨g, 0, none⟩) (numL k + n) (numL k + n)] 101 (0, 0)) ∧ w'.heap[g + 2]? = some (.cells #[.int .i64 (numL k : Nat)] 3 (0, 0)) ∧ Below w.heap.size w w' := by
  have hmf : ∀ (fn : Fn) (first cap : Array Value) (w : World), (Instr.makeFunc fn first cap).run Tryz.prog w = .ok (.func fn first cap) w := fun _ _ _ _ => rfl
  have hN := Lib.hid (number_any k (by omega) w)
  have hL9 := numL_le k (by omega)
  have hlen := Lib.hid (numB_length k)
  generalize numL k = L at *
  generalize numB k = B at *
  have hmk := fun (wx : World) => run_makeB (P := Tryz.prog) wx 101 5 Tryz.underlying101 (by kernel_rfl) (L + n) (L + n) (Nat.le_refl _) (by omega)
  have hmk' : ∀ wx : World, (Instr.makeSlice 101 (.int .i64 ((L : Int) + (n : Int))) (.int .i64 ((L : Int) + (n : Int)))).run Tryz.prog wx = .ok (.slice (some ⟨wx.heap.size, 0, none⟩) (L + n) (L + n)) (wx.alloc (.cells (u8s (zerosB (L + n))) 5)) := fun wx => by
    have h := hmk wx
    rw [show ((L + n : Nat) : Int) = (L : Int) + (n : Int) by omega] at h
    exact h
  clear hmk
  go_enter Tryz.func171, Tryz.ntmps171
  go_wp2_with (go_at_call 113; (with_reducible refine (hN.out).mono ?_); rintro e w1 ⟨rfl, hg, hb⟩; have hg' := Lib.hid hg; have hb' := Lib.hid hb; clear hg hb; refine Stop.go'' _ ?_)
  refine StopP.go ?_
  have hz := hb'.out.size
  have k0 := Lib.hid (fun (W2 : World) (h : W2 = (w1.alloc (.cells (u8s (zerosB (L + n))) 5)).alloc (.cells #[.slice (some ⟨w1.heap.size, 0, none⟩) (L + n) (L + n)] 101)) => (show RdB W2 (.slice (some ⟨w.heap.size, 0, none⟩) L L) B ∧ W2.heap[w1.heap.size]? = some (.cells (u8s (zerosB (L + n))) 5 (0, 0)) ∧ W2.heap[w1.heap.size + 1]? = some (.cells #[.slice (some ⟨w1.heap.size, 0, none⟩) (L + n) (L + n)] 101 (0, 0)) ∧ Below w.heap.size w W2 ∧ W2.heap.size = w1.heap.size + 2 from by
    subst h
    refine ⟨(rdB_row hg'.out L hlen.out (by unfold maxLen; omega)).mono ((below_a1 w1 _).trans ((below_a1 _ _).mono (by simp))), (hp1 _ _ _ (by simp)).trans (heap_alloc_new w1 _), hn2 w1 _ _, hb'.out.trans (((below_a1 w1 _).trans ((below_a1 _ _).mono (by simp))).mono hz), by simp⟩))
  have kA := Lib.hid (k0.out _ rfl)
  have kB := Lib.hid (show overlay (zerosB (L + n)) 0 B = B ++ zerosB n by have h := overlay_zero B n; rw [hlen.out] at h; exact h)
  clear hN hg' hb'
  go_wp2_with (refine copyB rfl _ _ 101 101 rfl 5 Tryz.underlying101 (by kernel_rfl) w1.heap.size 0 (L + n) (L + n) rfl _ rfl B (kA.out.1) (zerosB (L + n)) 5 (kA.out.2.1) (by rw [hlen.out]; omega) (by rw [hlen.out, zerosB_length]; omega) ?_)
  intro w2 hw2
  have r0 := Lib.hid (show w2.heap[w1.heap.size]? = some (.cells (u8s (B ++ zerosB n)) 5 (0, 0)) by rw [hw2.out, kB.out]; exact setRow_heap _ _ _ _ _ _ kA.out.2.1)
  have r1 := Lib.hid (show w2.heap[w1.heap.size + 1]? = some (.cells #[.slice (some ⟨w1.heap.size, 0, none⟩) (L + n) (L + n)] 101 (0, 0)) by rw [hw2.out]; exact (setRow_other _ _ _ _ (by omega)).trans kA.out.2.2.1)
  have r2 := Lib.hid (show Below w.heap.size w w2 by rw [hw2.out]; exact below_setRow' kA.out.2.2.2.1 hz _)
  have r3 := Lib.hid (show w2.heap.size = w1.heap.size + 2 by rw [hw2.out]; simp only [World.setRow, Array.size_modify]; exact kA.out.2.2.2.2)
  have r4 := Lib.hid (show (w2.alloc (.cells #[.int .i64 (L : Int)] 3)).cell? ⟨w1.heap.size + 1, 0, none⟩ = some (.slice (some ⟨w1.heap.size, 0, none⟩) (L + n) (L + n)) by
    rw [cell_of_row _ _ _ _ _ _ ((hp1 _ _ _ (by rw [r3.out]; omega)).trans r1.out)]; rfl)
  have r5 := Lib.hid hlen.out
  clear hw2 kA kB k0
  refine Stop.go ?_
  rw [hlen.out]
  have r6 := r4.out
  clear r4
  go_wp2
  go_ret2
  refine ⟨w1.heap.size, ?_, hz, ?_, ?_, ?_, ?_⟩
  · rw [r3.out]; rfl
  · exact (hp1 _ _ _ (by rw [r3.out]; omega)).trans r0.out
  · exact (hp1 _ _ _ (by rw [r3.out]; omega)).trans r1.out
  · have h := heap_alloc_new w2 (.cells #[.int .i64 (L : Int)] 3)
    rw [r3.out] at h
    exact h
  · exact r2.out.alloc r2.out.size _
/-- The bytes of a string. -/
def textB (l : List Int) : List Int := numB l.length ++ l
theorem textB_length (l : List Int) : (textB l).length = numL l.length + l.length := by rw [textB, List.length_append, numB_length]
theorem overlay_end (h r : List Int) : overlay (h ++ zerosB r.length) h.length r = h ++ r := by
  unfold overlay
  rw [List.take_left' rfl, List.drop_eq_nil_of_le (by rw [List.length_append, zerosB_length]; omega), List.append_nil]
theorem bytes_any (sv : Value) (l : List Int) (w : World) (hr : RdB w sv l) (hl : l.length ≤ 10000) :
    Calls Tryz.prog 129 #[sv] w fun e w' => ∃ g, e = .returned (.tuple #[.slice (some ⟨g, 0, none⟩) (textB l).length (textB l).length, .int .i64 0]) ∧ w.heap.size ≤ g ∧ w'.heap[g]? = some (.cells (u8s (textB l)) 5 (0, 0)) ∧ Below w.heap.size w w' := by
  have hc := Lib.hid (counted_any l.length l.length (by omega) (by omega) w)
  have hL9 := numL_le l.length (by omega)
  have hpt := Lib.hid (fun (g : Nat) (w1 : World) (hg : w.heap.size ≤ g) (hB : Below w.heap.size w w1) h1 h2 h3 => put_any g (numL l.length) (numL l.length + l.length) (numB l.length ++ zerosB l.length) sv l w1 (by rw [List.length_append, numB_length, zerosB_length]) h1 h2 h3 (hr.mono hB) (Nat.le_refl _) (by omega))
  have hov := Lib.hid (show overlay (numB l.length ++ zerosB l.length) (numL l.length) l = textB l by have h := overlay_end (numB l.length) l; rw [numB_length] at h; exact h)
  rw [textB_length]
  obtain ⟨a, c, rfl⟩ := hr.slice
  clear hr
  generalize textB l = TB at *
  generalize numB l.length ++ zerosB l.length = B0 at *
  generalize numL l.length = L at *
  generalize l.length = n at *
  go_enter Tryz.func129, Tryz.ntmps129
  go_wp2_with (go_at_call 171; (with_reducible refine (hc.out).mono ?_); rintro e w1 ⟨g, rfl, hg, h1, h2, h3, hb⟩; have hp := Lib.hid (hpt.out g w1 hg hb h1 h2 h3); have hb' := Lib.hid hb; clear h1 h2 h3 hb)
  go_wp2_with (go_at_call 200; (with_reducible refine (hp.out).mono ?_); rintro e w2 ⟨⟨v, rfl⟩, r0, r1, r2, hb2⟩; have r0' := Lib.hid r0; have hb2' := Lib.hid hb2; clear r0 r1 r2 hb2)
  go_ret2
  exact ⟨g, rfl, hg, by rw [← hov.out]; exact r0'.out, hb'.out.trans (hb2'.out.mono hg)⟩
end Go.Proofs.YtlbgffhipondiaaGreatDoor.wir
namespace Go.Proofs.YtlbgffhipondiaaGreatDoor.wir
open Go.RowKit Go.YtlbgffhipondiaaGreatDoor
set_option linter.unusedVariables false
end Go.Proofs.YtlbgffhipondiaaGreatDoor.wir
namespace Go
namespace YtlbgffhipondiaaGreatDoor
section
variable {P : Program} {ops : Array Oper} {md : Region.Mode} {Q : Exit → Act → World → Prop}
end
end YtlbgffhipondiaaGreatDoor
end Go
namespace Go.Proofs.YtlbgffhipondiaaGreatDoor.wir
open Go.RowKit Go.YtlbgffhipondiaaGreatDoor
set_option linter.unusedVariables false
theorem own_slice {base : Nat} {E : TypeId} {w : World} {v : Value} {l : List Int} (h : OwnB base E w v l) (k : Nat) (hk : l.length = k) : ∃ a c, v = .slice a k c := by
  obtain ⟨a, c, rfl⟩ := h.rd.slice
  exact ⟨a, c, by rw [hk]⟩
end Go.Proofs.YtlbgffhipondiaaGreatDoor.wir
namespace Go.Proofs
open Go.Shelf
open Go.RowKit in
def Tryz.lays25_ren : Go.Shelf.Ren := ⟨fun | 25 => 163 | n => n, fun | 0 => 0 | 3 => 3 | 4 => 4 | 5 => 5 | 9 => 9 | 37 => 101 | 47 => 216 | n => n, fun | n => n⟩
theorem Tryz.lays25 : Go.Proofs.LaysPu.n25 Tryz.prog Tryz.lays25_ren := {
  mixed := by kernel_rfl
  f25 := Tryz.func163.trans (congrArg some (by kernel_rfl))
  t0 := Tryz.underlying0
  a0 := Tryz.isAgg0
  z0 := Tryz.sizeOf0
  v0 := Tryz.zeroValue0
  i0 := by kernel_rfl
  t3 := Tryz.underlying3
  a3 := Tryz.isAgg3
  z3 := Tryz.sizeOf3
  v3 := Tryz.zeroValue3
  i3 := by kernel_rfl
  t4 := Tryz.underlying4
  a4 := Tryz.isAgg4
  z4 := Tryz.sizeOf4
  v4 := Tryz.zeroValue4
  i4 := by kernel_rfl
  t5 := Tryz.underlying5
  a5 := Tryz.isAgg5
  z5 := Tryz.sizeOf5
  v5 := Tryz.zeroValue5
  i5 := by kernel_rfl
  t9 := Tryz.underlying9
  a9 := Tryz.isAgg9
  z9 := Tryz.sizeOf9
  v9 := Tryz.zeroValue9
  i9 := by kernel_rfl
  t37 := Tryz.underlying101
  a37 := Tryz.isAgg101
  z37 := Tryz.sizeOf101
  v37 := Tryz.zeroValue101
  i37 := by kernel_rfl
  t47 := Tryz.underlying216
  a47 := Tryz.isAgg216
  z47 := Tryz.sizeOf216
  v47 := Tryz.zeroValue216
  i47 := by kernel_rfl }
open Go.RowKit in
theorem Tryz.stringslite_Clone (s : ByteArray) (w : World) (h : s.size ≤ 281474976710656) :
    Calls Tryz.prog 163 #[.string s] w fun e w' => e = .returned (.string s) ∧ Below w.heap.size w w' := AnyPu.stringslite_Clone Tryz.lays25 s w h
end Go.Proofs
namespace Go.Proofs.YtlbgffhipondiaaGreatDoor.wir.val
open Go.RowKit Go.YtlbgffhipondiaaGreatDoor
set_option linter.unusedVariables false
def spX (b : Nat) : Nat := b / 4503599627370496 % 2048
def spF (b : Nat) : Nat := b % 4503599627370496
def clsF (b : Nat) : Nat := if spX b = 0 ∧ spF b = 0 then 1 else if spX b = 0 then 2 else if spX b = 2047 ∧ spF b = 0 then 4 else if spX b = 2047 then 5 else 3
def canF (b : Nat) : Nat := if clsF b = 5 then 9221120237041090560 else b
theorem spX_lt (b : Nat) : spX b < 2048 := Nat.mod_lt _ (by omega)
theorem bits_and_nat (a b : Nat) (ha : a < 18446744073709551616) (hb : b < 18446744073709551616) : bits .and .u64 (a : Int) (b : Int) = ((a &&& b : Nat) : Int) := by
  have hx : a &&& b < 2 ^ 64 := Nat.and_lt_two_pow _ (by omega)
  have h1 : (BitVec.ofInt 64 (a : Int)).toNat = a := by
    rw [BitVec.ofInt_natCast, BitVec.toNat_ofNat]; exact Nat.mod_eq_of_lt (by omega)
  have h2 : (BitVec.ofInt 64 (b : Int)).toNat = b := by
    rw [BitVec.ofInt_natCast, BitVec.toNat_ofNat]; exact Nat.mod_eq_of_lt (by omega)
  show IntKind.u64.wrap ((BitVec.ofInt 64 (a : Int) &&& BitVec.ofInt 64 (b : Int)).toNat : Int) = _
  rw [BitVec.toNat_and, h1, h2, IntKind.wrap_u64]
  omega
theorem and_2047 (a : Nat) (ha : a < 18446744073709551616) : bits .and .u64 (a : Int) 2047 = ((a % 2048 : Nat) : Int) := by
  have h := bits_and_nat a 2047 ha (by omega)
  rw [show (2047 : Nat) = 2 ^ 11 - 1 by decide, Nat.and_two_pow_sub_one_eq_mod] at h
  exact h
theorem and_F (a : Nat) (ha : a < 18446744073709551616) : bits .and .u64 (a : Int) 4503599627370495 = ((a % 4503599627370496 : Nat) : Int) := by
  have h := bits_and_nat a 4503599627370495 ha (by omega)
  rw [show (4503599627370495 : Nat) = 2 ^ 52 - 1 by decide, Nat.and_two_pow_sub_one_eq_mod] at h
  exact h
end Go.Proofs.YtlbgffhipondiaaGreatDoor.wir.val
namespace Go.Proofs.YtlbgffhipondiaaGreatDoor.wir.val
open Go.RowKit Go.YtlbgffhipondiaaGreatDoor
set_option linter.unusedVariables false
theorem split_any (b : Nat) (hb : b < 18446744073709551616) (w : World) :
    Calls Tryz.prog 253 #[.int .u64 (b : Int)] w fun e w' => e = .returned (.tuple #[.int .u64 (spX b : Nat), .int .u64 (spF b : Nat)]) ∧ w = w' := by
  have h1 := and_2047 (b / 4503599627370496) (by omega)
  have h2 := and_F b hb
  rw [show ((b / 4503599627370496 : Nat) : Int) = (b : Int) / 4503599627370496 from by omega] at h1
  go_enter Tryz.func253, Tryz.ntmps253
  go_wp2
  go_ret2
  exact ⟨by simp [spX, spF], rfl⟩
theorem class_any (b : Nat) (hb : b < 18446744073709551616) (w : World) :
    Calls Tryz.prog 249 #[.int .u64 (b : Int)] w fun e w' => e = .returned (.int .u8 (clsF b : Nat)) ∧ w = w' := by
  have hs := Lib.hid (fun w => split_any b hb w)
  have hX := spX_lt b
  unfold clsF
  generalize spX b = X at *
  generalize spF b = F at *
  generalize hC : (if X = 0 ∧ F = 0 then 1 else if X = 0 then 2 else if X = 2047 ∧ F = 0 then 4 else if X = 2047 then 5 else 3) = C
  have hC' := Lib.hid hC
  clear hb hC
  go_enter Tryz.func249, Tryz.ntmps249
  go_wp2_with (go_at_call 253; (with_reducible refine (hs.out _).mono ?_); rintro e w' ⟨rfl, rfl⟩)
  all_goals
    go_ret
    refine ⟨ret_int ?_, rfl⟩
    have hC := hC'.out
    clear hC' hs
    try simp only [beq_iff_eq, beq_eq_false_iff_ne] at *
    (repeat' split at hC) <;> omega
theorem canon_any (b : Nat) (hb : b < 18446744073709551616) (w : World) :
    Calls Tryz.prog 232 #[.int .u64 (b : Int)] w fun e w' => e = .returned (.int .u64 (canF b : Nat)) ∧ w = w' := by
  have hs := Lib.hid (fun w => class_any b hb w)
  unfold canF
  generalize clsF b = X at *
  generalize hC : (if X = 5 then 9221120237041090560 else b) = C
  have hC' := Lib.hid hC
  clear hb hC
  go_enter Tryz.func232, Tryz.ntmps232
  go_wp2_with (go_at_call 249; (with_reducible refine (hs.out _).mono ?_); rintro e w' ⟨rfl, rfl⟩)
  all_goals
    go_ret
    refine ⟨ret_int ?_, rfl⟩
    have hC := hC'.out
    clear hC' hs
    try simp only [beq_iff_eq, beq_eq_false_iff_ne] at *
    (repeat' split at hC) <;> omega
theorem storeNew {P : Program} {ops : Array Oper} {rest : List Oper} {o : Oper} {a : Act} {Q : Exit → Act → World → Prop} {old : Array Value} (w1 : World) (hgd : o.guard = none) (ty : TypeId) (x y : Operand) (ho : o.op = .store ty x y)
    (cells : Array Value) (t : TypeId) (hx : a.eval x = .pointer (some ⟨w1.heap.size, 0, none⟩)) (hy : a.eval y = .agg cells)
    (hi : (P.info? ty).map (·.size) = some cells.size) (hold : old.size = cells.size) (h1 : cells.all (·.oneCell') = true)
    (h : ∀ wx, wx.heap[w1.heap.size]? = some (.cells cells t (0, 0)) → Below w1.heap.size w1 wx → wpList P ops Q rest (a.put o.dst undef) wx) :
    wpList P ops Q (o :: rest) a (w1.alloc (.cells old t)) := by
  have hg := heap_alloc_new w1 (.cells old t)
  refine wpList_store_row hgd ty x y ho w1.heap.size cells hx hy t old hg hi hold h1 (h _ (setRow_heap _ _ _ _ _ _ hg) ?_)
  exact below_setRow' ((Below.refl _ _).alloc (Nat.le_refl _) _) (Nat.le_refl _) _
abbrev vA (k n : Int) (b : Nat) (s : ByteArray) : Value := .agg #[.int .u8 k, .int .i64 n, .int .u64 (b : Int), .string s]
theorem val_one (k n b : Int) (s : ByteArray) : (#[Value.int .u8 k, .int .i64 n, .int .u64 b, .string s] : Array Value).all (·.oneCell') = true := by simp [Value.oneCell']
theorem info_val : (Tryz.prog.info? 29).map (·.size) = some 4 := by kernel_rfl
/-- A row in a later world. -/
theorem rowB {B : Nat} {w w' : World} {g : Nat} {b : Obj} (h : w.heap[g]? = some b) (hb : Below B w w') (hg : g < B) : w'.heap[g]? = some b := by
  rw [hb.block g hg]; exact h
theorem quiet_cell {P : Program} {C : World → Prop} {o : Oper} {a : Act} (ty : TypeId) (x : Operand) (ho : o.op = .load ty x) (g k : Nat) (hx : a.eval x = .pointer (some ⟨g, k, none⟩)) (v : Value)
    (hC : ∀ w, C w → w.cell? ⟨g, k, none⟩ = some v) (hu : ∀ w, (isAgg ty).run P w = .ok false w) : ∀ w, C w → o.quietAt P a C w v := by
  intro w hw
  have hc := hC w hw
  unfold Oper.quietAt execOp
  generalize a.eval = ev at *
  simp only [ho]
  simp [go_sem, hx, hu, hc]
set_option maxRecDepth 100000 in
theorem number_val (n : Int) (w : World) :
    Calls Tryz.prog 201 #[.int .i64 n] w fun e w' => e = .returned (vA 1 n 0 ⟨#[]⟩) ∧ Below w.heap.size w w' := by
  go_enter Tryz.func201, Tryz.ntmps201
  go_wp2
  exact bodyPost_ret (results_cell_row rfl _ _ w.heap.size 29 _ _ _ rfl (heap_alloc_new w _) Tryz.underlying29 rfl info_val) rfl ⟨rfl, (Below.refl _ _).alloc (Nat.le_refl _) _⟩
set_option maxRecDepth 100000 in
theorem float_val (b : Nat) (hb : b < 18446744073709551616) (w : World) :
    Calls Tryz.prog 202 #[.int .u64 (b : Int)] w fun e w' => e = .returned (vA 2 0 (canF b) ⟨#[]⟩) ∧ Below w.heap.size w w' := by
  have hs := Lib.hid (fun w => canon_any b hb w)
  generalize canF b = C at *
  clear hb
  go_enter Tryz.func202, Tryz.ntmps202
  go_wp2_with (go_at_call 232; (with_reducible refine (hs.out _).mono ?_); rintro e w' ⟨rfl, rfl⟩)
  exact bodyPost_ret (results_cell_row rfl _ _ w.heap.size 29 _ _ _ rfl (heap_alloc_new w _) Tryz.underlying29 rfl info_val) rfl ⟨rfl, (Below.refl _ _).alloc (Nat.le_refl _) _⟩
/-- The bytes of a string. -/
def sI (s : ByteArray) : List Int := s.data.toList.map fun c => (c.toNat : Int)
theorem sI_length (s : ByteArray) : (sI s).length = s.size := by unfold sI; rw [List.length_map]; rfl
theorem sI_get (s : ByteArray) (i : Nat) (h : i < s.size) : ((s[i].toNat : Nat) : Int) = ith (sI s) i := by
  obtain ⟨⟨l⟩⟩ := s
  have hl : i < l.length := h
  simp only [sI, ith]
  rw [List.getElem?_map, List.getElem?_eq_getElem hl]
  rfl
def okB (l : List Int) : Bool := l.all fun c => decide (32 ≤ c) && decide (c ≤ 126)
theorem okB_step (l : List Int) (k : Nat) (h : okB (l.take k) = true) (hk : k < l.length) (h1 : 32 ≤ ith l k) (h2 : ith l k ≤ 126) : okB (l.take (k + 1)) = true := by
  rw [take_succ_ith l k hk]
  unfold okB at *
  rw [List.all_append, h]
  simp [h1, h2]
theorem okB_not (l : List Int) (k : Nat) (hk : k < l.length) (h : ith l k < 32 ∨ 126 < ith l k) : okB l = false := by
  unfold okB
  rw [List.all_eq_false]
  refine ⟨ith l k, ?_, ?_⟩
  · unfold ith
    rw [List.getElem?_eq_getElem hk]
    exact List.getElem_mem hk
  · simp; omega
def intOf : Value → Int
  | .int _ n => n
  | _ => 0
theorem allowed_any (s : ByteArray) (hs : s.size ≤ 1000000) (w : World) :
    Calls Tryz.prog 233 #[.string s] w fun e w' => e = .returned (.bool (okB (sI s))) ∧ w = w' := by
  have hi := Lib.hid (sI_get s)
  have hl := sI_length s
  generalize hL : sI s = L at *
  clear hL
  go_enter Tryz.func233, Tryz.ntmps233
  go_wp2
  go_loop [6] (fun i => ∃ k : Nat, k ≤ s.size ∧ i = .int .i64 (k : Int) ∧ okB (L.take k) = true) (fun i => s.size - (intOf i).toNat)
  case atStart => exact ⟨0, Nat.zero_le _, rfl, rfl⟩
  case round =>
    obtain ⟨k, hk, rfl, ho⟩ := hrel
    by_cases hlt : k < s.size
    · have hc := hi.out k hlt
      go_wp2
      case roundEnd => exact ⟨⟨k + 1, by omega, rfl, okB_step L k ho (by omega) (by omega) (by omega)⟩, by simp [intOf]; omega⟩
      all_goals
        go_ret
        exact ⟨ret_bool (okB_not L k (by omega) (by omega)).symm, rfl⟩
    · obtain rfl : k = s.size := by omega
      have ho' : okB L = true := by rw [← hl, List.take_length] at ho; exact ho
      clear hk hlt ho hi
      go_wp2
      go_ret
      first | exact ⟨rfl, rfl⟩ | exact ⟨ret_bool ho'.symm, rfl⟩
theorem printable_any (s : ByteArray) (hs : s.size ≤ 1000000) (w : World) :
    Calls Tryz.prog 235 #[.string s] w fun e w' => e = .returned (.bool (okB (sI s))) ∧ w = w' := by
  have hi := Lib.hid (sI_get s)
  have hl := sI_length s
  generalize hL : sI s = L at *
  clear hL
  go_enter Tryz.func235, Tryz.ntmps235
  go_wp2
  go_loop [3] (fun i => ∃ k : Nat, k ≤ s.size ∧ i = .int .i64 (k : Int) ∧ okB (L.take k) = true) (fun i => s.size - (intOf i).toNat)
  case atStart => exact ⟨0, Nat.zero_le _, rfl, rfl⟩
  case round =>
    obtain ⟨k, hk, rfl, ho⟩ := hrel
    by_cases hlt : k < s.size
    · have hc := hi.out k hlt
      go_wp2
      case roundEnd => exact ⟨⟨k + 1, by omega, rfl, okB_step L k ho (by omega) (by omega) (by omega)⟩, by simp [intOf]; omega⟩
      all_goals
        go_ret
        exact ⟨ret_bool (okB_not L k (by omega) (by omega)).symm, rfl⟩
    · obtain rfl : k = s.size := by omega
      have ho' : okB L = true := by rw [← hl, List.take_length] at ho; exact ho
      clear hk hlt ho hi
      go_wp2
      go_ret
      first | exact ⟨rfl, rfl⟩ | exact ⟨ret_bool ho'.symm, rfl⟩
theorem clone_any (s : ByteArray) (hs : s.size ≤ 1000000) (w : World) :
    Calls Tryz.prog 120 #[.string s] w fun e w' => e = .returned (.string s) ∧ Below w.heap.size w w' := by
  have hc := Lib.hid (fun w => Tryz.stringslite_Clone s w (by omega))
  clear hs
  go_enter Tryz.func120, Tryz.ntmps120
  go_wp2_with (go_at_call 163; (with_reducible refine (hc.out _).mono ?_); rintro e w' ⟨rfl, hb⟩; have hb' := Lib.hid hb; clear hb)
  go_ret
  exact ⟨rfl, hb'.out⟩
/-- What Text answers. -/
def txtE (s : ByteArray) : Int := if 30 < s.size then 4 else if okB (sI s) = true then 0 else 8
def txtV (s : ByteArray) : Value := if txtE s = 0 then vA 3 0 0 s else vA 0 0 0 ⟨#[]⟩
theorem storeOver {P : Program} {ops : Array Oper} {rest : List Oper} {o : Oper} {a : Act} {Q : Exit → Act → World → Prop} (w : World) (g : Nat) (old : Array Value) (hgd : o.guard = none) (ty : TypeId) (x y : Operand) (ho : o.op = .store ty x y)
    (cells : Array Value) (t : TypeId) (hg : w.heap[g]? = some (.cells old t (0, 0))) (hx : a.eval x = .pointer (some ⟨g, 0, none⟩)) (hy : a.eval y = .agg cells)
    (hi : (P.info? ty).map (·.size) = some cells.size) (hold : old.size = cells.size) (h1 : cells.all (·.oneCell') = true)
    (h : ∀ wx, wx.heap[g]? = some (.cells cells t (0, 0)) → Below g w wx → wpList P ops Q rest (a.put o.dst undef) wx) :
    wpList P ops Q (o :: rest) a w := by
  refine wpList_store_row hgd ty x y ho g cells hx hy t old hg hi hold h1 (h _ (setRow_heap _ _ _ _ _ _ hg) ?_)
  exact below_setRow' (Below.refl _ _) (Nat.le_refl _) _
set_option maxRecDepth 100000 in
theorem text_any (s : ByteArray) (hs : s.size ≤ 1000000) (w : World) :
    Calls Tryz.prog 203 #[.string s] w fun e w' => e = .returned (.tuple #[txtV s, .int .i64 (txtE s)]) ∧ Below w.heap.size w w' := by
  have hA := Lib.hid (fun w => allowed_any s hs w)
  have hc := Lib.hid (fun w => clone_any s hs w)
  by_cases h1 : 30 < s.size
  · have e : txtE s = 4 := by unfold txtE; rw [if_pos h1]
    rw [txtV, e, if_neg (by decide)]
    clear hA hc e
    go_enter Tryz.func203, Tryz.ntmps203
    go_wp2
    exact bodyPost_ret (results_row_tmp rfl _ _ w.heap.size 29 _ _ _ rfl (heap_alloc_new w _) Tryz.underlying29 rfl info_val) rfl ⟨rfl, (Below.refl _ _).alloc (Nat.le_refl _) _⟩
  cases ho : okB (sI s)
  · have e : txtE s = 8 := by unfold txtE; rw [if_neg h1, ho]; rfl
    rw [ho] at hA
    rw [txtV, e, if_neg (by decide)]
    clear hc e ho
    go_enter Tryz.func203, Tryz.ntmps203
    go_wp2_with (go_at_call 233; (with_reducible refine (hA.out _).mono ?_); rintro e w' ⟨rfl, rfl⟩)
    exact bodyPost_ret (results_row_tmp rfl _ _ w.heap.size 29 _ _ _ rfl (heap_alloc_new w _) Tryz.underlying29 rfl info_val) rfl ⟨rfl, (Below.refl _ _).alloc (Nat.le_refl _) _⟩
  · have e : txtE s = 0 := by unfold txtE; rw [if_neg h1, ho]; rfl
    rw [ho] at hA
    rw [txtV, e, if_pos rfl]
    clear e ho
    have hrow := Lib.hid (heap_alloc_new w (.cells #[.int .u8 0, .int .i64 0, .int .u64 0, .string ⟨#[]⟩] 29))
    go_enter Tryz.func203, Tryz.ntmps203
    go_wp2_with (first | (go_at_call 233; (with_reducible refine (hA.out _).mono ?_); rintro e w' ⟨rfl, rfl⟩) | (go_at_call 120; (with_reducible refine (hc.out _).mono ?_); rintro e w1 ⟨rfl, hb⟩; have hr1 := rowB hrow.out hb (by simp); have hr1' := Lib.hid hr1; have hb' := Lib.hid hb; clear hb hr1) | (refine storeOver w1 w.heap.size _ rfl 29 _ _ rfl #[.int .u8 3, .int .i64 0, .int .u64 0, .string s] 29 hr1'.out rfl rfl info_val rfl (val_one _ _ _ _) ?_; intro w2 hr2 hb2; have hr2' := Lib.hid hr2; have hb2' := Lib.hid hb2; clear hr2 hb2))
    exact bodyPost_ret (results_row_tmp rfl _ _ w.heap.size 29 _ _ _ rfl hr2'.out Tryz.underlying29 rfl info_val) rfl ⟨rfl, (((Below.refl _ _).alloc (Nat.le_refl _) _).trans (hb'.out.mono (by simp))).trans hb2'.out⟩
set_option maxRecDepth 100000 in
theorem rexp_any (b : Nat) (hb : b < 18446744073709551616) (w : World) :
    Calls Tryz.prog 254 #[.int .u64 (b : Int)] w fun e w' => e = .returned (.int .i64 (spX b : Nat)) ∧ w = w' := by
  have e : (spX b : Int) = (b : Int) % 9223372036854775808 / 4503599627370496 := by unfold spX; omega
  have e' := Lib.hid e
  clear e hb
  go_enter Tryz.func254, Tryz.ntmps254
  go_wp2
  go_ret
  exact ⟨ret_int (by rw [e'.out]), rfl⟩
set_option maxRecDepth 100000 in
theorem rfrac_any (b : Nat) (hb : b < 18446744073709551616) (w : World) :
    Calls Tryz.prog 255 #[.int .u64 (b : Int)] w fun e w' => e = .returned (.int .u64 (spF b : Nat)) ∧ w = w' := by
  have e : (spF b : Int) = (b : Int) % 4503599627370496 := by unfold spF; omega
  have e' := Lib.hid e
  clear e hb
  go_enter Tryz.func255, Tryz.ntmps255
  go_wp2
  go_ret
  exact ⟨ret_int (by rw [e'.out]), rfl⟩
set_option maxRecDepth 100000 in
theorem rclass_any (b : Nat) (hb : b < 18446744073709551616) (w : World) :
    Calls Tryz.prog 250 #[.int .u64 (b : Int)] w fun e w' => e = .returned (.int .u8 (clsF b : Nat)) ∧ w = w' := by
  have hs := Lib.hid (fun w => rexp_any b hb w)
  have hs2 := Lib.hid (fun w => rfrac_any b hb w)
  have hX := spX_lt b
  unfold clsF
  generalize spX b = X at *
  generalize spF b = F at *
  generalize hC : (if X = 0 ∧ F = 0 then 1 else if X = 0 then 2 else if X = 2047 ∧ F = 0 then 4 else if X = 2047 then 5 else 3) = C
  have hC' := Lib.hid hC
  have hX' := Lib.hid hX
  clear hb hC hX
  go_enter Tryz.func250, Tryz.ntmps250
  go_wp2_with (first | (go_at_call 254; (with_reducible refine (hs.out _).mono ?_); rintro e w' ⟨rfl, rfl⟩) | (go_at_call 255; (with_reducible refine (hs2.out _).mono ?_); rintro e w' ⟨rfl, rfl⟩))
  all_goals
    go_ret
    refine ⟨ret_int ?_, rfl⟩
    have hC := hC'.out
    have hX := hX'.out
    clear hX' hC' hs hs2
    try simp only [beq_iff_eq, beq_eq_false_iff_ne] at *
    (repeat' split at hC) <;> omega
theorem rcanon_any (b : Nat) (hb : b < 18446744073709551616) (w : World) :
    Calls Tryz.prog 234 #[.int .u64 (b : Int)] w fun e w' => e = .returned (.int .u64 (canF b : Nat)) ∧ w = w' := by
  have hs := Lib.hid (fun w => rclass_any b hb w)
  unfold canF
  generalize clsF b = X at *
  generalize hC : (if X = 5 then 9221120237041090560 else b) = C
  have hC' := Lib.hid hC
  clear hb hC
  go_enter Tryz.func234, Tryz.ntmps234
  go_wp2_with (go_at_call 250; (with_reducible refine (hs.out _).mono ?_); rintro e w' ⟨rfl, rfl⟩)
  all_goals
    go_ret
    refine ⟨ret_int ?_, rfl⟩
    have hC := hC'.out
    clear hC' hs
    try simp only [beq_iff_eq, beq_eq_false_iff_ne] at *
    (repeat' split at hC) <;> omega
end Go.Proofs.YtlbgffhipondiaaGreatDoor.wir.val
namespace Go.Proofs.YtlbgffhipondiaaGreatDoor.wir.val
open Go.RowKit Go.YtlbgffhipondiaaGreatDoor
set_option linter.unusedVariables false
def validV (k n : Int) (b : Nat) (s : ByteArray) : Bool :=
  if k = 1 then decide (b = 0) && decide (s.size = 0) else if k = 2 then decide (n = 0) && (decide (canF b = b) && decide (s.size = 0)) else if k = 3 then decide (n = 0) && (decide (b = 0) && (decide (s.size ≤ 30) && okB (sI s))) else false
abbrev vC (k n : Int) (b : Nat) (s : ByteArray) : Array Value := #[.int .u8 k, .int .i64 n, .int .u64 (b : Int), .string s]
theorem cellsV {w : World} {g : Nat} {k n : Int} {b : Nat} {s : ByteArray} (h : w.heap[g]? = some (.cells (vC k n b s) 29 (0, 0))) :
    w.cell? ⟨g, 0, none⟩ = some (.int .u8 k) ∧ w.cell? ⟨g, 1, none⟩ = some (.int .i64 n) ∧ w.cell? ⟨g, 2, none⟩ = some (.int .u64 (b : Int)) ∧ w.cell? ⟨g, 3, none⟩ = some (.string s) :=
  ⟨cell_of_row _ _ _ _ _ _ h, cell_of_row _ _ _ _ _ _ h, cell_of_row _ _ _ _ _ _ h, cell_of_row _ _ _ _ _ _ h⟩
theorem str_empty (s : ByteArray) : (s.toList == ([] : List UInt8)) = decide (s.size = 0) := by
  rw [ByteArray.toList_eq]
  obtain ⟨⟨l⟩⟩ := s
  cases l <;> rfl
theorem bytes_eq (s t : ByteArray) : (s.toList == t.toList) = decide (s = t) := by
  rw [ByteArray.toList_eq, ByteArray.toList_eq]
  obtain ⟨⟨l⟩⟩ := s
  obtain ⟨⟨m⟩⟩ := t
  simp only [ByteArray.mk.injEq, Array.mk.injEq]
  exact Bool.eq_iff_iff.2 (by simp)
def eqB (k n : Int) (b : Nat) (s : ByteArray) (k' n' : Int) (b' : Nat) (s' : ByteArray) : Bool := decide (k = k') && (decide (n = n') && (decide (b = b') && decide (s = s')))
set_option maxRecDepth 100000 in
theorem eqlV (k n : Int) (b : Nat) (s : ByteArray) (k' n' : Int) (b' : Nat) (s' : ByteArray) (w : World) :
    (binOp .eql 29 (vA k n b s) (vA k' n' b' s')).run Tryz.prog w = .ok (.bool (eqB k n b s k' n' b' s')) w := by
  rw [run_eql_struct]
  have h0 : Tryz.prog.underlying 29 = some (.struct (Tryz.prog.fieldsOf 29)) := by kernel_rfl
  have h1 : Tryz.prog.stoodInHeld 29 = false := by kernel_rfl
  rw [run_equalIn_agg _ _ _ _ _ h0 h1]
  have hb := bytes_eq s s'
  simp [go_sem, hb]
  clear hb h0 h1
  unfold eqB
  split
  · split
    · split
      · split <;> first | (simp_all; done) | (have := ‹(b : Int) = (b' : Int)›; simp_all; done) | (simp_all; omega)
      · simp_all <;> omega
    · simp_all
  · simp_all
theorem qa_eqlV {ops : Array Oper} {C : World → Prop} {a : Act} {o : Oper} (x y : Operand) (k n : Int) (b : Nat) (s : ByteArray) (k' n' : Int) (b' : Nat) (s' : ByteArray) (B : Bool) (ho : o.op = .binOp .eql 29 x y 29)
    (hx : a.eval x = vA k n b s) (hy : a.eval y = vA k' n' b' s') (h : eqB k n b s k' n' b' s' = B) : ∀ w, C w → o.quietAt Tryz.prog a C w (.bool B) := by
  intro w _; subst h; refine qa_ok ?_
  have h0 : Tryz.prog.eqGuardType Tryz.prog.depth 29 = false := by kernel_rfl
  have hg := run_eqGuard_agg (P := Tryz.prog) w .eql 29 x y #[.int .u8 k, .int .i64 n, .int .u64 (b : Int), .string s] #[.int .u8 k', .int .i64 n', .int .u64 (b' : Int), .string s'] h0
  have he := eqlV k n b s k' n' b' s' w
  unfold execOp
  generalize a.eval = ev at *
  simp only [ho]
  simp only [hx, hy] at *
  have hb := bytes_eq s s'
  simp [go_sem, hb]
  clear hb h0 hx hy hg he ho
  unfold eqB
  split
  · split
    · split
      · split <;> first | (simp_all; done) | (have := ‹(b : Int) = (b' : Int)›; simp_all; done) | (simp_all; omega)
      · simp_all <;> omega
    · simp_all
  · simp_all
set_option maxRecDepth 100000 in
theorem valid_any (k n : Int) (b : Nat) (s : ByteArray) (hk : 0 ≤ k ∧ k < 256) (hb : b < 18446744073709551616) (hs : s.size ≤ 1000000) (w : World) :
    Calls Tryz.prog 172 #[vA k n b s] w fun e w' => e = .returned (.bool (validV k n b s)) ∧ Below w.heap.size w w' := by
  have hrow := Lib.hid (heap_alloc_new w (.cells (vC k n b s) 29))
  have hb1 := Lib.hid ((Below.refl w.heap.size w).alloc (Nat.le_refl _) (.cells (vC k n b s) 29))
  have hse := str_empty s
  by_cases h1 : k = 1
  · subst h1
    have e : validV 1 n b s = eqB 1 n b s 1 n 0 ⟨#[]⟩ := by
      unfold validV eqB
      rw [if_pos rfl, ← bytes_eq s ⟨#[]⟩, show (⟨#[]⟩ : ByteArray).toList = [] from by rw [ByteArray.toList_eq], hse]
      simp
    have e' := Lib.hid e
    have hN := Lib.hid (fun w => number_val n w)
    clear hb e hse
    clear hk hs
    go_enter Tryz.func172, Tryz.ntmps172
    go_upto_region 3 with fail
    have hg1 : w.heap.size < (w.alloc (.cells (vC 1 n b s) 29)).heap.size := by simp
    generalize hw1 : w.alloc (.cells (vC 1 n b s) 29) = w1 at *
    have hg1' := Lib.hid hg1
    clear hw1 hg1
    refine wp_region_quiet (C := fun w' => Below w1.heap.size w1 w') (by kernel_rfl) (by kernel_rfl) ((Below.refl _ _).drew) ?_
    simp only []
    repeat (first | (refine wpq _ rfl (quiet_row 29 _ rfl w.heap.size rfl 29 (vC 1 n b s) (0, 0) _ (fun w h => rowB hrow.out h hg1'.out) Tryz.underlying29 rfl info_val) rfl (fun K hK => ?_); go_simp; refine hK _ ?_; clear hK K)
                  | (refine wpq _ rfl (quiet_cell 2 _ rfl w.heap.size 1 rfl (.int .i64 n) (fun w h => (cellsV (rowB hrow.out h hg1'.out)).2.1) Tryz.isAgg2) rfl (fun K hK => ?_); go_simp; refine hK _ ?_; clear hK K)
                  | (refine wpq (vA 1 n 0 ⟨#[]⟩) rfl (qa_call1 (.int .i64 n) rfl Tryz.func201 (by kernel_rfl) rfl rfl rfl (fun w h => (hN.out w).mono fun e w' ⟨he, hb⟩ => ⟨he, h.trans (hb.mono h.size)⟩)) rfl (fun K hK => ?_); go_simp; refine hK _ ?_; clear hK K)
                  | (refine wpq (.bool (eqB 1 n b s 1 n 0 ⟨#[]⟩)) rfl (qa_eqlV (ops := #[]) _ _ 1 n b s 1 n 0 ⟨#[]⟩ _ rfl rfl rfl rfl) rfl (fun K hK => ?_); go_simp; refine hK _ ?_; clear hK K)
                  | (go_big_quiet_want; go_big_quiet_op; first | go_big_quiet_on | (refine ⟨_, fun _ _ => rfl, ?_⟩; go_big_quiet_on)))
    refine wpQuiet_nil ?_
    intro w2 h2
    have h2' := Lib.hid h2
    clear h2
    go_wp2
    go_ret
    exact ⟨ret_bool e'.out.symm, hb1.out.trans (h2'.out.mono (Nat.le_of_lt hg1'.out))⟩
  by_cases h2 : k = 2
  · subst h2
    have e : validV 2 n b s = eqB 2 n b s 2 0 (canF b) ⟨#[]⟩ := by
      unfold validV eqB
      rw [if_neg (by decide), if_pos rfl, ← bytes_eq s ⟨#[]⟩, show (⟨#[]⟩ : ByteArray).toList = [] from by rw [ByteArray.toList_eq], hse, show decide (b = canF b) = decide (canF b = b) from Bool.eq_iff_iff.2 (by simp; exact eq_comm)]
      simp
    have e' := Lib.hid e
    have hN := Lib.hid (fun w => float_val b hb w)
    generalize canF b = D at *
    clear hb e hse h1
    clear hk hs
    go_enter Tryz.func172, Tryz.ntmps172
    go_upto_region 5 with fail
    have hg1 : w.heap.size < (w.alloc (.cells (vC 2 n b s) 29)).heap.size := by simp
    generalize hw1 : w.alloc (.cells (vC 2 n b s) 29) = w1 at *
    have hg1' := Lib.hid hg1
    clear hw1 hg1
    refine wp_region_quiet (C := fun w' => Below w1.heap.size w1 w') (by kernel_rfl) (by kernel_rfl) ((Below.refl _ _).drew) ?_
    simp only []
    repeat (first | (refine wpq _ rfl (quiet_row 29 _ rfl w.heap.size rfl 29 (vC 2 n b s) (0, 0) _ (fun w h => rowB hrow.out h hg1'.out) Tryz.underlying29 rfl info_val) rfl (fun K hK => ?_); go_simp; refine hK _ ?_; clear hK K)
                  | (refine wpq _ rfl (quiet_cell 27 _ rfl w.heap.size 2 rfl (.int .u64 (b : Int)) (fun w h => (cellsV (rowB hrow.out h hg1'.out)).2.2.1) Tryz.isAgg27) rfl (fun K hK => ?_); go_simp; refine hK _ ?_; clear hK K)
                  | (refine wpq (vA 2 0 D ⟨#[]⟩) rfl (qa_call1 (.int .u64 (b : Int)) rfl Tryz.func202 (by kernel_rfl) rfl rfl rfl (fun w h => (hN.out w).mono fun e w' ⟨he, hb⟩ => ⟨he, h.trans (hb.mono h.size)⟩)) rfl (fun K hK => ?_); go_simp; refine hK _ ?_; clear hK K)
                  | (refine wpq (.bool (eqB 2 n b s 2 0 D ⟨#[]⟩)) rfl (qa_eqlV (ops := #[]) _ _ 2 n b s 2 0 D ⟨#[]⟩ _ rfl rfl rfl rfl) rfl (fun K hK => ?_); go_simp; refine hK _ ?_; clear hK K)
                  | (go_big_quiet_want; go_big_quiet_op; first | go_big_quiet_on | (refine ⟨_, fun _ _ => rfl, ?_⟩; go_big_quiet_on)))
    refine wpQuiet_nil ?_
    intro w2 h2
    have h2' := Lib.hid h2
    clear h2
    go_wp2
    go_ret
    exact ⟨ret_bool e'.out.symm, hb1.out.trans (h2'.out.mono (Nat.le_of_lt hg1'.out))⟩
  by_cases h3 : k = 3
  · subst h3
    have hT := Lib.hid (fun w => text_any s hs w)
    have hz := Lib.hid (fun (w : World) => heap_alloc_new w (.cells (vC 3 n b s) 29))
    unfold txtV at hT
    by_cases ht : txtE s = 0
    · have e : validV 3 n b s = eqB 3 n b s 3 0 0 s := by
        unfold txtE at ht
        unfold validV eqB
        rw [if_neg (by decide), if_neg (by decide), if_pos rfl]
        have h1 : s.size ≤ 30 := by
          rcases Nat.lt_or_ge 30 s.size with h | h
          · rw [if_pos h] at ht; exact absurd ht (by decide)
          · exact h
        rw [if_neg (by omega)] at ht
        have h2 : okB (sI s) = true := by
          cases ho : okB (sI s)
          · rw [ho] at ht; exact absurd ht (by decide)
          · rfl
        simp [h1, h2]
      have e' := Lib.hid e
      rw [if_pos ht, ht] at hT
      clear hb hk hs e hse h1 h2 ht hb1
      go_enter Tryz.func172, Tryz.ntmps172
      go_wp2_with (first | (go_at_call 203; (with_reducible refine (hT.out _).mono ?_); rintro e w2 ⟨rfl, hb2⟩; have hr2 := Lib.hid (rowB hrow.out hb2 (by simp)); have hb2' := Lib.hid (((Below.refl w.heap.size w).alloc (Nat.le_refl _) _).trans (hb2.mono (by simp))); clear hb2; refine Stop.go'' _ ?_))
      refine StopP.go ?_
      clear hrow hz
      have hlt := Lib.hid (Array.getElem?_eq_some_iff.1 hr2.out).1
      have hrow3 := Lib.hid (heap_alloc_new w2 (.cells (vC 3 0 0 s) 29))
      have hr3 := Lib.hid (rowB hr2.out ((Below.refl w2.heap.size w2).alloc (Nat.le_refl _) (.cells (vC 3 0 0 s) 29)) hlt.out)
      have hb3 := Lib.hid (hb2'.out.alloc (Nat.le_of_lt hlt.out) (.cells (vC 3 0 0 s) 29))
      go_wp2_with (first | (refine wpList_load_row_g rfl 29 _ rfl w.heap.size rfl 29 (vC 3 n b s) (0, 0) _ hr3.out Tryz.underlying29 rfl info_val ?_) | (refine wpList_load_row_g rfl 29 _ rfl w2.heap.size rfl 29 (vC 3 0 0 s) (0, 0) _ hrow3.out Tryz.underlying29 rfl info_val ?_))
      all_goals
        go_ret
        refine ⟨ret_bool ?_, hb3.out⟩
        rw [e'.out]
        simp_all [eqB]
    · have e : validV 3 n b s = false := by
        have h2 : ¬ (s.size ≤ 30 ∧ okB (sI s) = true) := fun h => ht (by unfold txtE; rw [if_neg (by omega), if_pos h.2])
        unfold validV
        rw [if_neg (by decide), if_neg (by decide), if_pos rfl]
        by_cases h1 : s.size ≤ 30
        · have h4 : okB (sI s) = false := by
            cases ho : okB (sI s)
            · rfl
            · exact absurd ⟨h1, ho⟩ h2
          simp [h4]
        · simp [h1]
      have e' := Lib.hid e
      rw [if_neg ht] at hT
      have htb : (txtE s == 0) = false := by simpa using ht
      generalize txtE s = E at *
      clear hb hk hs e hse hb1
      go_enter Tryz.func172, Tryz.ntmps172
      go_wp2_with (first | (go_at_call 203; (with_reducible refine (hT.out _).mono ?_); rintro e w2 ⟨rfl, hb2⟩; have hb2' := Lib.hid (((Below.refl w.heap.size w).alloc (Nat.le_refl _) _).trans (hb2.mono (by simp))); clear hb2; refine Stop.go'' _ ?_))
      refine StopP.go ?_
      clear hrow hz
      have hlt := Lib.hid hb2'.out.size
      have hb3 := Lib.hid (hb2'.out.alloc hlt.out (.cells (vC 0 0 0 ⟨#[]⟩) 29))
      go_wp2
      go_ret
      exact ⟨ret_bool e'.out.symm, hb3.out⟩
  · have e : validV k n b s = false := by unfold validV; rw [if_neg h1, if_neg h2, if_neg h3]
    have e' := Lib.hid e
    have k1 : (k == 1) = false := by simpa using h1
    have k2 : (k == 2) = false := by simpa using h2
    have k3 : (k == 3) = false := by simpa using h3
    clear hb hk hs e hse h1 h2 h3
    go_enter Tryz.func172, Tryz.ntmps172
    go_wp2
    go_ret
    exact ⟨ret_bool e'.out.symm, hb1.out⟩
def chkE (k n : Int) (b : Nat) (s : ByteArray) : Int := if validV k n b s = true then 0 else 8
set_option maxRecDepth 100000 in
theorem check_any (k n : Int) (b : Nat) (s : ByteArray) (hk : 0 ≤ k ∧ k < 256) (hb : b < 18446744073709551616) (hs : s.size ≤ 1000000) (w : World) :
    Calls Tryz.prog 166 #[vA k n b s] w fun e w' => e = .returned (.int .i64 (chkE k n b s)) ∧ Below w.heap.size w w' := by
  have hrow := Lib.hid (heap_alloc_new w (.cells (vC k n b s) 29))
  have hb1 := Lib.hid ((Below.refl w.heap.size w).alloc (Nat.le_refl _) (.cells (vC k n b s) 29))
  have hV := Lib.hid (fun w => valid_any k n b s hk hb hs w)
  unfold chkE
  clear hk hb hs
  cases hv : validV k n b s
  all_goals
    rw [hv] at hV
    clear hv
    go_enter Tryz.func166, Tryz.ntmps166
    go_wp2_with (first | (go_at_call 172; (with_reducible refine (hV.out _).mono ?_); rintro e w2 ⟨rfl, hb2⟩; have hb2' := Lib.hid (hb1.out.trans (hb2.mono (by simp))); clear hb2) | (refine wpList_load_row_g rfl 29 _ rfl w.heap.size rfl 29 (vC k n b s) (0, 0) _ hrow.out Tryz.underlying29 rfl info_val ?_))
    go_ret
    exact ⟨rfl, hb2'.out⟩
theorem below_a (w : World) (o : Obj) : Below w.heap.size w (w.alloc o) := (Below.refl _ _).alloc (Nat.le_refl _) o
set_option maxHeartbeats 4000000 in
set_option maxRecDepth 100000 in
theorem rcheck_any (k n : Int) (b : Nat) (s : ByteArray) (hk : 0 ≤ k ∧ k < 256) (hb : b < 18446744073709551616) (hs : s.size ≤ 1000000) (w : World) :
    Calls Tryz.prog 207 #[vA k n b s] w fun e w' => e = .returned (.int .i64 (chkE k n b s)) ∧ Below w.heap.size w w' := by
  have hse := str_empty s
  by_cases h1 : k = 1
  · subst h1
    have e' := Lib.hid (show chkE 1 n b s = if (decide (b = 0) && decide (s.size = 0)) = true then 0 else 8 from rfl)
    generalize chkE 1 n b s = E at *
    clear hb hk hs
    go_enter Tryz.func207, Tryz.ntmps207
    go_wp2
    all_goals
      go_ret
      refine ⟨ret_int ?_, below_a _ _⟩
      rw [e'.out]
      simp_all
  by_cases h2 : k = 2
  · subst h2
    have hC := Lib.hid (fun w => rcanon_any b hb w)
    have e' := Lib.hid (show chkE 2 n b s = if (decide (n = 0) && (decide (canF b = b) && decide (s.size = 0))) = true then 0 else 8 from rfl)
    generalize chkE 2 n b s = E at *
    generalize canF b = D at *
    clear hb hk hs h1
    by_cases hn : n = 0 <;> by_cases hz : s.size = 0 <;> by_cases hD : D = b
    all_goals
      simp only [hz, decide_true, decide_false] at hse
      have e2 := e'.out
      clear e'
      simp only [hz, hn, hD, decide_true, decide_false, Bool.and_true, Bool.and_false, if_true, Bool.false_eq_true, if_false] at e2
      have e3 := Lib.hid e2
      clear e2
      have hDb : ((D : Int) == (b : Int)) = decide (D = b) := Bool.eq_iff_iff.2 (by simp; omega)
      try simp only [hD, decide_true, decide_false] at hDb
      have hn2 := Lib.hid hn
      go_enter Tryz.func207, Tryz.ntmps207
      go_wp2
      go_quiet ((go_at_call 234; exact Calls.quiet_of_same ((hC.out _).mono fun e w' ⟨he, hw⟩ => ⟨he, hw.symm⟩)))
      go_wp2
      go_ret
      exact ⟨ret_int e3.out.symm, ((Draws.refl _).drewN _).below (below_a _ _)⟩
  by_cases h3 : k = 3
  · subst h3
    have hC := Lib.hid (fun w => printable_any s hs w)
    have e' := Lib.hid (show chkE 3 n b s = if (decide (n = 0) && (decide (b = 0) && (decide (s.size ≤ 30) && okB (sI s)))) = true then 0 else 8 from rfl)
    generalize chkE 3 n b s = E at *
    clear hb hk hs h1 h2 hse
    cases okB (sI s)
    all_goals
      go_enter Tryz.func207, Tryz.ntmps207
      go_wp2_with (go_at_call 235; (with_reducible refine (hC.out _).mono ?_); rintro e w2 ⟨rfl, rfl⟩)
      all_goals
        go_ret
        refine ⟨ret_int ?_, below_a _ _⟩
        rw [e'.out]
        simp_all <;> first | omega | (intro h; omega)
  · have e' := Lib.hid (show chkE k n b s = 8 by unfold chkE validV; rw [if_neg h1, if_neg h2, if_neg h3]; rfl)
    have k1 : (k == 1) = false := by simpa using h1
    have k2 : (k == 2) = false := by simpa using h2
    have k3 : (k == 3) = false := by simpa using h3
    clear hb hk hs h1 h2 h3
    go_enter Tryz.func207, Tryz.ntmps207
    go_wp2
    go_ret
    exact ⟨ret_int e'.out.symm, below_a _ _⟩
end Go.Proofs.YtlbgffhipondiaaGreatDoor.wir.val
namespace Go.Proofs.YtlbgffhipondiaaGreatDoor.wir.val
open Go.RowKit Go.YtlbgffhipondiaaGreatDoor
set_option linter.unusedVariables false
def cutD (n : Nat) : Nat := n * 2 ^ (64 - Lib.bitLen n)
def cutB (n : Nat) : Nat := if n = 0 then 0 else (1022 + Lib.bitLen n) * 4503599627370496 + cutD n / 2048 % 4503599627370496
def cutR (n : Nat) : Nat := if n = 0 then 0 else cutD n % 2048
def rankF (b : Nat) : Nat := if b < 9223372036854775808 then b + 9223372036854775808 else 18446744073709551615 - b
def plF (k n : Int) (b : Nat) : Nat := if k = 1 then (if n < 0 then rankF (9223372036854775808 + cutB (-n).toNat) else rankF (cutB n.toNat)) else if k = 2 then rankF b else 18446744073709551615
def plR (k n : Int) : Int := if k = 1 then (if n < 0 then -(cutR (-n).toNat : Int) else (cutR n.toNat : Int)) else 0
/-- The place of a value, as' one number. -/
def plP (k n : Int) (b : Nat) : Int := ((plF k n b : Int) * 4096 + plR k n) * 4 + k
def cmpI (a b : Int) : Int := if a < b then -1 else if b < a then 1 else 0
def orI (a b : Int) : Int := if a = 0 then b else a
end Go.Proofs.YtlbgffhipondiaaGreatDoor.wir.val
namespace Go.Proofs.YtlbgffhipondiaaGreatDoor.wir.val
open Go.RowKit Go.YtlbgffhipondiaaGreatDoor
set_option linter.unusedVariables false
end Go.Proofs.YtlbgffhipondiaaGreatDoor.wir.val
namespace Go.Proofs.YtlbgffhipondiaaGreatDoor.wir.val
open Go.RowKit Go.YtlbgffhipondiaaGreatDoor
set_option linter.unusedVariables false
/-- What Cmp answers for two valid values. -/
def cmpV (k n : Int) (b : Nat) (s : ByteArray) (k' n' : Int) (b' : Nat) (s' : ByteArray) : Int := orI (cmpI (plP k n b) (plP k' n' b')) (cmpF (sI s) (sI s'))
theorem valid_kind {k n : Int} {b : Nat} {s : ByteArray} (h : validV k n b s = true) : 1 ≤ k ∧ k ≤ 3 := by
  unfold validV at h
  split at h
  · omega
  · split at h
    · omega
    · split at h
      · omega
      · cases h
structure VFit (k n : Int) (b : Nat) (s : ByteArray) : Prop where
  k : 0 ≤ k ∧ k < 256
  n : -9223372036854775808 ≤ n ∧ n ≤ 9223372036854775807
  b : b < 18446744073709551616
  s : s.size ≤ 1000000
end Go.Proofs.YtlbgffhipondiaaGreatDoor.wir.val
namespace Go.Proofs.YtlbgffhipondiaaGreatDoor.wir.val
open Go.RowKit Go.YtlbgffhipondiaaGreatDoor
set_option linter.unusedVariables false
/-- A value. -/
structure Va where
  k : Int
  n : Int
  b : Nat
  s : ByteArray
abbrev Va.l (v : Va) : List Value := [.int .u8 v.k, .int .i64 v.n, .int .u64 (v.b : Int), .string v.s]
abbrev Va.v (v : Va) : Value := vA v.k v.n v.b v.s
abbrev Va.fit (v : Va) : Prop := VFit v.k v.n v.b v.s
abbrev Va.ok (v : Va) : Bool := validV v.k v.n v.b v.s
abbrev Va.cmp (v u : Va) : Int := cmpV v.k v.n v.b v.s u.k u.n u.b u.s
end Go.Proofs.YtlbgffhipondiaaGreatDoor.wir.val
namespace Go.Proofs.YtlbgffhipondiaaGreatDoor.wir.val
open Go.RowKit Go.YtlbgffhipondiaaGreatDoor
set_option linter.unusedVariables false
def okK (l : List Int) : Bool := l.all fun c => decide (33 ≤ c) && decide (c ≤ 126)
theorem okK_step (l : List Int) (k : Nat) (h : okK (l.take k) = true) (hk : k < l.length) (h1 : 33 ≤ ith l k) (h2 : ith l k ≤ 126) : okK (l.take (k + 1)) = true := by
  rw [take_succ_ith l k hk]
  unfold okK at *
  rw [List.all_append, h]
  simp [h1, h2]
theorem okK_not (l : List Int) (k : Nat) (hk : k < l.length) (h : ith l k < 33 ∨ 126 < ith l k) : okK l = false := by
  unfold okK
  rw [List.all_eq_false]
  refine ⟨ith l k, ?_, ?_⟩
  · unfold ith
    rw [List.getElem?_eq_getElem hk]
    exact List.getElem_mem hk
  · simp; omega
/-- A key. -/
def keyB (s : ByteArray) : Bool := decide (1 ≤ s.size) && (decide (s.size ≤ 20) && okK (sI s))
theorem keyB_short {s : ByteArray} (h : s.size < 1) : keyB s = false := by
  unfold keyB; rw [decide_eq_false (by omega)]; rfl
theorem keyB_long {s : ByteArray} (h : 20 < s.size) : keyB s = false := by
  unfold keyB; rw [decide_eq_false (show ¬ s.size ≤ 20 by omega), Bool.false_and, Bool.and_false]
theorem keyB_mid {s : ByteArray} (h1 : 1 ≤ s.size) (h2 : s.size ≤ 20) : keyB s = okK (sI s) := by
  unfold keyB; rw [decide_eq_true h1, decide_eq_true h2, Bool.true_and, Bool.true_and]
theorem key_any (s : ByteArray) (hs : s.size ≤ 1000000) (w : World) :
    Calls Tryz.prog 165 #[.string s] w fun e w' => e = .returned (.bool (keyB s)) ∧ w = w' := by
  by_cases h1 : s.size < 1
  · rw [keyB_short h1]
    go_enter Tryz.func165, Tryz.ntmps165
    go_wp2
    go_ret
    exact ⟨rfl, rfl⟩
  by_cases h2 : 20 < s.size
  · rw [keyB_long h2]
    go_enter Tryz.func165, Tryz.ntmps165
    go_wp2
    go_ret
    exact ⟨rfl, rfl⟩
  rw [keyB_mid (by omega) (by omega)]
  have hi := Lib.hid (sI_get s)
  have hl := sI_length s
  generalize hL : sI s = L at *
  clear hL
  go_enter Tryz.func165, Tryz.ntmps165
  go_wp2
  go_loop [14] (fun i => ∃ k : Nat, k ≤ s.size ∧ i = .int .i64 (k : Int) ∧ okK (L.take k) = true) (fun i => s.size - (intOf i).toNat)
  case atStart => exact ⟨0, Nat.zero_le _, rfl, rfl⟩
  case round =>
    obtain ⟨k, hk, rfl, ho⟩ := hrel
    by_cases hlt : k < s.size
    · have hc := hi.out k hlt
      go_wp2
      case roundEnd => exact ⟨⟨k + 1, by omega, rfl, okK_step L k ho (by omega) (by omega) (by omega)⟩, by simp [intOf]; omega⟩
      all_goals
        go_ret
        exact ⟨ret_bool (okK_not L k (by omega) (by omega)).symm, rfl⟩
    · obtain rfl : k = s.size := by omega
      have ho' : okK L = true := by rw [← hl, List.take_length] at ho; exact ho
      clear hk hlt ho hi
      go_wp2
      go_ret
      first | exact ⟨rfl, rfl⟩ | exact ⟨ret_bool ho'.symm, rfl⟩
theorem name_any (s : ByteArray) (hs : s.size ≤ 1000000) (w : World) :
    Calls Tryz.prog 206 #[.string s] w fun e w' => e = .returned (.bool (keyB s)) ∧ w = w' := by
  by_cases h1 : s.size < 1
  · rw [keyB_short h1]
    go_enter Tryz.func206, Tryz.ntmps206
    go_wp2
    go_ret
    exact ⟨rfl, rfl⟩
  by_cases h2 : 20 < s.size
  · rw [keyB_long h2]
    go_enter Tryz.func206, Tryz.ntmps206
    go_wp2
    go_ret
    exact ⟨rfl, rfl⟩
  rw [keyB_mid (by omega) (by omega)]
  have hi := Lib.hid (sI_get s)
  have hl := sI_length s
  generalize hL : sI s = L at *
  clear hL
  go_enter Tryz.func206, Tryz.ntmps206
  go_wp2
  go_loop [3] (fun i => ∃ k : Nat, k ≤ s.size ∧ i = .int .i64 (k : Int) ∧ okK (L.take k) = true) (fun i => s.size - (intOf i).toNat)
  case atStart => exact ⟨0, Nat.zero_le _, rfl, rfl⟩
  case round =>
    obtain ⟨k, hk, rfl, ho⟩ := hrel
    by_cases hlt : k < s.size
    · have hc := hi.out k hlt
      go_wp2
      case roundEnd => exact ⟨⟨k + 1, by omega, rfl, okK_step L k ho (by omega) (by omega) (by omega)⟩, by simp [intOf]; omega⟩
      all_goals
        go_ret
        exact ⟨ret_bool (okK_not L k (by omega) (by omega)).symm, rfl⟩
    · obtain rfl : k = s.size := by omega
      have ho' : okK L = true := by rw [← hl, List.take_length] at ho; exact ho
      clear hk hlt ho hi
      go_wp2
      go_ret
      first | exact ⟨rfl, rfl⟩ | exact ⟨ret_bool ho'.symm, rfl⟩
/-- A value that is zero. -/
def zeroV (v : Va) : Bool := eqB v.k v.n v.b v.s 0 0 0 ⟨#[]⟩
/-- An act that is valid. -/
def actB (k : Int) (s : ByteArray) (v : Va) : Bool := if k = 1 then decide (s.size = 0) && zeroV v else if k = 2 ∨ k = 3 then keyB s && zeroV v else if k = 4 then keyB s && v.ok else false
abbrev aA (k : Int) (s : ByteArray) (v : Va) : Value := .agg #[.int .u8 k, .string s, .int .u8 v.k, .int .i64 v.n, .int .u64 (v.b : Int), .string v.s]
end Go.Proofs.YtlbgffhipondiaaGreatDoor.wir.val
namespace Go.Proofs.YtlbgffhipondiaaGreatDoor.wir.val
open Go.RowKit Go.YtlbgffhipondiaaGreatDoor
set_option linter.unusedVariables false
abbrev aC (k : Int) (s : ByteArray) (v : Va) : Array Value := #[.int .u8 k, .string s, .int .u8 v.k, .int .i64 v.n, .int .u64 (v.b : Int), .string v.s]
theorem info_act : (Tryz.prog.info? 31).map (·.size) = some 6 := by kernel_rfl
theorem cellsA {w : World} {g : Nat} {k : Int} {s : ByteArray} {v : Va} (h : w.heap[g]? = some (.cells (aC k s v) 31 (0, 0))) :
    w.cell? ⟨g, 0, none⟩ = some (.int .u8 k) ∧ w.cell? ⟨g, 1, none⟩ = some (.string s) ∧ w.rangeAt g 2 v.l := by
  refine ⟨cell_of_row _ _ _ _ _ _ h, cell_of_row _ _ _ _ _ _ h, ?_⟩
  intro j x hx
  have hj : j < 4 := (List.getElem?_eq_some_iff.1 hx).1
  rw [← hx]
  unfold World.cell?
  rw [show (⟨g, 2 + j, none⟩ : Addr).block = g from rfl, h]
  match j, hj with
  | 0, _ => rfl
  | 1, _ => rfl
  | 2, _ => rfl
  | 3, _ => rfl
set_option maxRecDepth 100000 in
theorem eqlA (k : Int) (s : ByteArray) (v : Va) (k' : Int) (s' : ByteArray) (v' : Va) (w : World) :
    (binOp .eql 31 (aA k s v) (aA k' s' v')).run Tryz.prog w = .ok (.bool (decide (k = k') && (decide (s = s') && eqB v.k v.n v.b v.s v'.k v'.n v'.b v'.s))) w := by
  rw [run_eql_struct]
  have h0 : Tryz.prog.underlying 31 = some (.struct (Tryz.prog.fieldsOf 31)) := by kernel_rfl
  have h1 : Tryz.prog.stoodInHeld 31 = false := by kernel_rfl
  rw [run_equalIn_agg _ _ _ _ _ h0 h1]
  have hb := bytes_eq s s'
  have hb2 := bytes_eq v.s v'.s
  simp [go_sem, hb, hb2]
  have hi : ((v.b : Int) = (v'.b : Int)) ↔ v.b = v'.b := by omega
  simp only [hi]
  clear hb hb2 h0 h1 hi
  unfold eqB
  by_cases h1 : k = k' <;> by_cases h2 : s = s' <;> by_cases h3 : v.k = v'.k <;> by_cases h4 : v.n = v'.n <;> by_cases h5 : v.b = v'.b <;> by_cases h6 : v.s = v'.s <;> simp [h1, h2, h3, h4, h5, h6]
/-- A step: a row in the middle of a block is loaded. -/
theorem wpList_midV {P : Program} {ops : Array Oper} {rest : List Oper} {o : Oper} {a : Act} {w : World} {Q : Exit → Act → World → Prop} (hw : Region.wanted o (yielded ops a.tmps) = true) (ty : TypeId) (x : Operand) (ho : o.op = .load ty x) (g k : Nat) (hx : a.eval x = .pointer (some ⟨g, k, none⟩)) (cs : List Value) (d : TypeDesc)
    (hC : w.rangeAt g k cs) (hu : P.underlying ty = some d) (hd : d.isRow = true) (hi : (P.info? ty).map (·.size) = some cs.length) (h : wpList P ops Q rest (a.put o.dst (.agg cs.toArray)) w) : wpList P ops Q (o :: rest) a w :=
  wpList_step fun K hK => by
    rw [if_pos hw]
    unfold Oper.wp execOp
    simp only [ho, hx, Instr.loadAt, Instr.sureAddr, Sem.run_bind, Sem.run_pure, Result.andThen_ok, run_loadVar_mid w g k ty cs d hC hu hd hi]
    exact hK _ _ h
/-- A step: two structs are compared. -/
theorem wpList_eqlS {P : Program} {ops : Array Oper} {rest : List Oper} {o : Oper} {a : Act} {w : World} {Q : Exit → Act → World → Prop} (hw : Region.wanted o (yielded ops a.tmps) = true) (T : TypeId) (x y : Operand) (ho : o.op = .binOp .eql T x y T) (cx cy : Array Value) (hx : a.eval x = .agg cx) (hy : a.eval y = .agg cy)
    (h0 : P.eqGuardType P.depth T = false) (B : Bool) (hrun : (binOp .eql T (.agg cx) (.agg cy)).run P w = .ok (.bool B) w) (h : wpList P ops Q rest (a.put o.dst (.bool B)) w) : wpList P ops Q (o :: rest) a w :=
  wpList_step fun K hK => by
    rw [if_pos hw]
    have hg := run_eqGuard_agg (P := P) w .eql T x y cx cy h0
    unfold Oper.wp execOp
    simp only [ho, hx, hy, Sem.run_bind, Sem.run_pure, hg, Result.andThen_ok, hrun]
    exact hK _ _ h
theorem str_nil0 (s : ByteArray) : decide (s = ⟨#[]⟩) = decide (s.size = 0) := by
  rw [← bytes_eq s ⟨#[]⟩, show (⟨#[]⟩ : ByteArray).toList = [] from by rw [ByteArray.toList_eq], str_empty]
set_option maxHeartbeats 2000000 in
set_option maxRecDepth 100000 in
theorem validAct_any (k : Int) (s : ByteArray) (v : Va) (fv : v.fit) (hs : s.size ≤ 1000000) (w : World) :
    Calls Tryz.prog 123 #[aA k s v] w fun e w' => e = .returned (.bool (actB k s v)) ∧ Below w.heap.size w w' := by
  obtain ⟨W, hW⟩ : ∃ W, W = w.alloc (.cells (aC k s v) 31) := ⟨_, rfl⟩
  have hr0 := heap_alloc_new w (.cells (aC k s v) 31)
  have hb1 := Lib.hid ((Below.refl w.heap.size w).alloc (Nat.le_refl _) (.cells (aC k s v) 31))
  rw [← hW] at hr0 hb1
  obtain ⟨c0, c1, c2⟩ := cellsA hr0
  have hrow := Lib.hid hr0
  have hmid := Lib.hid c2
  have hlt := Lib.hid (Array.getElem?_eq_some_iff.1 hr0).1
  have hK := Lib.hid (fun w => key_any s hs w)
  have hC := Lib.hid (fun w => check_any v.k v.n v.b v.s fv.k fv.b fv.s w)
  clear c2 hr0 hs
  have hqA := Lib.hid (fun wz => eqlA k s v 1 ⟨#[]⟩ ⟨0, 0, 0, ⟨#[]⟩⟩ wz)
  have hqV := Lib.hid (fun wz => show (binOp .eql 29 (vA v.k v.n v.b v.s) (vA 0 0 0 ⟨#[]⟩)).run Tryz.prog wz = .ok (.bool (zeroV v)) wz from eqlV v.k v.n v.b v.s 0 0 0 ⟨#[]⟩ wz)
  by_cases h1 : k = 1
  · have e := Lib.hid (show (decide (k = 1) && (decide (s = ⟨#[]⟩) && eqB v.k v.n v.b v.s 0 0 0 ⟨#[]⟩)) = actB k s v from by unfold actB; rw [if_pos h1, decide_eq_true h1, Bool.true_and, str_nil0]; rfl)
    rw [e.out] at hqA
    generalize actB k s v = R at *
    subst h1
    go_enter Tryz.func123, Tryz.ntmps123
    go_upto_region 1 with fail
    rw [← hW]
    clear hW
    go_wp2_with (first | (refine wpList_load_row_g rfl 31 _ rfl w.heap.size rfl 31 (aC 1 s v) (0, 0) _ hrow.out Tryz.underlying31 rfl info_act ?_) | (refine wpList_eqlS rfl 31 _ _ rfl (aC 1 s v) (aC 1 ⟨#[]⟩ ⟨0, 0, 0, ⟨#[]⟩⟩) rfl rfl (by kernel_rfl) R (hqA.out _) ?_))
    go_ret
    exact ⟨rfl, hb1.out⟩
  have k1 : (k == 1) = false := by simpa using h1
  by_cases h2 : k = 2 ∨ k = 3
  · have e := Lib.hid (show actB k s v = (keyB s && zeroV v) from by unfold actB; rw [if_neg h1, if_pos h2])
    cases hkb : keyB s
    · rw [hkb] at hK
      have e' := Lib.hid (show actB k s v = false by rw [e.out, hkb]; rfl)
      generalize actB k s v = R at *
      clear e hkb
      rcases h2 with rfl | rfl
      all_goals
        clear h1
        go_enter Tryz.func123, Tryz.ntmps123
        go_upto_region 1 with fail
        rw [← hW]
        clear hW
        go_wp2_with (go_at_call 165; (with_reducible refine (hK.out _).mono ?_); rintro e w2 ⟨rfl, rfl⟩)
        go_ret
        exact ⟨ret_bool e'.out.symm, hb1.out⟩
    · rw [hkb] at hK
      have e' := Lib.hid (show actB k s v = zeroV v by rw [e.out, hkb]; rfl)
      rw [← e'.out] at hqV
      generalize actB k s v = R at *
      clear e hkb
      rcases h2 with rfl | rfl
      all_goals
        clear h1
        go_enter Tryz.func123, Tryz.ntmps123
        go_upto_region 1 with fail
        rw [← hW]
        clear hW
        go_wp2_with (first | (go_at_call 165; (with_reducible refine (hK.out _).mono ?_); rintro e w2 ⟨rfl, rfl⟩) | (refine wpList_midV rfl 29 _ rfl w.heap.size 2 rfl v.l _ hmid.out Tryz.underlying29 rfl info_val ?_) | (refine wpList_eqlS rfl 29 _ _ rfl (vC v.k v.n v.b v.s) (vC 0 0 0 ⟨#[]⟩) rfl rfl (by kernel_rfl) R (hqV.out _) ?_))
        go_ret
        exact ⟨rfl, hb1.out⟩
  have k2 : (k == 2) = false := by simpa using fun h => h2 (.inl h)
  have k3 : (k == 3) = false := by simpa using fun h => h2 (.inr h)
  by_cases h4 : k = 4
  · have e := Lib.hid (show actB k s v = (keyB s && v.ok) from by unfold actB; rw [if_neg h1, if_neg h2, if_pos h4])
    cases hkb : keyB s
    · rw [hkb] at hK
      have e' := Lib.hid (show actB k s v = false by rw [e.out, hkb]; rfl)
      generalize actB k s v = R at *
      clear e hkb
      subst h4
      clear h1 h2
      go_enter Tryz.func123, Tryz.ntmps123
      go_upto_region 1 with fail
      rw [← hW]
      clear hW
      go_wp2_with (go_at_call 165; (with_reducible refine (hK.out _).mono ?_); rintro e w2 ⟨rfl, rfl⟩)
      go_ret
      exact ⟨ret_bool e'.out.symm, hb1.out⟩
    · rw [hkb] at hK
      have e' := Lib.hid (show actB k s v = v.ok by rw [e.out, hkb]; rfl)
      have hv : (chkE v.k v.n v.b v.s == 0) = v.ok := by unfold chkE Va.ok; cases validV v.k v.n v.b v.s <;> rfl
      rw [← e'.out] at hv
      have hv' := Lib.hid hv
      clear hv
      generalize actB k s v = R at *
      generalize chkE v.k v.n v.b v.s = E at *
      clear e hkb
      subst h4
      clear h1 h2
      have hv := hv'.out
      go_enter Tryz.func123, Tryz.ntmps123
      go_upto_region 1 with fail
      rw [← hW]
      clear hW
      go_wp2_with (first | (go_at_call 165; (with_reducible refine (hK.out _).mono ?_); rintro e w2 ⟨rfl, rfl⟩) | (refine wpList_midV rfl 29 _ rfl w.heap.size 2 rfl v.l _ hmid.out Tryz.underlying29 rfl info_val ?_) | (go_at_call 166; (with_reducible refine (hC.out _).mono ?_); rintro e w3 ⟨rfl, h3⟩; have hb3 := Lib.hid (hb1.out.trans (h3.mono hb1.out.size)); clear h3))
      go_ret
      exact ⟨rfl, hb3.out⟩
  have e := Lib.hid (show actB k s v = false from by unfold actB; rw [if_neg h1, if_neg h2, if_neg h4])
  have k4 : (k == 4) = false := by simpa using h4
  generalize actB k s v = R at *
  clear h1 h2 h4
  go_enter Tryz.func123, Tryz.ntmps123
  go_upto_region 1 with fail
  rw [← hW]
  clear hW
  go_wp2
  go_ret
  exact ⟨ret_bool e.out.symm, hb1.out⟩
end Go.Proofs.YtlbgffhipondiaaGreatDoor.wir.val
namespace Go.Proofs.YtlbgffhipondiaaGreatDoor.wir.val
open Go.RowKit Go.YtlbgffhipondiaaGreatDoor
set_option linter.unusedVariables false
def actE (k : Int) (s : ByteArray) (v : Va) : Int := if actB k s v = true then 0 else 8
set_option maxHeartbeats 2000000 in
set_option maxRecDepth 100000 in
theorem rcheckAct_any (k : Int) (s : ByteArray) (v : Va) (fv : v.fit) (hs : s.size ≤ 1000000) (w : World) :
    Calls Tryz.prog 176 #[aA k s v] w fun e w' => e = .returned (.int .i64 (actE k s v)) ∧ Below w.heap.size w w' := by
  obtain ⟨W, hW⟩ : ∃ W, W = w.alloc (.cells (aC k s v) 31) := ⟨_, rfl⟩
  have hr0 := heap_alloc_new w (.cells (aC k s v) 31)
  have hb1 := Lib.hid ((Below.refl w.heap.size w).alloc (Nat.le_refl _) (.cells (aC k s v) 31))
  rw [← hW] at hr0 hb1
  obtain ⟨c0, c1, c2⟩ := cellsA hr0
  have hmid := Lib.hid c2
  have hK := Lib.hid (fun w => name_any s hs w)
  have hC := Lib.hid (fun w => rcheck_any v.k v.n v.b v.s fv.k fv.b fv.s w)
  have hqV := Lib.hid (fun wz => show (binOp .eql 29 (vA v.k v.n v.b v.s) (vA 0 0 0 ⟨#[]⟩)).run Tryz.prog wz = .ok (.bool (zeroV v)) wz from eqlV v.k v.n v.b v.s 0 0 0 ⟨#[]⟩ wz)
  have hse := str_empty s
  clear c2 hr0 hs
  unfold actE
  by_cases h1 : k = 1
  · have e := Lib.hid (show actB k s v = (decide (s.size = 0) && zeroV v) from by unfold actB; rw [if_pos h1])
    rw [e.out]
    subst h1
    generalize zeroV v = Z at *
    clear e
    cases Z <;> by_cases hz : s.size = 0
    all_goals
      simp only [hz, decide_true, decide_false, Bool.and_true, Bool.and_false, Bool.false_eq_true, if_true, if_false] at hse ⊢
      clear hz
      go_enter Tryz.func176, Tryz.ntmps176
      go_upto_region 1 with fail
      rw [← hW]
      clear hW
      go_wp2_with (first | (refine wpList_midV rfl 29 _ rfl w.heap.size 2 rfl v.l _ hmid.out Tryz.underlying29 rfl info_val ?_) | (refine wpList_eqlS rfl 29 _ _ rfl (vC v.k v.n v.b v.s) (vC 0 0 0 ⟨#[]⟩) rfl rfl (by kernel_rfl) _ (hqV.out _) ?_))
      go_ret
      exact ⟨rfl, hb1.out⟩
  have k1 : (k == 1) = false := by simpa using h1
  by_cases h2 : k = 2 ∨ k = 3
  · have e := Lib.hid (show actB k s v = (keyB s && zeroV v) from by unfold actB; rw [if_neg h1, if_pos h2])
    rw [e.out]
    clear e
    generalize zeroV v = Z at *
    generalize keyB s = Y at *
    rcases h2 with rfl | rfl <;> cases Z <;> cases Y
    all_goals
      clear h1
      simp only [Bool.and_true, Bool.and_false, Bool.false_eq_true, if_true, if_false]
      go_enter Tryz.func176, Tryz.ntmps176
      go_upto_region 1 with fail
      rw [← hW]
      clear hW
      go_wp2_with (first | (refine wpList_midV rfl 29 _ rfl w.heap.size 2 rfl v.l _ hmid.out Tryz.underlying29 rfl info_val ?_) | (refine wpList_eqlS rfl 29 _ _ rfl (vC v.k v.n v.b v.s) (vC 0 0 0 ⟨#[]⟩) rfl rfl (by kernel_rfl) _ (hqV.out _) ?_) | (go_at_call 206; (with_reducible refine (hK.out _).mono ?_); rintro e w2 ⟨rfl, rfl⟩))
      go_ret
      exact ⟨rfl, hb1.out⟩
  have k2 : (k == 2) = false := by simpa using fun h => h2 (.inl h)
  have k3 : (k == 3) = false := by simpa using fun h => h2 (.inr h)
  by_cases h4 : k = 4
  · have e := Lib.hid (show actB k s v = (keyB s && v.ok) from by unfold actB; rw [if_neg h1, if_neg h2, if_pos h4])
    rw [e.out]
    unfold chkE at hC
    clear e
    unfold Va.ok
    generalize zeroV v = Z at *
    generalize keyB s = Y at *
    generalize validV v.k v.n v.b v.s = X at *
    subst h4
    clear h1 h2
    cases Y
    · simp only [Bool.false_and, Bool.false_eq_true, if_false]
      go_enter Tryz.func176, Tryz.ntmps176
      go_upto_region 1 with fail
      rw [← hW]
      clear hW
      go_wp2_with (first | (refine wpList_midV rfl 29 _ rfl w.heap.size 2 rfl v.l _ hmid.out Tryz.underlying29 rfl info_val ?_) | (refine wpList_eqlS rfl 29 _ _ rfl (vC v.k v.n v.b v.s) (vC 0 0 0 ⟨#[]⟩) rfl rfl (by kernel_rfl) _ (hqV.out _) ?_) | (go_at_call 206; (with_reducible refine (hK.out _).mono ?_); rintro e w2 ⟨rfl, rfl⟩))
      go_ret
      exact ⟨rfl, hb1.out⟩
    · cases X
      all_goals
        simp only [Bool.and_true, Bool.and_false, Bool.false_eq_true, if_true, if_false] at hC ⊢
        go_enter Tryz.func176, Tryz.ntmps176
        go_upto_region 1 with fail
        rw [← hW]
        clear hW
        go_wp2_with (first | (refine wpList_midV rfl 29 _ rfl w.heap.size 2 rfl v.l _ hmid.out Tryz.underlying29 rfl info_val ?_) | (refine wpList_eqlS rfl 29 _ _ rfl (vC v.k v.n v.b v.s) (vC 0 0 0 ⟨#[]⟩) rfl rfl (by kernel_rfl) _ (hqV.out _) ?_) | (go_at_call 206; (with_reducible refine (hK.out _).mono ?_); rintro e w2 ⟨rfl, rfl⟩) | (go_at_call 207; (with_reducible refine (hC.out _).mono ?_); rintro e w3 ⟨rfl, h3⟩; have hb3 := Lib.hid (hb1.out.trans (h3.mono hb1.out.size)); clear h3))
        go_ret
        exact ⟨rfl, hb3.out⟩
  have e := Lib.hid (show actB k s v = false from by unfold actB; rw [if_neg h1, if_neg h2, if_neg h4])
  have k4 : (k == 4) = false := by simpa using h4
  rw [e.out]
  generalize zeroV v = Z at *
  clear h1 h2 h4 e
  go_enter Tryz.func176, Tryz.ntmps176
  go_upto_region 1 with fail
  rw [← hW]
  clear hW
  go_wp2_with (first | (refine wpList_midV rfl 29 _ rfl w.heap.size 2 rfl v.l _ hmid.out Tryz.underlying29 rfl info_val ?_) | (refine wpList_eqlS rfl 29 _ _ rfl (vC v.k v.n v.b v.s) (vC 0 0 0 ⟨#[]⟩) rfl rfl (by kernel_rfl) _ (hqV.out _) ?_))
  go_ret
  exact ⟨rfl, hb1.out⟩
end Go.Proofs.YtlbgffhipondiaaGreatDoor.wir.val

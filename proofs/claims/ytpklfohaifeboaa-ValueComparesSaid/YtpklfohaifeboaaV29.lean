/- The reference's order: digits. -/
import Derived.Test.YtpklfohaifeboaaV28
import Derived.Deep.CutBlock
namespace Go.Proofs.Ytpklfohaifeboaa
open Go.RowKit Go.Ytpklfohaifeboaa
set_option linter.unusedVariables false
theorem bitsL_len (n : Nat) (h : n < 18446744073709551616) : (bitsL n).length ≤ 64 := by
  by_cases h0 : n = 0
  · subst h0; rw [bitsL_zero]; simp
  · obtain ⟨g1, g2⟩ := bitsL_top n h0
    have hl : (bitsL n).length ≠ 0 := fun h0 => g2 (List.eq_nil_of_length_eq_zero h0)
    have := pow_between g1 (show n < 2 ^ 64 by rw [show (2 : Nat) ^ 64 = 18446744073709551616 by decide]; exact h)
    omega
theorem bin_bytes {l : List Int} (h : Bin l) : Bytes l := by
  intro i
  unfold ith
  cases hi : l[i]? with
  | none => exact ⟨by decide, by decide⟩
  | some x =>
    have := h x (List.mem_of_getElem? hi)
    simp only [Option.getD_some]; omega
set_option maxHeartbeats 4000000 in
set_option maxRecDepth 100000 in
theorem rdigits_any (n s : Nat) (hn : n < 18446744073709551616) (hs : s ≤ 3000) (w : World) :
    Calls Try.prog 83 #[.int .u64 (n : Int), .int .i64 (s : Int)] w fun e w' => ∃ v, e = .returned v ∧ OwnB w.heap.size 5 w' v (digF n s) ∧ Below w.heap.size w w' := by
  obtain ⟨K, hK⟩ : ∃ K, K = if n = 0 then 0 else s := ⟨_, rfl⟩
  have hd : digF n s = List.replicate K 0 ++ bitsL n := by
    unfold digF
    rw [hK]
    split
    · rename_i h; rw [h, bitsL_zero]; rfl
    · rfl
  rw [hd]
  have hKs : K ≤ s := by rw [hK]; split <;> omega
  have hK0 : n = 0 → K = 0 := by intro h; rw [hK, if_pos h]
  have hK1 : n ≠ 0 → K = s := by intro h; rw [hK, if_neg h]
  have hbl := Lib.hid (bitsL_len n hn)
  have hn' := Lib.hid hn
  clear hd hK hn
  go_enter Try.func83, Try.ntmps83
  go_upto_block 0 with fail
  go_cut [0, 5] (fun v0 o wz => v0 = .int .u64 (n : Int) ∧ OwnB w.heap.size 5 wz o (List.replicate K 0) ∧ Below w.heap.size w wz)
  case first =>
    go_wp2
    go_loopw [5, 6] (fun o i wr => ∃ k : Nat, k ≤ K ∧ i = .int .i64 (k : Int) ∧ OwnB w.heap.size 5 wr o (List.replicate k 0) ∧ Below w.heap.size w wr) (fun _ i _ => s - (intOf i).toNat)
    case atStart => exact ⟨0, Nat.zero_le _, rfl, OwnB.nil _ _ _, Below.refl _ _⟩
    case round =>
      obtain ⟨k, hk, rfl, ho, hb⟩ := hrel
      obtain ⟨xa, xc, rfl⟩ := ho.rd.slice
      have ho' := Lib.hid ho
      have hb' := Lib.hid hb
      have hrl : (List.replicate k (0 : Int)).length = k := List.length_replicate
      rw [hrl] at ho' ⊢
      have hrl' := Lib.hid hrl
      clear ho hb hrl
      by_cases hlt : k < K
      · have hn0 : n ≠ 0 := fun h => by have := hK0 h; omega
        have g1 : (k : Int) < (s : Int) := by omega
        have g2 : 0 < (n : Int) := by omega
        have hnw := Lib.hid (show RdB (wr.alloc (.cells #[.int .u8 0] 5)) (.slice (some ⟨wr.heap.size, 0, none⟩) 1 1) [0] from rdB_row (cs := [0]) (heap_alloc_new wr (.cells (u8s [0]) 5)) 1 rfl (by decide))
        have hox := Lib.hid (show OwnB w.heap.size 5 (wr.alloc (.cells #[.int .u8 0] 5)) (.slice xa k xc) (List.replicate k 0) from ho'.out.kept (below_a wr _))
        have hyx := Lib.hid (show Below w.heap.size w (wr.alloc (.cells #[.int .u8 0] 5)) from hb'.out.trans ((below_a wr _).mono hb'.out.size))
        clear hK0 hK1 hn0
        go_wp2_with (refine appendB rfl _ _ 34 rfl w.heap.size 5 Try.underlying34 (by kernel_rfl) _ rfl _ hox.out _ rfl _ hnw.out (by rw [hrl'.out]; simp; omega) hyx.out.size ?_)
        intro v' w4 h4 h5
        have h4' := Lib.hid h4
        have h5' := Lib.hid (hyx.out.trans (hox.out.below h5 hyx.out.size))
        clear h4 h5
        refine Stop.go ?_
        go_wp2
        go_roundw
        case rel => exact ⟨k + 1, by omega, by go_num, by rw [List.replicate_succ']; exact h4'.out, h5'.out⟩
        case measure => simp [intOf]; omega
      · obtain rfl : k = K := by omega
        by_cases h0 : n = 0
        · have hk0 := hK0 h0
          subst hk0 h0
          by_cases hs0 : s = 0
          · subst hs0
            clear hK0 hK1
            go_wp2
            go_meet
            exact ⟨rfl, ho'.out, hb'.out⟩
          · have g1 : (0 : Int) < (s : Int) := by omega
            clear hK0 hK1
            go_wp2
            go_meet
            exact ⟨rfl, ho'.out, hb'.out⟩
        · have hks := hK1 h0
          have g1 : ¬ (k : Int) < (s : Int) := by omega
          clear hK0 hK1 hks
          go_wp2
          go_meet
          exact ⟨rfl, ho'.out, hb'.out⟩
  case rest =>
    rename_i hKK
    refine hKK _ _ ?_
    obtain ⟨rfl, ho, hb⟩ := hcut
    have ho' := Lib.hid ho
    have hb' := Lib.hid hb
    clear ho hb hKK hK0 hK1
    go_wp2
    go_loopw [0, 5] (fun v0 o wr => ∃ (m : Nat) (l : List Int), v0 = .int .u64 (m : Int) ∧ m ≤ n ∧ l ++ bitsL m = bitsL n ∧ OwnB w.heap.size 5 wr o (List.replicate K 0 ++ l) ∧ Below w.heap.size w wr) (fun v0 _ _ => (intOf v0).toNat)
    case atStart => exact ⟨n, [], rfl, Nat.le_refl _, rfl, by simpa using ho'.out, hb'.out⟩
    case round =>
      obtain ⟨m, l, rfl, hm, hl, ho, hb⟩ := hrel
      obtain ⟨xa, xc, rfl⟩ := ho.rd.slice
      have ho1 := Lib.hid ho
      have hb1 := Lib.hid hb
      have hl1 := Lib.hid hl
      have hln := Lib.hid (show (List.replicate K (0 : Int) ++ l).length ≤ 3064 by
        have h1 := congrArg List.length hl
        have h2 := hbl.out
        rw [List.length_append] at h1
        rw [List.length_append, List.length_replicate]; omega)
      clear ho hb hl ho' hb'
      generalize (List.replicate K (0 : Int) ++ l).length = N at *
      by_cases h0 : m = 0
      · subst h0
        go_wp2
        go_ret
        refine ⟨_, rfl, ?_, hb1.out⟩
        have h1 := hl1.out
        rw [bitsL_zero, List.append_nil] at h1
        rw [← h1]; exact ho1.out
      · have g2 : 0 < (m : Int) := by omega
        have hw2 : IntKind.u8.wrap ((m : Int) % 2) = ((m % 2 : Nat) : Int) := by rw [IntKind.wrap_u8]; omega
        obtain ⟨z, hz⟩ : ∃ z : Int, z = (m : Int) % 2 := ⟨_, rfl⟩
        have hnw := Lib.hid (show RdB (wr.alloc (.cells #[.int .u8 ((m : Int) % 2)] 5)) (.slice (some ⟨wr.heap.size, 0, none⟩) 1 1) [((m : Int) % 2)] from rdB_row (cs := [((m : Int) % 2)]) (heap_alloc_new wr (.cells (u8s [((m : Int) % 2)]) 5)) 1 rfl (by decide))
        have hox := Lib.hid (show OwnB w.heap.size 5 (wr.alloc (.cells #[.int .u8 ((m : Int) % 2)] 5)) (.slice xa N xc) (List.replicate K 0 ++ l) from ho1.out.kept (below_a wr _))
        have hyx := Lib.hid (show Below w.heap.size w (wr.alloc (.cells #[.int .u8 ((m : Int) % 2)] 5)) from hb1.out.trans ((below_a wr _).mono hb1.out.size))
        have hq2 : IntKind.u64.wrap ((m : Int) / 2) = ((m / 2 : Nat) : Int) := by rw [IntKind.wrap_u64]; have := hn'.out; omega
        clear hw2 hz
        go_wp2_with (refine appendB rfl _ _ 34 rfl w.heap.size 5 Try.underlying34 (by kernel_rfl) _ rfl _ hox.out _ rfl _ hnw.out (by have h1 := congrArg List.length hl1.out; have h2 := hbl.out; rw [List.length_append] at h1; simp only [List.length_append, List.length_replicate, List.length_cons, List.length_nil]; omega) hyx.out.size ?_)
        intro v' w4 h4 h5
        have h4' := Lib.hid h4
        have h5' := Lib.hid (hyx.out.trans (hox.out.below h5 hyx.out.size))
        clear h4 h5
        refine Stop.go ?_
        go_wp2
        go_roundw
        case rel =>
          refine ⟨m / 2, l ++ [((m % 2 : Nat) : Int)], by go_num, by omega, ?_, ?_, h5'.out⟩
          · rw [List.append_assoc, List.singleton_append, ← bitsL_pos h0]; exact hl1.out
          · simpa [List.append_assoc] using h4'.out
        case measure => simp [intOf]; omega
end Go.Proofs.Ytpklfohaifeboaa

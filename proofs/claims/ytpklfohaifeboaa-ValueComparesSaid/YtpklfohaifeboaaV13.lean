/- sized: the bits of the float that stands for a number of at most 2^53 in size. -/
import Derived.Test.YtpklfohaifeboaaV11
import Derived.Test.YtpklfohaifeboaaV04
namespace Go.Proofs.Ytpklfohaifeboaa
open Go.RowKit Go.Ytpklfohaifeboaa
set_option linter.unusedVariables false
theorem pow_between {a b c : Nat} (h1 : 2 ^ a ≤ c) (h2 : c < 2 ^ b) : a < b := by
  by_cases h : a < b
  · exact h
  · have := Nat.pow_le_pow_right (show 0 < 2 by decide) (show b ≤ a by omega)
    omega
theorem bitLen_eq {n L : Nat} (h : n < 18446744073709551616) (h1 : 2 ^ L ≤ n) (h2 : n < 2 ^ (L + 1)) : Lib.bitLen n = L + 1 := by
  have h0 : n ≠ 0 := by
    have := Nat.pow_pos (n := L) (show 0 < 2 by decide)
    omega
  obtain ⟨l1, l2, l3, l4⟩ := bitLen_in n h0 h
  have a1 := pow_between h1 l4
  have a2 := pow_between l3 h2
  omega
/-- A number that k doublings bring to 53 binary digits. -/
theorem cut_scaled (M k : Nat) (hk : k ≤ 52) (h1 : 4503599627370496 ≤ M * 2 ^ k) (h2 : M * 2 ^ k < 9007199254740992) :
    cutB M = (1075 - k) * 4503599627370496 + M * 2 ^ k % 4503599627370496 ∧ cutR M = 0 := by
  have e1 : (4503599627370496 : Nat) = 2 ^ (52 - k) * 2 ^ k := by rw [← Nat.pow_add, show 52 - k + k = 52 by omega]
  have e2 : (9007199254740992 : Nat) = 2 ^ (52 - k + 1) * 2 ^ k := by rw [← Nat.pow_add, show 52 - k + 1 + k = 53 by omega]
  have hp : 0 < 2 ^ k := Nat.pow_pos (by decide)
  have m1 : 2 ^ (52 - k) ≤ M := by
    rw [e1] at h1
    exact Nat.le_of_mul_le_mul_right h1 hp
  have m2 : M < 2 ^ (52 - k + 1) := by
    rw [e2] at h2
    exact Nat.lt_of_mul_lt_mul_right h2
  have m3 : M < 18446744073709551616 := by
    have := Nat.pow_le_pow_right (show 0 < 2 by decide) (show 52 - k + 1 ≤ 53 by omega)
    have e : (2 : Nat) ^ 53 = 9007199254740992 := by decide
    omega
  have hL := bitLen_eq m3 m1 m2
  have hM : M ≠ 0 := by
    have := Nat.pow_pos (n := 52 - k) (show 0 < 2 by decide)
    omega
  have hD : cutD M = M * 2 ^ k * 2048 := by
    unfold cutD
    rw [hL, show 64 - (52 - k + 1) = k + 11 by omega, Nat.pow_add, ← Nat.mul_assoc]
  have hB : cutB M = (1022 + Lib.bitLen M) * 4503599627370496 + cutD M / 2048 % 4503599627370496 := by unfold cutB; rw [if_neg hM]
  have hR : cutR M = cutD M % 2048 := by unfold cutR; rw [if_neg hM]
  rw [hB, hR, hD, hL]
  generalize M * 2 ^ k = m at *
  rw [show 1022 + (52 - k + 1) = 1075 - k by omega]
  constructor
  · omega
  · omega
theorem cut_53 : cutB 9007199254740992 = 1076 * 4503599627370496 ∧ cutR 9007199254740992 = 0 := by decide +kernel
/-- A number and its float stand at the same float, and the number has nothing beyond it. -/
theorem cutR_small (M : Nat) (h : M ≤ 9007199254740992) : cutR M = 0 := by
  by_cases h0 : M = 0
  · subst h0; rfl
  by_cases h53 : M = 9007199254740992
  · subst h53; exact cut_53.2
  obtain ⟨l1, l2, l3, l4⟩ := bitLen_in M h0 (by omega)
  have hL : Lib.bitLen M ≤ 53 := by
    have := pow_between l3 (show M < 2 ^ 53 by rw [show (2 : Nat) ^ 53 = 9007199254740992 by decide]; omega)
    omega
  generalize Lib.bitLen M = L at *
  have hp : 0 < 2 ^ (53 - L) := Nat.pow_pos (by decide)
  have g1 := Nat.mul_le_mul_right (2 ^ (53 - L)) l3
  have g2 := Nat.mul_lt_mul_of_pos_right l4 hp
  rw [← Nat.pow_add, show L - 1 + (53 - L) = 52 by omega] at g1
  rw [← Nat.pow_add, show L + (53 - L) = 53 by omega] at g2
  exact (cut_scaled M (53 - L) (by omega) g1 g2).2
def szB (n : Int) : Nat := if n < 0 then 9223372036854775808 + cutB (-n).toNat else cutB n.toNat
theorem or_zero (b : Nat) (hb : b < 18446744073709551616) : bits .or .u64 0 (b : Int) = (b : Int) := by
  have h := bits_or_nat 0 b (by omega) hb
  rw [Nat.zero_or] at h
  exact h
theorem or_three (s X F : Nat) (hs : s = 0 ∨ s = 9223372036854775808) (hX : X < 2048) (hF : F < 4503599627370496) :
    bits .or .u64 (bits .or .u64 (s : Int) ((X * 4503599627370496 : Nat) : Int)) (F : Int) = ((s + (X * 4503599627370496 + F) : Nat) : Int) := by
  rcases hs with rfl | rfl
  · rw [show ((0 : Nat) : Int) = 0 from rfl, or_zero _ (by omega)]
    have h := or_high 52 X F (by omega) (by omega)
    rw [show (2 : Nat) ^ 52 = 4503599627370496 by decide, Nat.mul_comm 4503599627370496 X] at h
    rw [h]; omega
  · have g := sign_or (X * 4503599627370496) (by omega)
    rw [show ((9223372036854775808 : Nat) : Int) = 9223372036854775808 from rfl, g]
    have h := or_high 52 (2048 + X) F (by omega) (by omega)
    rw [show (2 : Nat) ^ 52 * (2048 + X) = 9223372036854775808 + X * 4503599627370496 by omega] at h
    rw [h]; omega
set_option maxHeartbeats 1000000 in
set_option maxRecDepth 100000 in
theorem sized_any (n : Int) (hn : -9007199254740992 ≤ n ∧ n ≤ 9007199254740992) (w : World) :
    Calls Try.prog 30 #[.int .i64 n] w fun e w' => e = .returned (.int .u64 (szB n : Nat)) ∧ w = w' := by
  by_cases h0 : n = 0
  · subst h0
    rw [show szB 0 = 0 from rfl]
    go_enter Try.func30, Try.ntmps30
    go_wp2
    go_ret
    exact ⟨rfl, rfl⟩
  obtain ⟨M, S, hM, hM0, hMn, hneg⟩ : ∃ M S : Nat, szB n = S + cutB M ∧ M ≠ 0 ∧ M ≤ 9007199254740992 ∧ ((n < 0 ∧ IntKind.u64.wrap (wrap64 (-n)) = (M : Int) ∧ S = 9223372036854775808) ∨ (¬ n < 0 ∧ IntKind.u64.wrap n = (M : Int) ∧ S = 0)) := by
    by_cases h : n < 0
    · refine ⟨(-n).toNat, 9223372036854775808, by unfold szB; rw [if_pos h], by omega, by omega, .inl ⟨h, ?_, rfl⟩⟩
      rw [IntKind.wrap_u64]; unfold wrap64; omega
    · refine ⟨n.toNat, 0, by unfold szB; rw [if_neg h]; omega, by omega, by omega, .inr ⟨h, ?_, rfl⟩⟩
      rw [IntKind.wrap_u64]; omega
  rw [hM]
  have hz : ((M : Int) == 0) = false := by simpa using hM0
  have hMn' := Lib.hid (And.intro hM0 hMn)
  clear hM h0 hn hM0 hMn
  rcases hneg with ⟨h, hw, rfl⟩ | ⟨h, hw, rfl⟩
  all_goals
    go_enter Try.func30, Try.ntmps30
    go_wp2
    go_loopw [4, 5] (fun m x wr => ∃ k : Nat, k ≤ 52 ∧ m = .int .u64 ((M * 2 ^ k : Nat) : Int) ∧ x = .int .u64 (1075 - (k : Int)) ∧ (M * 2 ^ k < 9007199254740992 ∨ k = 0) ∧ w = wr) (fun m _ _ => 9007199254740992 - (intOf m).toNat)
    case atStart => exact ⟨0, by omega, by rw [show M * 2 ^ 0 = M by omega], rfl, .inr rfl, rfl⟩
    case round =>
      obtain ⟨k, hk, rfl, rfl, hlt, rfl⟩ := hrel
      have hfin : 4503599627370496 ≤ M * 2 ^ k → ∃ mF xF : Nat, 4503599627370496 ≤ mF ∧ mF < 9007199254740992 ∧ xF < 2048 ∧ cutB M = xF * 4503599627370496 + mF % 4503599627370496 ∧ ((M * 2 ^ k = mF ∧ (1075 - (k : Int)) = (xF : Int)) ∨ (M * 2 ^ k = 9007199254740992 ∧ k = 0 ∧ mF = 4503599627370496 ∧ xF = 1076)) := by
        intro h1
        by_cases h2 : M * 2 ^ k < 9007199254740992
        · exact ⟨M * 2 ^ k, 1075 - k, h1, h2, by omega, (cut_scaled M k hk h1 h2).1, .inl ⟨rfl, by omega⟩⟩
        · have hk0 : k = 0 := by omega
          subst hk0
          have hM53 : M = 9007199254740992 := by have := hMn'.out.2; omega
          refine ⟨4503599627370496, 1076, by omega, by omega, by omega, ?_, .inr ⟨by omega, rfl, rfl, rfl⟩⟩
          rw [hM53, cut_53.1]
      have hnx : ((M * 2 ^ (k + 1) : Nat) : Int) = ((M * 2 ^ k : Nat) : Int) * 2 := by rw [Nat.pow_succ, ← Nat.mul_assoc]; omega
      have hfin' := Lib.hid hfin
      clear hfin
      have hk2 : M * 2 ^ k < 4503599627370496 → k < 52 := by
        intro h1
        by_cases hk52 : k = 52
        · subst hk52
          have := hMn'.out.1
          have e : (2 : Nat) ^ 52 = 4503599627370496 := by decide
          rw [e] at h1
          omega
        · omega
      have hnx' := Lib.hid hnx
      clear hnx
      have hm0 : M * 2 ^ k ≠ 0 := Nat.mul_ne_zero hMn'.out.1 (Nat.pos_iff_ne_zero.1 (Nat.pow_pos (by decide)))
      generalize M * 2 ^ k = m at *
      by_cases hm : m < 4503599627370496
      · have hlt2 : (m : Int) < 4503599627370496 := by omega
        have hk3 := hk2 hm
        have hx : (((1075 - (k : Int)) - 1) % 18446744073709551616) = 1075 - ((k + 1 : Nat) : Int) := by omega
        clear hfin' hlt
        go_wp2
        go_roundw
        case rel => 
          refine ⟨k + 1, by omega, ?_⟩
          have h1 := hnx'.out
          refine ⟨by rw [h1], by rw [show (1075 - (k : Int) - 1) = 1075 - ((k + 1 : Nat) : Int) by omega], .inl (by omega), trivial⟩
        case measure => simp [intOf]; omega
      · obtain ⟨mF, xF, f1, f2, f3, f4, f5⟩ := hfin'.out (by omega)
        clear hfin' hk2 hlt hnx'
        have hge : ¬ (m : Int) < 4503599627370496 := by omega
        go_wp2
        go_loopw [4, 5] (fun u x wr => ((u = .int .u64 (mF : Int) ∧ x = .int .u64 (xF : Int)) ∨ (u = .int .u64 9007199254740992 ∧ x = .int .u64 1075 ∧ mF = 4503599627370496 ∧ xF = 1076)) ∧ w = wr) (fun u _ _ => (intOf u).toNat)
        case atStart =>
          refine ⟨?_, rfl⟩
          rcases f5 with ⟨g1, g2⟩ | ⟨g1, g2, g3, g4⟩
          · left; rw [g1, g2]; exact ⟨rfl, rfl⟩
          · right; rw [g1, g2]; exact ⟨rfl, rfl, g3, g4⟩
        case round =>
          obtain ⟨hr, rfl⟩ := hrel
          clear f5
          rcases hr with ⟨rfl, rfl⟩ | ⟨rfl, rfl, rfl, rfl⟩
          · have hsh : IntKind.u64.wrap ((xF : Int) * 4503599627370496) = ((xF * 4503599627370496 : Nat) : Int) := by rw [IntKind.wrap_u64]; omega
            have hend := Lib.hid (fun s hs => or_three s xF (mF % 4503599627370496) hs f3 (Nat.mod_lt _ (by decide)))
            have f4' := Lib.hid f4
            have f3' : (xF : Int) < 2048 := by omega
            have f2' : ¬ 9007199254740992 ≤ (mF : Int) := by omega
            clear f4 f3 f1 f2 hm hm0 hge hMn'
            generalize (9007199254740992 : Int) = c53 at *
            go_wp2
            go_ret
            refine ⟨ret_int ?_, rfl⟩
            rw [f4'.out]
            have e1 := hend.out 0 (.inl rfl)
            have e2 := hend.out 9223372036854775808 (.inr rfl)
            rw [show ((xF * 4503599627370496 : Nat) : Int) = (xF : Int) * 4503599627370496 by omega, show ((mF % 4503599627370496 : Nat) : Int) = (mF : Int) % 4503599627370496 by omega] at e1 e2
            first | exact e2.trans (by omega) | exact e1.trans (by omega)
          · clear f1 f2 f3 f4
            go_wp2
            go_roundw
            case rel => 
              exact ⟨.inl ⟨rfl, rfl⟩, trivial⟩
            case measure => simp [intOf]
end Go.Proofs.Ytpklfohaifeboaa

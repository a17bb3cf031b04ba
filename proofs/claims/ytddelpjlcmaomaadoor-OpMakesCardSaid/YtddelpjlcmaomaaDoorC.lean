/- Contracts of power, of both packages. -/
import Derived.Test.YtddelpjlcmaomaaDoorB
import Derived.Test.YtddelpjlcmaomaaDoorM02
import Derived.Test.YtddelpjlcmaomaaDoorShelf
import Derived.StillTailTactics
namespace Go.Proofs.YtddelpjlcmaomaaDoor.grp
open Go.RowKit
set_option linter.unusedVariables false
theorem bitLenAux_lt : ∀ f x : Nat, x < 2 ^ f → x < 2 ^ Lib.bitLenAux f x
  | 0, x, h => by simpa [Lib.bitLenAux] using h
  | f + 1, x, h => by
    unfold Lib.bitLenAux
    split
    · omega
    · have := bitLenAux_lt f (x / 2) (by rw [Nat.pow_succ] at h; omega)
      rw [Nat.pow_add, Nat.pow_one]; omega
theorem bitLen_lt (x : Nat) (h : x < 18446744073709551616) : x < 2 ^ Lib.bitLen x := bitLenAux_lt 64 x h
theorem times_GP (a b : Nat) (blk : Nat) (w : World) (hm : w.cell? ⟨blk, 0, none⟩ = some (.int .u64 1000000007)) (ha : a < GP) (hb : b < GP) :
    Calls Tryd.prog 131 #[.int .u32 (a : Int), .int .u32 (b : Int), .pointer (some ⟨blk, 0, none⟩)] w fun e w' => e = .returned (.int .u32 ((a * b % GP : Nat) : Int)) ∧ w' = w :=
  times_any GP a b blk 1000000007 rfl w hm (by unfold GP at ha; omega) (by unfold GP at hb; omega) GP_pos (by decide)
theorem len_any (n : Nat) (hn : n < 18446744073709551616) (w : World) : Calls Tryd.prog 113 #[.int .u64 (n : Int)] w fun e w' => e = .returned (.int .i64 (Lib.bitLen n)) ∧ w' = w :=
  Tryd.bits_Len64 n w (by omega) (by omega)
theorem bit_step (a n k : Nat) : pw a (n % 2 ^ (k + 1)) = if n / 2 ^ k % 2 = 1 then pw a (n % 2 ^ k) * pw a (2 ^ k) % GP else pw a (n % 2 ^ k) := by
  have h : n % 2 ^ (k + 1) = n % 2 ^ k + 2 ^ k * (n / 2 ^ k % 2) := by rw [Nat.pow_succ, Nat.mod_mul]
  rw [h]
  split
  · rename_i h1
    rw [h1, Nat.mul_one, pw_add]
  · rename_i h1
    rw [show n / 2 ^ k % 2 = 0 by omega, Nat.mul_zero, Nat.add_zero]
theorem sq_step (a k : Nat) : pw a (2 ^ k) * pw a (2 ^ k) % GP = pw a (2 ^ (k + 1)) := by rw [Nat.pow_succ, Nat.mul_comm _ 2, pw_dbl]
theorem bit_one (n k : Nat) (hn : n < 18446744073709551616) : bits .and .u64 ((n : Int) / 2 ^ k) 1 = ((n / 2 ^ k % 2 : Nat) : Int) := by
  have h1 : ((n : Int) / 2 ^ k) = ((n / 2 ^ k : Nat) : Int) := by rw [Int.natCast_ediv, Int.natCast_pow]; rfl
  have h2 : n / 2 ^ k < 2 ^ 64 := Nat.lt_of_le_of_lt (Nat.div_le_self _ _) hn
  have h3 : (BitVec.ofInt 64 ((n / 2 ^ k : Nat) : Int)).toNat = n / 2 ^ k := by
    rw [BitVec.ofInt_natCast, BitVec.toNat_ofNat]; exact Nat.mod_eq_of_lt h2
  rw [h1]
  show IntKind.u64.wrap ((BitVec.ofInt 64 ((n / 2 ^ k : Nat) : Int) &&& BitVec.ofInt 64 1).toNat : Int) = _
  rw [BitVec.toNat_and, h3, show (BitVec.ofInt 64 1).toNat = 1 from rfl, Nat.and_one_is_mod, IntKind.wrap_u64]
  omega
theorem power_any (a n : Nat) (ha : a < GP) (hn : n < 18446744073709551616) (w : World) : Calls Tryd.prog 92 #[.int .u32 (a : Int), .int .u64 (n : Int)] w fun e w' => e = .returned (.int .u32 (pw a n : Int)) ∧ Grown w w' := by
  have hL := Lib.hid (len_any n hn)
  have hlt := bitLen_lt n hn
  have hle : Lib.bitLen n ≤ 64 := Lib.bitLen_le n 64 (by omega) (by omega)
  generalize Lib.bitLen n = L at hL hlt hle
  have hlt' := Lib.hid hlt; have hn' := Lib.hid hn; have ha' := Lib.hid ha
  clear hlt hn ha
  go_enter Tryd.func92, Tryd.ntmps92
  go_wp2_with (first | (go_at_call 115; refine (products_any _ _).mono ?_; rintro e w' ⟨rfl, rfl⟩) | (go_at_call 113; refine (hL.out _).mono ?_; rintro e w' ⟨rfl, rfl⟩))
  go_loop [0, 6, 11] (fun x p i => ∃ k : Nat, k ≤ L ∧ i = .int .i64 k ∧ p = .int .u32 (pw a (n % 2 ^ k) : Int) ∧ x = .int .u32 (pw a (2 ^ k) : Int)) (fun _ _ i => match i with | .int _ m => L - m.toNat | _ => 0)
  case atStart => exact ⟨0, Nat.zero_le _, rfl, by rw [Nat.pow_zero, Nat.mod_one, pw_zero]; rfl, by rw [Nat.pow_zero, pw_one a ha'.out]⟩
  case round =>
    obtain ⟨k, hk, rfl, rfl, rfl⟩ := hrel
    have hx := pw_lt a (2 ^ k); have hp := pw_lt a (n % 2 ^ k)
    generalize hX : pw a (2 ^ k) = X at hx ⊢
    generalize hP : pw a (n % 2 ^ k) = p at hp ⊢
    have hX' := Lib.hid hX; have hP' := Lib.hid hP; have hx' := Lib.hid hx; have hp' := Lib.hid hp
    clear hX hP hx hp
    have hbit := Lib.hid (bit_one n k hn'.out)
    go_wp2_with (go_at_call 131; refine (times_GP _ _ _ _ (by simp) (by first | exact hp'.out | exact hx'.out) hx'.out).mono ?_; rintro e w' ⟨rfl, rfl⟩)
    · rename_i hlt hb _
      rw [hbit.out] at hb
      have hb1 : n / 2 ^ k % 2 = 1 := by have := eq_of_beq hb; omega
      refine ⟨⟨k + 1, by omega, by simp, ?_, ?_⟩, ?_⟩
      · rw [bit_step, if_pos hb1, hX'.out, hP'.out, Int.natCast_emod, Int.natCast_mul]
      · rw [← sq_step, hX'.out, Int.natCast_emod, Int.natCast_mul]
      · show L - ((k : Int) + 1).toNat < L - (k : Int).toNat
        omega
    · rename_i hlt hb _
      rw [hbit.out] at hb
      have hb1 : ¬ n / 2 ^ k % 2 = 1 := by
        intro h; rw [h] at hb; exact absurd hb (by decide)
      refine ⟨⟨k + 1, by omega, by simp, ?_, ?_⟩, ?_⟩
      · rw [bit_step, if_neg hb1, hP'.out]
      · rw [← sq_step, hX'.out, Int.natCast_emod, Int.natCast_mul]
      · show L - ((k : Int) + 1).toNat < L - (k : Int).toNat
        omega
    · rename_i hlt
      obtain rfl : k = L := by omega
      go_ret
      refine ⟨?_, (Grown.refl _).alloc _ _⟩
      have e := hP'.out
      rw [Nat.mod_eq_of_lt hlt'.out] at e
      rw [e]; rfl
theorem mulGP (p x : Nat) (hp : p < GP) (hx : x < GP) : (IntKind.u64.wrap ((p : Int) * (x : Int))).tmod 1000000007 = ((p * x % GP : Nat) : Int) := by
  have h : p * x < GP * GP := Nat.mul_lt_mul'' hp hx
  have e1 : IntKind.u64.wrap ((p : Int) * (x : Int)) = ((p * x : Nat) : Int) := by
    rw [← Int.natCast_mul, IntKind.wrap_u64]; unfold GP at h; omega
  rw [e1, Int.tmod_eq_emod_of_nonneg (Int.natCast_nonneg _)]; rfl
theorem halfm (m : Nat) (h : m < 18446744073709551616) : IntKind.u64.wrap ((m : Int) / 2) = ((m / 2 : Nat) : Int) := by
  rw [IntKind.wrap_u64]; omega
theorem rpower_any (a n : Nat) (ha : a < GP) (hn : n < 18446744073709551616) (w : World) : Calls Tryd.prog 93 #[.int .u64 (a : Int), .int .u64 (n : Int), .int .u64 1000000007] w fun e w' => e = .returned (.int .u64 (pw a n : Int)) ∧ w' = w := by
  have hn' := Lib.hid hn; have ha' := Lib.hid ha
  clear hn ha
  go_enter Tryd.func93, Tryd.ntmps93
  go_wp2
  go_loop [0, 1, 7] (fun x m p => ∃ k : Nat, m = .int .u64 (n / 2 ^ k : Nat) ∧ p = .int .u64 (pw a (n % 2 ^ k) : Int) ∧ x = .int .u64 (pw a (2 ^ k) : Int)) (fun _ m _ => match m with | .int _ m => m.toNat | _ => 0)
  case atStart => exact ⟨0, by rw [Nat.pow_zero, Nat.div_one], by rw [Nat.pow_zero, Nat.mod_one, pw_zero]; rfl, by rw [Nat.pow_zero, pw_one a ha'.out]⟩
  case round =>
    obtain ⟨k, rfl, rfl, rfl⟩ := hrel
    have hx := pw_lt a (2 ^ k); have hp := pw_lt a (n % 2 ^ k)
    generalize hX : pw a (2 ^ k) = X at hx ⊢
    generalize hP : pw a (n % 2 ^ k) = p at hp ⊢
    generalize hM : n / 2 ^ k = m
    have hX' := Lib.hid hX; have hP' := Lib.hid hP; have hx' := Lib.hid hx; have hp' := Lib.hid hp; have hM' := Lib.hid hM
    clear hX hP hx hp hM
    have hm : m < 18446744073709551616 := Nat.lt_of_le_of_lt (by rw [← hM'.out]; exact Nat.div_le_self _ _) hn'.out
    have hm' := Lib.hid hm; clear hm
    go_wp2
    · rename_i hlt hb
      have hb1 : n / 2 ^ k % 2 = 1 := by have := eq_of_beq hb; rw [hM'.out]; omega
      have hM2 : m / 2 = n / 2 ^ (k + 1) := by rw [← hM'.out, Nat.div_div_eq_div_mul, ← Nat.pow_succ]
      rw [mulGP p X hp'.out hx'.out, mulGP X X hx'.out hx'.out, halfm m hm'.out]
      refine ⟨⟨k + 1, by rw [hM2], ?_, ?_⟩, ?_⟩
      · rw [bit_step, if_pos hb1, hX'.out, hP'.out]
      · rw [← sq_step, hX'.out]
      · show ((m / 2 : Nat) : Int).toNat < (m : Int).toNat
        omega
    · rename_i hlt hb
      have hb1 : ¬ n / 2 ^ k % 2 = 1 := by
        rw [hM'.out]; intro h
        have : ((m : Int) % 2) = 1 := by omega
        rw [this] at hb; exact absurd hb (by decide)
      have hM2 : m / 2 = n / 2 ^ (k + 1) := by rw [← hM'.out, Nat.div_div_eq_div_mul, ← Nat.pow_succ]
      rw [mulGP X X hx'.out hx'.out, halfm m hm'.out]
      refine ⟨⟨k + 1, by rw [hM2], ?_, ?_⟩, ?_⟩
      · rw [bit_step, if_neg hb1, hP'.out]
      · rw [← sq_step, hX'.out]
      · show ((m / 2 : Nat) : Int).toNat < (m : Int).toNat
        omega
    · rename_i hlt _
      have hm0 : m = 0 := by omega
      have hlt2 : n < 2 ^ k := by
        have h := hM'.out
        rw [hm0] at h
        rcases Nat.div_eq_zero_iff.1 h with h | h
        · exact absurd h (Nat.ne_of_gt (Nat.two_pow_pos k))
        · exact h
      go_ret
      refine ⟨?_, rfl⟩
      have e := hP'.out
      rw [Nat.mod_eq_of_lt hlt2] at e
      rw [e]; rfl
end Go.Proofs.YtddelpjlcmaomaaDoor.grp

/- That Q is prime, by the kernel; that the base's powers with different exponents differ. -/
import Derived.Test.YtnknkiiikeefgaaGreatDoorM02
import Derived.Test.YtnknkiiikeefgaaGreatDoorG
namespace Go.Proofs.YtnknkiiikeefgaaGreatDoor.grp
set_option linter.unusedVariables false
def GQ : Nat := 500000003
/-- no divisor among the 2 ^ d numbers from lo on -/
def chkQ : Nat → Nat → Bool
  | 0, lo => Nat.ble 1 (GQ % lo)
  | d + 1, lo => chkQ d lo && chkQ d (lo + 2 ^ d)
theorem chkQ_spec : ∀ d lo : Nat, chkQ d lo = true → ∀ x, lo ≤ x → x < lo + 2 ^ d → GQ % x ≠ 0
  | 0, lo, h, x, h1, h2 => by
    obtain rfl : x = lo := by rw [Nat.pow_zero] at h2; omega
    have := Nat.le_of_ble_eq_true h; omega
  | d + 1, lo, h, x, h1, h2 => by
    unfold chkQ at h
    rw [Bool.and_eq_true] at h
    by_cases hx : x < lo + 2 ^ d
    · exact chkQ_spec d lo h.1 x h1 hx
    · exact chkQ_spec d _ h.2 x (by omega) (by rw [Nat.pow_succ] at h2; omega)
theorem chkq_all : chkQ 15 2 = true := by decide +kernel
theorem GQ_prime : ∀ k, 0 < k → k < GQ → Nat.Coprime GQ k := by
  intro k h0 h1
  show Nat.gcd GQ k = 1
  obtain ⟨h, hh⟩ := Nat.gcd_dvd_left GQ k
  have hle : Nat.gcd GQ k ≤ k := Nat.gcd_le_right _ h0
  generalize Nat.gcd GQ k = g at hh hle
  have small : ∀ x y : Nat, GQ = x * y → 2 ≤ x → x ≤ y → False := by
    intro x y hxy h2 hxy'
    have hs : x < 2 + 2 ^ 15 := by
      apply Nat.lt_of_not_le
      intro hb
      have := Nat.mul_le_mul hb (Nat.le_trans hb hxy')
      rw [← hxy] at this
      exact absurd this (by decide)
    exact chkQ_spec 15 2 chkq_all x h2 hs (by rw [hxy]; exact Nat.mul_mod_right _ _)
  by_cases hg : g ≤ 1
  · have : g ≠ 0 := by rintro rfl; rw [Nat.zero_mul] at hh; exact absurd hh (by decide)
    omega
  · exfalso
    have hh2 : 2 ≤ h := by
      apply Nat.lt_of_not_le
      intro hle1
      have : g * h ≤ g * 1 := Nat.mul_le_mul_left _ hle1
      omega
    by_cases hc : g ≤ h
    · exact small g h hh (by omega) hc
    · exact small h g (by rw [hh, Nat.mul_comm]) hh2 (by omega)
theorem inv_gen {p : Nat} (hp1 : 1 < p) (hp : ∀ k, 0 < k → k < p → Nat.Coprime p k) (n : Nat) (hn : n + 2 = p) (d : Nat) (h0 : 0 < d) (h1 : d < p) : d * d ^ n % p = 1 := by
  have h := fermat1 hp1 hp d h0 h1
  rw [show p - 1 = n + 1 by omega, Nat.pow_succ, Nat.mul_comm] at h
  exact h
theorem one_gen (d k : Nat) (h : pw 4 d = 1) (hk : d * k % 500000003 = 1) : False := by
  have h4 := ((inG_iff 4).1 in4).2.2
  have e : pw 4 (d * k) = 1 := by rw [pw_mul, h, pw_one_base]
  rw [pw_rem 4 h4, hk, pw_one 4 (by decide)] at e
  exact absurd e (by decide)
theorem base_ne_one (d : Nat) (h0 : 0 < d) (h1 : d < 500000003) : pw 4 d ≠ 1 := fun h =>
  one_gen d (d ^ 500000001) h (inv_gen (p := GQ) (by decide) GQ_prime 500000001 rfl d h0 h1)
theorem base_lt (a b : Nat) (hab : a < b) (hb : b < 500000003) (h : pw 4 a = pw 4 b) : False := by
  obtain ⟨d, rfl⟩ : ∃ d, b = a + d := ⟨b - a, by omega⟩
  rw [pw_add] at h
  have hi := inv_mul (pw 4 a) (inG_pw 4 a in4)
  have hd := pw_lt 4 d
  refine base_ne_one d (by omega) (by omega) ?_
  generalize pw 4 d = D at *
  generalize pw 4 a = A at *
  generalize pw A 500000002 = I at *
  have e : A * I % GP = D * (A * I % GP) % GP := by
    rw [Nat.mul_mod_mod, ← Nat.mul_assoc, Nat.mul_comm D A, ← Nat.mod_mul_mod (A * D), ← h]
  rw [hi, Nat.mul_one, Nat.mod_eq_of_lt hd] at e
  exact e.symm
theorem base_inj (a b : Nat) (ha : a < 500000003) (hb : b < 500000003) : pw 4 a = pw 4 b ↔ a = b := by
  refine ⟨fun h => ?_, fun h => by rw [h]⟩
  rcases Nat.lt_trichotomy a b with hab | hab | hab
  · exact (base_lt a b hab hb h).elim
  · exact hab
  · exact (base_lt b a hab ha h.symm).elim
open Go.RowKit in
theorem is_pw4 (a : Nat) (w : World) : Calls Tryz.prog 91 #[.int .u32 (pw 4 a : Int)] w fun e w' => e = .returned (.bool true) ∧ Grown w w' := by
  have h := is_any (pw 4 a) (GP_u32 (pw_lt 4 a)) w
  rw [inG_pw 4 a in4] at h
  exact h
end Go.Proofs.YtnknkiiikeefgaaGreatDoor.grp

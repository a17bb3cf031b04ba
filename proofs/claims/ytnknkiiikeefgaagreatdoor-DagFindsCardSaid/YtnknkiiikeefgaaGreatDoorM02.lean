/- The maths of layer 2: powers modulo P by squaring; Fermat's theorem for P. Fermat's theorem for P, by binomial coefficients; that P is prime, by the kernel; which of a number and its opposite is in the group. -/
import Derived.Test.YtnknkiiikeefgaaGreatDoorRows
namespace Go.Proofs.YtnknkiiikeefgaaGreatDoor.grp
set_option linter.unusedVariables false
/-- P, as a plain definition. -/
def GP : Nat := 1000000007
theorem GP_pos : 0 < GP := by unfold GP; omega
theorem GP_val : GP = 1000000007 := rfl
/-- a power modulo P -/
def pw (a n : Nat) : Nat := a ^ n % GP
theorem pw_lt (a n : Nat) : pw a n < GP := Nat.mod_lt _ GP_pos
theorem pw_zero (a : Nat) : pw a 0 = 1 := by unfold pw GP; rfl
theorem pw_one (a : Nat) (h : a < GP) : pw a 1 = a := by unfold pw; rw [Nat.pow_one]; exact Nat.mod_eq_of_lt h
theorem pw_add (a m n : Nat) : pw a (m + n) = pw a m * pw a n % GP := by unfold pw; rw [Nat.pow_add, Nat.mul_mod]
theorem pw_mul (a m n : Nat) : pw a (m * n) = pw (pw a m) n := by unfold pw; rw [Nat.pow_mul, ← Nat.pow_mod]
theorem pw_of (a n : Nat) : pw (a % GP) n = pw a n := by unfold pw; rw [← Nat.pow_mod]
theorem pw_prod (a b n : Nat) : pw (a * b % GP) n = pw a n * pw b n % GP := by rw [pw_of]; unfold pw; rw [Nat.mul_pow, Nat.mul_mod]
theorem pw_one_base (n : Nat) : pw 1 n = 1 := by unfold pw; rw [Nat.one_pow]; rfl
theorem pw_dbl (a n : Nat) : pw a (2 * n) = pw a n * pw a n % GP := by rw [Nat.two_mul, pw_add]
/-- in the group -/
def inG (a : Nat) : Bool := decide (1 ≤ a ∧ a < GP ∧ pw a 500000003 = 1)
theorem inG_iff (a : Nat) : inG a = true ↔ 1 ≤ a ∧ a < GP ∧ pw a 500000003 = 1 := by simp [inG]
theorem pw_cycle (a : Nat) (h : pw a 500000003 = 1) (m k : Nat) : pw a (m + 500000003 * k) = pw a m := by
  rw [pw_add, pw_mul, h, pw_one_base, Nat.mul_one]; exact Nat.mod_eq_of_lt (pw_lt _ _)
theorem pw_rem (a : Nat) (h : pw a 500000003 = 1) (n : Nat) : pw a n = pw a (n % 500000003) := by
  have := pw_cycle a h (n % 500000003) (n / 500000003)
  rw [Nat.mod_add_div] at this; exact this
theorem one_le_of_pw {a n : Nat} (hn : 0 < n) (h : pw a n = 1) : a ≠ 0 := by
  rintro rfl
  have : pw 0 n = 0 := by unfold pw; rw [Nat.zero_pow hn]; rfl
  omega
theorem inG_pw (a n : Nat) (h : inG a = true) : inG (pw a n) = true := by
  obtain ⟨_, _, h⟩ := (inG_iff a).1 h
  have e : pw (pw a n) 500000003 = 1 := by rw [← pw_mul, Nat.mul_comm, pw_mul, h, pw_one_base]
  exact (inG_iff _).2 ⟨Nat.pos_of_ne_zero (one_le_of_pw (by omega) e), pw_lt _ _, e⟩
theorem inG_mul (a b : Nat) (ha : inG a = true) (hb : inG b = true) : inG (a * b % GP) = true := by
  obtain ⟨_, _, h⟩ := (inG_iff a).1 ha
  obtain ⟨_, _, g⟩ := (inG_iff b).1 hb
  have e : pw (a * b % GP) 500000003 = 1 := by rw [pw_prod, h, g]; rfl
  exact (inG_iff _).2 ⟨Nat.pos_of_ne_zero (one_le_of_pw (by omega) e), Nat.mod_lt _ GP_pos, e⟩
/-- a power by squaring, for the kernel -/
def pwF : Nat → Nat → Nat → Nat → Nat
  | 0, p, _, _ => p
  | f + 1, p, a, n => pwF f (if n % 2 = 1 then p * a % GP else p) (a * a % GP) (n / 2)
theorem pwF_eq : ∀ (f p a n : Nat), n < 2 ^ f → p < GP → pwF f p a n = p * pw a n % GP
  | 0, p, a, n, h, hp => by
    have : n = 0 := by simp at h; exact h
    subst this; rw [pw_zero, Nat.mul_one]; exact (Nat.mod_eq_of_lt hp).symm
  | f + 1, p, a, n, h, hp => by
    have hn : n / 2 < 2 ^ f := by rw [Nat.pow_succ] at h; omega
    have e : pw (a * a % GP) (n / 2) = pw a (2 * (n / 2)) := by rw [pw_prod, ← pw_add, Nat.two_mul]
    unfold pwF
    split
    · rename_i h1
      rw [pwF_eq f _ _ _ hn (Nat.mod_lt _ GP_pos), e]
      have : n = 2 * (n / 2) + 1 := by omega
      have e1 : pw a n = a % GP * pw a (2 * (n / 2)) % GP := by
        conv => lhs; rw [this, Nat.add_comm, pw_add]
        unfold pw; rw [Nat.pow_one]
      rw [e1, Nat.mod_mul_mod, Nat.mul_mod_mod, Nat.mul_left_comm, Nat.mod_mul_mod, Nat.mul_left_comm, Nat.mul_assoc]
    · rw [pwF_eq f _ _ _ hn hp, e]
      have : 2 * (n / 2) = n := by omega
      rw [this]
end Go.Proofs.YtnknkiiikeefgaaGreatDoor.grp
namespace Go.Proofs.YtnknkiiikeefgaaGreatDoor.grp
set_option linter.unusedVariables false
def ch : Nat → Nat → Nat
  | _, 0 => 1
  | 0, _ + 1 => 0
  | n + 1, k + 1 => ch n k + ch n (k + 1)
theorem ch_zero (n : Nat) : ch n 0 = 1 := by cases n <;> rfl
theorem ch_zero_succ (k : Nat) : ch 0 (k + 1) = 0 := rfl
theorem ch_succ (n k : Nat) : ch (n + 1) (k + 1) = ch n k + ch n (k + 1) := rfl
theorem ch_id : ∀ n k : Nat, (k + 1) * ch (n + 1) (k + 1) = (n + 1) * ch n k
  | 0, 0 => rfl
  | 0, k + 1 => by rw [ch_succ, ch_zero_succ, ch_zero_succ]; rfl
  | n + 1, 0 => by
    have h := ch_id n 0
    rw [ch_succ, ch_zero, Nat.mul_add, h, ch_zero]; omega
  | n + 1, k + 1 => by
    have h1 := ch_id n (k + 1)
    have h2 := ch_id n k
    have h3 : (n + 1) * ch (n + 1) (k + 1) = (n + 1) * ch n k + (n + 1) * ch n (k + 1) := by rw [ch_succ, Nat.mul_add]
    rw [ch_succ (n + 1) (k + 1), Nat.mul_add, h1, Nat.add_mul (k + 1) 1, h2, Nat.add_mul (n + 1) 1, h3]
    omega
theorem ch_big : ∀ n k : Nat, n < k → ch n k = 0
  | _, 0, h => by omega
  | 0, k + 1, _ => rfl
  | n + 1, k + 1, h => by rw [ch_succ, ch_big n k (by omega), ch_big n (k + 1) (by omega)]
theorem ch_self : ∀ n : Nat, ch n n = 1
  | 0 => rfl
  | n + 1 => by rw [ch_succ, ch_self n, ch_big n (n + 1) (by omega)]
def bs (a n : Nat) : Nat → Nat
  | 0 => 0
  | m + 1 => bs a n m + ch n m * a ^ m
theorem bs_succ (a n m : Nat) : bs a n (m + 1) = bs a n m + ch n m * a ^ m := rfl
theorem bs_step (a n : Nat) : ∀ m : Nat, bs a (n + 1) (m + 1) = bs a n (m + 1) + a * bs a n m
  | 0 => by simp [bs, ch_zero]
  | m + 1 => by
    rw [bs_succ a (n + 1) (m + 1), bs_step a n m, bs_succ a n (m + 1), ch_succ, Nat.add_mul, bs_succ a n m, Nat.mul_add, Nat.pow_succ, show a * (ch n m * a ^ m) = ch n m * (a ^ m * a) by rw [Nat.mul_left_comm, Nat.mul_comm a]]
    omega
theorem bs_all (a : Nat) : ∀ n : Nat, bs a n (n + 1) = (1 + a) ^ n
  | 0 => by simp [bs, ch]
  | n + 1 => by
    rw [bs_step, bs_succ a n (n + 1), ch_big n (n + 1) (by omega), Nat.zero_mul, Nat.add_zero, bs_all a n, Nat.pow_succ, Nat.mul_comm _ (1 + a), Nat.add_mul, Nat.one_mul]
theorem dvd_ch {p : Nat} (hp1 : 1 < p) (hp : ∀ k, 0 < k → k < p → Nat.Coprime p k) (k : Nat) (h0 : 0 < k) (h1 : k < p) : p ∣ ch p k := by
  obtain ⟨j, rfl⟩ : ∃ j, k = j + 1 := ⟨k - 1, by omega⟩
  obtain ⟨q, rfl⟩ : ∃ q, p = q + 1 := ⟨p - 1, by omega⟩
  exact (hp _ h0 h1).dvd_of_dvd_mul_left ⟨_, ch_id q j⟩
theorem bs_mod {p : Nat} (hp1 : 1 < p) (hp : ∀ k, 0 < k → k < p → Nat.Coprime p k) (a : Nat) : ∀ m : Nat, m < p → bs a p (m + 1) % p = 1 % p
  | 0, _ => by simp [bs, ch_zero]
  | m + 1, h => by
    obtain ⟨c, hc⟩ := dvd_ch hp1 hp (m + 1) (by omega) h
    rw [bs_succ, hc, Nat.mul_assoc, Nat.add_mul_mod_self_left]; exact bs_mod hp1 hp a m (by omega)
theorem freshman {p : Nat} (hp1 : 1 < p) (hp : ∀ k, 0 < k → k < p → Nat.Coprime p k) (a : Nat) : (1 + a) ^ p % p = (1 + a ^ p) % p := by
  have h := bs_mod hp1 hp a (p - 1) (by omega)
  rw [show p - 1 + 1 = p by omega] at h
  rw [← bs_all, bs_succ, ch_self, Nat.one_mul, Nat.add_mod, h, ← Nat.add_mod]
theorem fermat {p : Nat} (hp1 : 1 < p) (hp : ∀ k, 0 < k → k < p → Nat.Coprime p k) : ∀ a : Nat, a ^ p % p = a % p
  | 0 => by rw [Nat.zero_pow (by omega)]
  | a + 1 => by
    rw [Nat.add_comm, freshman hp1 hp, Nat.add_mod, fermat hp1 hp a, ← Nat.add_mod]
theorem fermat1 {p : Nat} (hp1 : 1 < p) (hp : ∀ k, 0 < k → k < p → Nat.Coprime p k) (a : Nat) (h0 : 0 < a) (h1 : a < p) : a ^ (p - 1) % p = 1 := by
  have h := fermat hp1 hp a
  have hpos : 0 < a ^ (p - 1) := Nat.pow_pos h0
  have e : a ^ p = a * a ^ (p - 1) := by
    conv => lhs; rw [show p = (p - 1) + 1 by omega, Nat.pow_succ, Nat.mul_comm]
  have hd : p ∣ a * (a ^ (p - 1) - 1) := by
    rw [Nat.mul_sub, Nat.mul_one, ← e]
    exact Nat.dvd_of_mod_eq_zero (Nat.sub_mod_eq_zero_of_mod_eq h)
  obtain ⟨c, hc⟩ := (hp a h0 h1).dvd_of_dvd_mul_left hd
  have : a ^ (p - 1) = 1 + p * c := by omega
  rw [this, Nat.add_mul_mod_self_left]; exact Nat.mod_eq_of_lt hp1
theorem root_one {p : Nat} (hp1 : 1 < p) (hp : ∀ k, 0 < k → k < p → Nat.Coprime p k) (x : Nat) (hx : x < p) (h : x * x % p = 1) : x = 1 ∨ x = p - 1 := by
  by_cases h1 : x = 1
  · exact Or.inl h1
  · right
    have h0 : x ≠ 0 := by rintro rfl; simp at h
    obtain ⟨y, rfl⟩ : ∃ y, x = y + 1 := ⟨x - 1, by omega⟩
    have hd : p ∣ y * (y + 2) := by
      have e : (y + 1) * (y + 1) = y * (y + 2) + 1 := by rw [Nat.mul_add, Nat.add_mul, Nat.mul_add]; omega
      rw [e] at h
      have := Nat.mod_add_div (y * (y + 2) + 1) p
      rw [h] at this
      exact ⟨(y * (y + 2) + 1) / p, by omega⟩
    obtain ⟨c, hc⟩ := (hp y (by omega) (by omega)).dvd_of_dvd_mul_left hd
    have : c = 1 := by
      match c, hc with
      | 0, hc => omega
      | 1, _ => rfl
      | c + 2, hc => rw [Nat.mul_add] at hc; omega
    subst this; omega
/-- no divisor among the 2 ^ d numbers from lo on -/
def chkR : Nat → Nat → Bool
  | 0, lo => Nat.ble 1 (GP % lo)
  | d + 1, lo => chkR d lo && chkR d (lo + 2 ^ d)
theorem chkR_spec : ∀ d lo : Nat, chkR d lo = true → ∀ x, lo ≤ x → x < lo + 2 ^ d → GP % x ≠ 0
  | 0, lo, h, x, h1, h2 => by
    obtain rfl : x = lo := by rw [Nat.pow_zero] at h2; omega
    have := Nat.le_of_ble_eq_true h; omega
  | d + 1, lo, h, x, h1, h2 => by
    unfold chkR at h
    rw [Bool.and_eq_true] at h
    by_cases hx : x < lo + 2 ^ d
    · exact chkR_spec d lo h.1 x h1 hx
    · exact chkR_spec d _ h.2 x (by omega) (by rw [Nat.pow_succ] at h2; omega)
theorem chk_all : chkR 15 2 = true := by decide +kernel
theorem GP_prime : ∀ k, 0 < k → k < GP → Nat.Coprime GP k := by
  intro k h0 h1
  show Nat.gcd GP k = 1
  obtain ⟨h, hh⟩ := Nat.gcd_dvd_left GP k
  have hle : Nat.gcd GP k ≤ k := Nat.gcd_le_right _ h0
  generalize Nat.gcd GP k = g at hh hle
  have small : ∀ x y : Nat, GP = x * y → 2 ≤ x → x ≤ y → False := by
    intro x y hxy h2 hxy'
    have hs : x < 2 + 2 ^ 15 := by
      apply Nat.lt_of_not_le
      intro hb
      have := Nat.mul_le_mul hb (Nat.le_trans hb hxy')
      rw [← hxy] at this
      exact absurd this (by decide)
    exact chkR_spec 15 2 chk_all x h2 hs (by rw [hxy]; exact Nat.mul_mod_right _ _)
  by_cases hg : g ≤ 1
  · have : g ≠ 0 := by rintro rfl; rw [Nat.zero_mul] at hh; exact absurd hh (by decide)
    omega
  · exfalso
    have hh2 : 2 ≤ h := by
      apply Nat.lt_of_not_le
      intro hle1
      have : g * h ≤ g * 1 := Nat.mul_le_mul_left _ hle1
      omega
    by_cases hc : g ≤ h
    · exact small g h hh (by omega) hc
    · exact small h g (by rw [hh, Nat.mul_comm]) hh2 (by omega)
theorem pw_fermat (a : Nat) (h0 : 0 < a) (h1 : a < GP) : pw a (2 * 500000003) = 1 := by
  have h := fermat1 (p := GP) (by decide) GP_prime a h0 h1
  rw [show GP - 1 = 2 * 500000003 from by decide] at h
  unfold pw; exact h
theorem half_or (a : Nat) (h0 : 0 < a) (h1 : a < GP) : pw a 500000003 = 1 ∨ pw a 500000003 = GP - 1 := by
  have h := pw_fermat a h0 h1
  rw [pw_dbl] at h
  exact root_one (p := GP) (by decide) GP_prime _ (pw_lt _ _) h
theorem square_in (a : Nat) (h0 : 0 < a) (h1 : a < GP) : inG (a * a % GP) = true := by
  have e : pw (a * a % GP) 500000003 = 1 := by rw [pw_prod, ← pw_dbl]; exact pw_fermat a h0 h1
  exact (inG_iff _).2 ⟨Nat.pos_of_ne_zero (one_le_of_pw (by omega) e), Nat.mod_lt _ GP_pos, e⟩
theorem neg_sq (a : Nat) (h1 : a < GP) : (GP - a) * (GP - a) % GP = a * a % GP := by
  obtain ⟨b, hb⟩ : ∃ b, GP = a + b := ⟨GP - a, by omega⟩
  rw [show GP - a = b by omega, hb]
  have e : b * b + a * (a + b) = a * a + b * (a + b) := by rw [Nat.mul_add, Nat.mul_add, Nat.mul_comm a b]; omega
  have := congrArg (· % (a + b)) e
  simpa [Nat.add_mul_mod_self_right] using this
theorem neg_pw (a j : Nat) (h1 : a < GP) : (pw (GP - a) (2 * j + 1) + pw a (2 * j + 1)) % GP = 0 := by
  have e : pw (GP - a) (2 * j) = pw a (2 * j) := by
    rw [Nat.two_mul, pw_add, ← pw_prod, neg_sq a h1, pw_prod, ← pw_add]
  have p1 : ∀ x, pw x 1 = x % GP := fun x => by unfold pw; rw [Nat.pow_one]
  rw [pw_add, pw_add, e, p1, p1, Nat.mul_mod_mod, Nat.mul_mod_mod, ← Nat.add_mod, ← Nat.mul_add, show GP - a + a = GP by omega]
  exact Nat.mul_mod_left _ _
theorem half_ne (a : Nat) (h0 : 0 < a) (h1 : a < GP) : inG a = !inG (GP - a) := by
  have h := neg_pw a 250000001 h1
  rw [show 2 * 250000001 + 1 = 500000003 from rfl] at h
  have l1 := pw_lt a 500000003
  have l2 := pw_lt (GP - a) 500000003
  have hG : 2 < GP := by decide
  rcases half_or a h0 h1 with e | e
  · have : inG a = true := (inG_iff a).2 ⟨h0, h1, e⟩
    have hn : inG (GP - a) = false := by
      apply Bool.eq_false_iff.2
      intro hc
      obtain ⟨_, _, e2⟩ := (inG_iff _).1 hc
      rw [e, e2, Nat.mod_eq_of_lt hG] at h
      exact absurd h (by decide)
    rw [this, hn]; rfl
  · have hn : inG a = false := by
      apply Bool.eq_false_iff.2
      intro hc
      obtain ⟨_, _, e2⟩ := (inG_iff _).1 hc
      omega
    have e2 : pw (GP - a) 500000003 = 1 := by
      rw [e] at h
      generalize pw (GP - a) 500000003 = y at h l2
      obtain ⟨c, hc⟩ := Nat.dvd_of_mod_eq_zero h
      match c, hc with
      | 0, hc => omega
      | 1, hc => omega
      | c + 2, hc => rw [Nat.mul_add] at hc; omega
    have : inG (GP - a) = true := (inG_iff _).2 ⟨by omega, by omega, e2⟩
    rw [this, hn]; rfl
end Go.Proofs.YtnknkiiikeefgaaGreatDoor.grp

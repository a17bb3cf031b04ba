/- The maths of layer 2: powers modulo P by squaring; Fermat's theorem for P. -/
import Derived.Test.YtfncepfjnljhlaaDoorRows
namespace Go.Proofs.YtfncepfjnljhlaaDoor.grp
set_option linter.unusedVariables false
/-- P, as a plain definition. -/
def GP : Nat := 1000000007
theorem GP_pos : 0 < GP := by unfold GP; omega
theorem GP_val : GP = 1000000007 := rfl
/-- a power modulo P -/
def pw (a n : Nat) : Nat := a ^ n % GP
theorem pw_lt (a n : Nat) : pw a n < GP := Nat.mod_lt _ GP_pos
theorem pw_zero (a : Nat) : pw a 0 = 1 := by unfold pw GP; rfl
theorem pw_one (a : Nat) (h : a < GP) : pw a 1 = a := by unfold pw; rw [Nat.pow_one]; exact Nat.mod_eq_of_lt h
theorem pw_add (a m n : Nat) : pw a (m + n) = pw a m * pw a n % GP := by unfold pw; rw [Nat.pow_add, Nat.mul_mod]
theorem pw_mul (a m n : Nat) : pw a (m * n) = pw (pw a m) n := by unfold pw; rw [Nat.pow_mul, ← Nat.pow_mod]
theorem pw_of (a n : Nat) : pw (a % GP) n = pw a n := by unfold pw; rw [← Nat.pow_mod]
theorem pw_prod (a b n : Nat) : pw (a * b % GP) n = pw a n * pw b n % GP := by rw [pw_of]; unfold pw; rw [Nat.mul_pow, Nat.mul_mod]
theorem pw_one_base (n : Nat) : pw 1 n = 1 := by unfold pw; rw [Nat.one_pow]; rfl
theorem pw_dbl (a n : Nat) : pw a (2 * n) = pw a n * pw a n % GP := by rw [Nat.two_mul, pw_add]
/-- in the group -/
def inG (a : Nat) : Bool := decide (1 ≤ a ∧ a < GP ∧ pw a 500000003 = 1)
theorem inG_iff (a : Nat) : inG a = true ↔ 1 ≤ a ∧ a < GP ∧ pw a 500000003 = 1 := by simp [inG]
theorem pw_cycle (a : Nat) (h : pw a 500000003 = 1) (m k : Nat) : pw a (m + 500000003 * k) = pw a m := by
  rw [pw_add, pw_mul, h, pw_one_base, Nat.mul_one]; exact Nat.mod_eq_of_lt (pw_lt _ _)
theorem pw_rem (a : Nat) (h : pw a 500000003 = 1) (n : Nat) : pw a n = pw a (n % 500000003) := by
  have := pw_cycle a h (n % 500000003) (n / 500000003)
  rw [Nat.mod_add_div] at this; exact this
theorem one_le_of_pw {a n : Nat} (hn : 0 < n) (h : pw a n = 1) : a ≠ 0 := by
  rintro rfl
  have : pw 0 n = 0 := by unfold pw; rw [Nat.zero_pow hn]; rfl
  omega
theorem inG_pw (a n : Nat) (h : inG a = true) : inG (pw a n) = true := by
  obtain ⟨_, _, h⟩ := (inG_iff a).1 h
  have e : pw (pw a n) 500000003 = 1 := by rw [← pw_mul, Nat.mul_comm, pw_mul, h, pw_one_base]
  exact (inG_iff _).2 ⟨Nat.pos_of_ne_zero (one_le_of_pw (by omega) e), pw_lt _ _, e⟩
theorem inG_mul (a b : Nat) (ha : inG a = true) (hb : inG b = true) : inG (a * b % GP) = true := by
  obtain ⟨_, _, h⟩ := (inG_iff a).1 ha
  obtain ⟨_, _, g⟩ := (inG_iff b).1 hb
  have e : pw (a * b % GP) 500000003 = 1 := by rw [pw_prod, h, g]; rfl
  exact (inG_iff _).2 ⟨Nat.pos_of_ne_zero (one_le_of_pw (by omega) e), Nat.mod_lt _ GP_pos, e⟩
/-- a power by squaring, for the kernel -/
def pwF : Nat → Nat → Nat → Nat → Nat
  | 0, p, _, _ => p
  | f + 1, p, a, n => pwF f (if n % 2 = 1 then p * a % GP else p) (a * a % GP) (n / 2)
theorem pwF_eq : ∀ (f p a n : Nat), n < 2 ^ f → p < GP → pwF f p a n = p * pw a n % GP
  | 0, p, a, n, h, hp => by
    have : n = 0 := by simp at h; exact h
    subst this; rw [pw_zero, Nat.mul_one]; exact (Nat.mod_eq_of_lt hp).symm
  | f + 1, p, a, n, h, hp => by
    have hn : n / 2 < 2 ^ f := by rw [Nat.pow_succ] at h; omega
    have e : pw (a * a % GP) (n / 2) = pw a (2 * (n / 2)) := by rw [pw_prod, ← pw_add, Nat.two_mul]
    unfold pwF
    split
    · rename_i h1
      rw [pwF_eq f _ _ _ hn (Nat.mod_lt _ GP_pos), e]
      have : n = 2 * (n / 2) + 1 := by omega
      have e1 : pw a n = a % GP * pw a (2 * (n / 2)) % GP := by
        conv => lhs; rw [this, Nat.add_comm, pw_add]
        unfold pw; rw [Nat.pow_one]
      rw [e1, Nat.mod_mul_mod, Nat.mul_mod_mod, Nat.mul_left_comm, Nat.mod_mul_mod, Nat.mul_left_comm, Nat.mul_assoc]
    · rw [pwF_eq f _ _ _ hn hp, e]
      have : 2 * (n / 2) = n := by omega
      rw [this]
end Go.Proofs.YtfncepfjnljhlaaDoor.grp

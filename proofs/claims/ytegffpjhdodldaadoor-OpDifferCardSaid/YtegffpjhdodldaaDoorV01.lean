/- The maths of package value: the parts of 64 bits, classes, places. -/
import Derived.Test.YtegffpjhdodldaaDoorW01
import Derived.Test.YtegffpjhdodldaaDoorLibB
import Derived.Test.YtegffpjhdodldaaDoorLibD
import Derived.Laws.Bits64
namespace Go.Proofs.YtegffpjhdodldaaDoor.wir.val
open Go.RowKit Go.YtegffpjhdodldaaDoor
set_option linter.unusedVariables false
def spX (b : Nat) : Nat := b / 4503599627370496 % 2048
def spF (b : Nat) : Nat := b % 4503599627370496
def clsF (b : Nat) : Nat := if spX b = 0 ∧ spF b = 0 then 1 else if spX b = 0 then 2 else if spX b = 2047 ∧ spF b = 0 then 4 else if spX b = 2047 then 5 else 3
def canF (b : Nat) : Nat := if clsF b = 5 then 9221120237041090560 else b
theorem spX_lt (b : Nat) : spX b < 2048 := Nat.mod_lt _ (by omega)
theorem spF_lt (b : Nat) : spF b < 4503599627370496 := Nat.mod_lt _ (by omega)
theorem canF_lt (b : Nat) (h : b < 18446744073709551616) : canF b < 18446744073709551616 := by unfold canF; split <;> omega
theorem clsF_none : clsF 9221120237041090560 = 5 := by decide +kernel
theorem canF_canF (b : Nat) : canF (canF b) = canF b := by
  unfold canF
  by_cases h : clsF b = 5
  · rw [if_pos h, if_pos clsF_none]
  · rw [if_neg h, if_neg h]
theorem bits_and_nat (a b : Nat) (ha : a < 18446744073709551616) (hb : b < 18446744073709551616) : bits .and .u64 (a : Int) (b : Int) = ((a &&& b : Nat) : Int) := by
  have hx : a &&& b < 2 ^ 64 := Nat.and_lt_two_pow _ (by omega)
  have h1 : (BitVec.ofInt 64 (a : Int)).toNat = a := by
    rw [BitVec.ofInt_natCast, BitVec.toNat_ofNat]; exact Nat.mod_eq_of_lt (by omega)
  have h2 : (BitVec.ofInt 64 (b : Int)).toNat = b := by
    rw [BitVec.ofInt_natCast, BitVec.toNat_ofNat]; exact Nat.mod_eq_of_lt (by omega)
  show IntKind.u64.wrap ((BitVec.ofInt 64 (a : Int) &&& BitVec.ofInt 64 (b : Int)).toNat : Int) = _
  rw [BitVec.toNat_and, h1, h2, IntKind.wrap_u64]
  omega
theorem bits_or_nat (a b : Nat) (ha : a < 18446744073709551616) (hb : b < 18446744073709551616) : bits .or .u64 (a : Int) (b : Int) = ((a ||| b : Nat) : Int) := by
  have hx : a ||| b < 2 ^ 64 := Nat.or_lt_two_pow (by omega) (by omega)
  have h1 : (BitVec.ofInt 64 (a : Int)).toNat = a := by
    rw [BitVec.ofInt_natCast, BitVec.toNat_ofNat]; exact Nat.mod_eq_of_lt (by omega)
  have h2 : (BitVec.ofInt 64 (b : Int)).toNat = b := by
    rw [BitVec.ofInt_natCast, BitVec.toNat_ofNat]; exact Nat.mod_eq_of_lt (by omega)
  show IntKind.u64.wrap ((BitVec.ofInt 64 (a : Int) ||| BitVec.ofInt 64 (b : Int)).toNat : Int) = _
  rw [BitVec.toNat_or, h1, h2, IntKind.wrap_u64]
  omega
theorem and_2047 (a : Nat) (ha : a < 18446744073709551616) : bits .and .u64 (a : Int) 2047 = ((a % 2048 : Nat) : Int) := by
  have h := bits_and_nat a 2047 ha (by omega)
  rw [show (2047 : Nat) = 2 ^ 11 - 1 by decide, Nat.and_two_pow_sub_one_eq_mod] at h
  exact h
theorem and_F (a : Nat) (ha : a < 18446744073709551616) : bits .and .u64 (a : Int) 4503599627370495 = ((a % 4503599627370496 : Nat) : Int) := by
  have h := bits_and_nat a 4503599627370495 ha (by omega)
  rw [show (4503599627370495 : Nat) = 2 ^ 52 - 1 by decide, Nat.and_two_pow_sub_one_eq_mod] at h
  exact h
theorem or_high (k a b : Nat) (hb : b < 2 ^ k) (h : 2 ^ k * a + b < 18446744073709551616) : bits .or .u64 ((2 ^ k * a : Nat) : Int) (b : Int) = ((2 ^ k * a + b : Nat) : Int) := by
  rw [bits_or_nat _ _ (by omega) (by omega), Nat.two_pow_add_eq_or_of_lt hb]
end Go.Proofs.YtegffpjhdodldaaDoor.wir.val

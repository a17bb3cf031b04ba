/- Contracts of Mul, Pow, Inv, Base, of both packages. -/
import Derived.Test.YtpklfohaifeboaaDoorD
namespace Go.Proofs.YtpklfohaifeboaaDoor.grp
open Go.RowKit
set_option linter.unusedVariables false
theorem inG_lt {a : Nat} (h : inG a = true) : a < GP := ((inG_iff a).1 h).2.1
theorem inG_u32 {a : Nat} (h : inG a = true) : a < 4294967296 := by have := inG_lt h; unfold GP at this; omega
theorem GP_u32 {a : Nat} (h : a < GP) : a < 4294967296 := by unfold GP at h; omega
theorem mul_ok (a b : Nat) (ha : inG a = true) (hb : inG b = true) (w : World) : Calls Tryd.prog 61 #[.int .u32 (a : Int), .int .u32 (b : Int)] w fun e w' => e = .returned (.tuple #[.int .u32 ((a * b % GP : Nat) : Int), .int .i64 0]) ∧ Grown w w' := by
  have hE0 := every_is a b w.heap.size (w.alloc (.cells #[.int .u32 (a : Int), .int .u32 (b : Int)] 38)) (inG_u32 ha) (inG_u32 hb) (by simp) (by simp)
  rw [ha, hb] at hE0
  have hE := Lib.hid hE0; have la := Lib.hid (inG_lt ha); have lb := Lib.hid (inG_lt hb)
  clear hE0 ha hb
  go_enter Tryd.func61, Tryd.ntmps61
  go_wp2_with (first | (go_at_call 56; refine (hE.out).mono ?_; rintro e w' ⟨rfl, g1⟩; have g1' := Lib.hid g1; clear g1) | (go_at_call 58; refine (products_any _ _).mono ?_; rintro e w' ⟨rfl, rfl⟩) | (go_at_call 67; refine (times_GP _ _ _ _ (by simp) la.out lb.out).mono ?_; rintro e w' ⟨rfl, rfl⟩))
  go_ret2
  exact ⟨rfl, (Grown.trans' ((Grown.refl _).alloc _ _) g1'.out).alloc _ _⟩
theorem mul_bad (a b : Nat) (ha : a < 4294967296) (hb : b < 4294967296) (h : (inG a && inG b) = false) (w : World) : Calls Tryd.prog 61 #[.int .u32 (a : Int), .int .u32 (b : Int)] w fun e w' => e = .returned (.tuple #[.int .u32 0, .int .i64 2]) ∧ Grown w w' := by
  have hE0 := every_is a b w.heap.size (w.alloc (.cells #[.int .u32 (a : Int), .int .u32 (b : Int)] 38)) ha hb (by simp) (by simp)
  rw [h] at hE0
  have hE := Lib.hid hE0
  clear hE0 ha hb h
  go_enter Tryd.func61, Tryd.ntmps61
  go_wp2_with (go_at_call 56; refine (hE.out).mono ?_; rintro e w' ⟨rfl, g1⟩; have g1' := Lib.hid g1; clear g1)
  go_ret2
  exact ⟨rfl, Grown.trans' ((Grown.refl _).alloc _ _) g1'.out⟩
theorem pow_ok (a n : Nat) (ha : inG a = true) (hn : n < 18446744073709551616) (w : World) : Calls Tryd.prog 59 #[.int .u32 (a : Int), .int .u64 (n : Int)] w fun e w' => e = .returned (.tuple #[.int .u32 (pw a n : Int), .int .i64 0]) ∧ Grown w w' := by
  have hI0 := is_any a (inG_u32 ha)
  rw [ha] at hI0
  have hI := Lib.hid hI0; have hP := Lib.hid (power_any a n (inG_lt ha) hn)
  clear hI0 ha hn
  go_enter Tryd.func59, Tryd.ntmps59
  go_wp2_with (first | (go_at_call 47; refine (hI.out _).mono ?_; rintro e w' ⟨rfl, g1⟩; have g1' := Lib.hid g1; clear g1) | (go_at_call 54; refine (hP.out _).mono ?_; rintro e w' ⟨rfl, g2⟩; have g2' := Lib.hid g2; clear g2))
  go_ret2
  exact ⟨rfl, Grown.trans' g1'.out g2'.out⟩
theorem pow_bad (a n : Nat) (ha : a < 4294967296) (h : inG a = false) (w : World) : Calls Tryd.prog 59 #[.int .u32 (a : Int), .int .u64 (n : Int)] w fun e w' => e = .returned (.tuple #[.int .u32 0, .int .i64 2]) ∧ Grown w w' := by
  have hI0 := is_any a ha
  rw [h] at hI0
  have hI := Lib.hid hI0
  clear hI0 ha h
  go_enter Tryd.func59, Tryd.ntmps59
  go_wp2_with (go_at_call 47; refine (hI.out _).mono ?_; rintro e w' ⟨rfl, g1⟩; have g1' := Lib.hid g1; clear g1)
  go_ret2
  exact ⟨rfl, g1'.out⟩
theorem inv_ok (a : Nat) (ha : inG a = true) (w : World) : Calls Tryd.prog 60 #[.int .u32 (a : Int)] w fun e w' => e = .returned (.tuple #[.int .u32 (pw a 500000002 : Int), .int .i64 0]) ∧ Grown w w' := by
  have hP := Lib.hid (pow_ok a 500000002 ha (by decide))
  clear ha
  go_enter Tryd.func60, Tryd.ntmps60
  go_wp2_with (go_at_call 59; refine (hP.out _).mono ?_; rintro e w' ⟨rfl, g1⟩; have g1' := Lib.hid g1; clear g1)
  go_ret2
  exact ⟨rfl, g1'.out⟩
theorem inv_bad (a : Nat) (ha : a < 4294967296) (h : inG a = false) (w : World) : Calls Tryd.prog 60 #[.int .u32 (a : Int)] w fun e w' => e = .returned (.tuple #[.int .u32 0, .int .i64 2]) ∧ Grown w w' := by
  have hP := Lib.hid (pow_bad a 500000002 ha h)
  clear ha h
  go_enter Tryd.func60, Tryd.ntmps60
  go_wp2_with (go_at_call 59; refine (hP.out _).mono ?_; rintro e w' ⟨rfl, g1⟩; have g1' := Lib.hid g1; clear g1)
  go_ret2
  exact ⟨rfl, g1'.out⟩
theorem base_any (n : Nat) (hn : n < 18446744073709551616) (w : World) : Calls Tryd.prog 42 #[.int .u64 (n : Int)] w fun e w' => e = .returned (.int .u32 (pw 4 n : Int)) ∧ Grown w w' := by
  have hP := Lib.hid (power_any 4 n (by decide) hn)
  clear hn
  go_enter Tryd.func42, Tryd.ntmps42
  go_wp2_with (go_at_call 54; refine (hP.out _).mono ?_; rintro e w' ⟨rfl, g1⟩; have g1' := Lib.hid g1; clear g1)
  go_ret
  exact ⟨rfl, g1'.out⟩
end Go.Proofs.YtpklfohaifeboaaDoor.grp

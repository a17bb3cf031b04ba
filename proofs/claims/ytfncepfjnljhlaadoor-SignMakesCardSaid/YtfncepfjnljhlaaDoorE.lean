/- Contracts of Mul, Pow, Inv, Base, of both packages. -/
import Derived.Test.YtfncepfjnljhlaaDoorD
namespace Go.Proofs.YtfncepfjnljhlaaDoor.grp
open Go.RowKit
set_option linter.unusedVariables false
theorem inG_lt {a : Nat} (h : inG a = true) : a < GP := ((inG_iff a).1 h).2.1
theorem inG_u32 {a : Nat} (h : inG a = true) : a < 4294967296 := by have := inG_lt h; unfold GP at this; omega
theorem GP_u32 {a : Nat} (h : a < GP) : a < 4294967296 := by unfold GP at h; omega
theorem mul_ok (a b : Nat) (ha : inG a = true) (hb : inG b = true) (w : World) : Calls Tryd.prog 48 #[.int .u32 (a : Int), .int .u32 (b : Int)] w fun e w' => e = .returned (.tuple #[.int .u32 ((a * b % GP : Nat) : Int), .int .i64 0]) ∧ Grown w w' := by
  have hE0 := every_is a b w.heap.size (w.alloc (.cells #[.int .u32 (a : Int), .int .u32 (b : Int)] 32)) (inG_u32 ha) (inG_u32 hb) (by simp) (by simp)
  rw [ha, hb] at hE0
  have hE := Lib.hid hE0; have la := Lib.hid (inG_lt ha); have lb := Lib.hid (inG_lt hb)
  clear hE0 ha hb
  go_enter Tryd.func48, Tryd.ntmps48
  go_wp2_with (first | (go_at_call 73; refine (hE.out).mono ?_; rintro e w' ⟨rfl, g1⟩; have g1' := Lib.hid g1; clear g1) | (go_at_call 74; refine (products_any _ _).mono ?_; rintro e w' ⟨rfl, rfl⟩) | (go_at_call 92; refine (times_GP _ _ _ _ (by simp) la.out lb.out).mono ?_; rintro e w' ⟨rfl, rfl⟩))
  go_ret2
  exact ⟨rfl, (Grown.trans' ((Grown.refl _).alloc _ _) g1'.out).alloc _ _⟩
theorem mul_bad (a b : Nat) (ha : a < 4294967296) (hb : b < 4294967296) (h : (inG a && inG b) = false) (w : World) : Calls Tryd.prog 48 #[.int .u32 (a : Int), .int .u32 (b : Int)] w fun e w' => e = .returned (.tuple #[.int .u32 0, .int .i64 2]) ∧ Grown w w' := by
  have hE0 := every_is a b w.heap.size (w.alloc (.cells #[.int .u32 (a : Int), .int .u32 (b : Int)] 32)) ha hb (by simp) (by simp)
  rw [h] at hE0
  have hE := Lib.hid hE0
  clear hE0 ha hb h
  go_enter Tryd.func48, Tryd.ntmps48
  go_wp2_with (go_at_call 73; refine (hE.out).mono ?_; rintro e w' ⟨rfl, g1⟩; have g1' := Lib.hid g1; clear g1)
  go_ret2
  exact ⟨rfl, Grown.trans' ((Grown.refl _).alloc _ _) g1'.out⟩
theorem pow_ok (a n : Nat) (ha : inG a = true) (hn : n < 18446744073709551616) (w : World) : Calls Tryd.prog 47 #[.int .u32 (a : Int), .int .u64 (n : Int)] w fun e w' => e = .returned (.tuple #[.int .u32 (pw a n : Int), .int .i64 0]) ∧ Grown w w' := by
  have hI0 := is_any a (inG_u32 ha)
  rw [ha] at hI0
  have hI := Lib.hid hI0; have hP := Lib.hid (power_any a n (inG_lt ha) hn)
  clear hI0 ha hn
  go_enter Tryd.func47, Tryd.ntmps47
  go_wp2_with (first | (go_at_call 45; refine (hI.out _).mono ?_; rintro e w' ⟨rfl, g1⟩; have g1' := Lib.hid g1; clear g1) | (go_at_call 72; refine (hP.out _).mono ?_; rintro e w' ⟨rfl, g2⟩; have g2' := Lib.hid g2; clear g2))
  go_ret2
  exact ⟨rfl, Grown.trans' g1'.out g2'.out⟩
theorem pow_bad (a n : Nat) (ha : a < 4294967296) (h : inG a = false) (w : World) : Calls Tryd.prog 47 #[.int .u32 (a : Int), .int .u64 (n : Int)] w fun e w' => e = .returned (.tuple #[.int .u32 0, .int .i64 2]) ∧ Grown w w' := by
  have hI0 := is_any a ha
  rw [h] at hI0
  have hI := Lib.hid hI0
  clear hI0 ha h
  go_enter Tryd.func47, Tryd.ntmps47
  go_wp2_with (go_at_call 45; refine (hI.out _).mono ?_; rintro e w' ⟨rfl, g1⟩; have g1' := Lib.hid g1; clear g1)
  go_ret2
  exact ⟨rfl, g1'.out⟩
theorem inv_ok (a : Nat) (ha : inG a = true) (w : World) : Calls Tryd.prog 51 #[.int .u32 (a : Int)] w fun e w' => e = .returned (.tuple #[.int .u32 (pw a 500000002 : Int), .int .i64 0]) ∧ Grown w w' := by
  have hP := Lib.hid (pow_ok a 500000002 ha (by decide))
  clear ha
  go_enter Tryd.func51, Tryd.ntmps51
  go_wp2_with (go_at_call 47; refine (hP.out _).mono ?_; rintro e w' ⟨rfl, g1⟩; have g1' := Lib.hid g1; clear g1)
  go_ret2
  exact ⟨rfl, g1'.out⟩
theorem inv_bad (a : Nat) (ha : a < 4294967296) (h : inG a = false) (w : World) : Calls Tryd.prog 51 #[.int .u32 (a : Int)] w fun e w' => e = .returned (.tuple #[.int .u32 0, .int .i64 2]) ∧ Grown w w' := by
  have hP := Lib.hid (pow_bad a 500000002 ha h)
  clear ha h
  go_enter Tryd.func51, Tryd.ntmps51
  go_wp2_with (go_at_call 47; refine (hP.out _).mono ?_; rintro e w' ⟨rfl, g1⟩; have g1' := Lib.hid g1; clear g1)
  go_ret2
  exact ⟨rfl, g1'.out⟩
theorem base_any (n : Nat) (hn : n < 18446744073709551616) (w : World) : Calls Tryd.prog 46 #[.int .u64 (n : Int)] w fun e w' => e = .returned (.int .u32 (pw 4 n : Int)) ∧ Grown w w' := by
  have hP := Lib.hid (power_any 4 n (by decide) hn)
  clear hn
  go_enter Tryd.func46, Tryd.ntmps46
  go_wp2_with (go_at_call 72; refine (hP.out _).mono ?_; rintro e w' ⟨rfl, g1⟩; have g1' := Lib.hid g1; clear g1)
  go_ret
  exact ⟨rfl, g1'.out⟩
theorem product_any (a b : Nat) (ha : a < GP) (hb : b < GP) (w : World) : Calls Tryd.prog 90 #[.int .u32 (a : Int), .int .u32 (b : Int)] w fun e w' => e = .returned (.int .u32 ((a * b % GP : Nat) : Int)) ∧ w' = w := by
  have la := Lib.hid ha; have lb := Lib.hid hb; have ka := GP_u32 ha; have kb := GP_u32 hb
  clear ha hb
  go_enter Tryd.func90, Tryd.ntmps90
  go_wp2
  go_ret
  refine ⟨?_, rfl⟩
  show Ending.returned (Value.int .u32 ((IntKind.u64.wrap ((a : Int) * (b : Int))).tmod 1000000007 % 4294967296)) = _
  rw [mulGP a b la.out lb.out]
  have := GP_u32 (Nat.mod_lt (a * b) GP_pos)
  congr 2
  omega
theorem raised_any (a n : Nat) (ha : a < GP) (hn : n < 18446744073709551616) (w : World) : Calls Tryd.prog 89 #[.int .u32 (a : Int), .int .u64 (n : Int)] w fun e w' => e = .returned (.int .u32 (pw a n : Int)) ∧ w' = w := by
  have hP := Lib.hid (rpower_any a n ha hn); have ka := GP_u32 ha
  have kx := Lib.hid (GP_u32 (pw_lt a n))
  clear ha hn
  go_enter Tryd.func89, Tryd.ntmps89
  go_wp2_with (go_at_call 75; refine (hP.out _).mono ?_; rintro e w' ⟨rfl, rfl⟩)
  go_ret
  refine ⟨?_, rfl⟩
  have := kx.out
  show Ending.returned (Value.int .u32 ((pw a n : Int) % 4294967296)) = _
  congr 2
  omega
theorem rinv_ok (a : Nat) (ha : inG a = true) (w : World) : Calls Tryd.prog 88 #[.int .u32 (a : Int)] w fun e w' => e = .returned (.tuple #[.int .u32 (pw a 500000002 : Int), .int .i64 0]) ∧ w' = w := by
  have hI0 := ris_any a (inG_u32 ha)
  rw [ha] at hI0
  have hI := Lib.hid hI0; have hP := Lib.hid (raised_any a 500000002 (inG_lt ha) (by decide))
  clear hI0 ha
  go_enter Tryd.func88, Tryd.ntmps88
  go_wp2_with (first | (go_at_call 49; refine (hI.out _).mono ?_; rintro e w' ⟨rfl, rfl⟩) | (go_at_call 89; refine (hP.out _).mono ?_; rintro e w' ⟨rfl, rfl⟩))
  go_ret2
  exact ⟨rfl, rfl⟩
theorem rinv_bad (a : Nat) (ha : a < 4294967296) (h : inG a = false) (w : World) : Calls Tryd.prog 88 #[.int .u32 (a : Int)] w fun e w' => e = .returned (.tuple #[.int .u32 0, .int .i64 2]) ∧ w' = w := by
  have hI0 := ris_any a ha
  rw [h] at hI0
  have hI := Lib.hid hI0
  clear hI0 ha h
  go_enter Tryd.func88, Tryd.ntmps88
  go_wp2_with (go_at_call 49; refine (hI.out _).mono ?_; rintro e w' ⟨rfl, rfl⟩)
  go_ret2
  exact ⟨rfl, rfl⟩
theorem rbase_any (n : Nat) (hn : n < 18446744073709551616) (w : World) : Calls Tryd.prog 83 #[.int .u64 (n : Int)] w fun e w' => e = .returned (.int .u32 (pw 4 n : Int)) ∧ w' = w := by
  have hP := Lib.hid (raised_any 4 n (by decide) hn)
  clear hn
  go_enter Tryd.func83, Tryd.ntmps83
  go_wp2_with (go_at_call 89; refine (hP.out _).mono ?_; rintro e w' ⟨rfl, rfl⟩)
  go_ret
  exact ⟨rfl, rfl⟩
end Go.Proofs.YtfncepfjnljhlaaDoor.grp

/- Plus and Times, of the package and of the reference. -/
import Derived.Test.YtddelpjlcmaomaaDoorA
namespace Go.Proofs.YtddelpjlcmaomaaDoor.grp
open Go.RowKit
set_option linter.unusedVariables false
theorem exponent_any (a : Nat) (ha : a < 4294967296) (w : World) : Calls Tryd.prog 59 #[.int .u32 (a : Int)] w fun e w' => e = .returned (.bool (decide (a < 500000003))) ∧ w' = w := by
  go_enter Tryd.func59, Tryd.ntmps59
  go_wp2
  go_ret
  exact ⟨ret_dec (by omega), rfl⟩
theorem two_cells (w : World) (x y : Value) (t : TypeId) : (w.alloc (.cells #[x, y] t)).cell? ⟨w.heap.size, 0, none⟩ = some x ∧ (w.alloc (.cells #[x, y] t)).cell? ⟨w.heap.size, 1, none⟩ = some y := ⟨by simp, by simp⟩
theorem plus_ok (a b : Nat) (h1 : a < 500000003) (h2 : b < 500000003) (w : World) : Calls Tryd.prog 97 #[.int .u32 (a : Int), .int .u32 (b : Int)] w fun e w' => e = .returned (.tuple #[.int .u32 (((a + b) % 500000003 : Nat) : Int), .int .i64 0]) ∧ Grown w w' := by
  have hE0 := every_exp a b w.heap.size (w.alloc (.cells #[.int .u32 (a : Int), .int .u32 (b : Int)] 22)) (by simp) (by simp)
  rw [show (decide (a < 500000003) && decide (b < 500000003)) = true from by simp [h1, h2]] at hE0
  have hE := Lib.hid hE0
  clear hE0
  go_enter Tryd.func97, Tryd.ntmps97
  go_wp2_with (go_at_call 117; refine (hE.out).mono ?_; rintro e w' ⟨rfl, rfl⟩)
  go_ret2
  exact ⟨rfl, (Grown.refl _).alloc _ _⟩
theorem plus_bad (a b : Nat) (ha : a < 4294967296) (hb : b < 4294967296) (h : ¬ (a < 500000003 ∧ b < 500000003)) (w : World) : Calls Tryd.prog 97 #[.int .u32 (a : Int), .int .u32 (b : Int)] w fun e w' => e = .returned (.tuple #[.int .u32 0, .int .i64 2]) ∧ Grown w w' := by
  have hE0 := every_exp a b w.heap.size (w.alloc (.cells #[.int .u32 (a : Int), .int .u32 (b : Int)] 22)) (by simp) (by simp)
  rw [show (decide (a < 500000003) && decide (b < 500000003)) = false from by simpa using fun h1 => Nat.le_of_not_lt fun h2 => h ⟨h1, h2⟩] at hE0
  have hE := Lib.hid hE0
  clear hE0
  go_enter Tryd.func97, Tryd.ntmps97
  go_wp2_with (go_at_call 117; refine (hE.out).mono ?_; rintro e w' ⟨rfl, rfl⟩)
  go_ret2
  exact ⟨rfl, (Grown.refl _).alloc _ _⟩
theorem times_ok (a b : Nat) (h1 : a < 500000003) (h2 : b < 500000003) (w : World) : Calls Tryd.prog 96 #[.int .u32 (a : Int), .int .u32 (b : Int)] w fun e w' => e = .returned (.tuple #[.int .u32 ((a * b % 500000003 : Nat) : Int), .int .i64 0]) ∧ Grown w w' := by
  have hE0 := every_exp a b w.heap.size (w.alloc (.cells #[.int .u32 (a : Int), .int .u32 (b : Int)] 22)) (by simp) (by simp)
  rw [show (decide (a < 500000003) && decide (b < 500000003)) = true from by simp [h1, h2]] at hE0
  have hE := Lib.hid hE0
  clear hE0
  have hT := Lib.hid (times_any 500000003 a b (w.heap.size + 1) 500000003 rfl ((w.alloc (.cells #[.int .u32 (a : Int), .int .u32 (b : Int)] 22)).alloc (.cells #[.int .u64 500000003] 24)) (by simp) (by omega) (by omega) (by omega) (by omega))
  go_enter Tryd.func96, Tryd.ntmps96
  go_wp2_with (first | (go_at_call 117; refine (hE.out).mono ?_; rintro e w' ⟨rfl, rfl⟩) | (go_at_call 115; refine (products_any _ _).mono ?_; rintro e w' ⟨rfl, rfl⟩) | (go_at_call 131; refine (hT.out).mono ?_; rintro e w' ⟨rfl, rfl⟩))
  go_ret2
  exact ⟨rfl, ((Grown.refl _).alloc _ _).alloc _ _⟩
theorem times_bad (a b : Nat) (ha : a < 4294967296) (hb : b < 4294967296) (h : ¬ (a < 500000003 ∧ b < 500000003)) (w : World) : Calls Tryd.prog 96 #[.int .u32 (a : Int), .int .u32 (b : Int)] w fun e w' => e = .returned (.tuple #[.int .u32 0, .int .i64 2]) ∧ Grown w w' := by
  have hE0 := every_exp a b w.heap.size (w.alloc (.cells #[.int .u32 (a : Int), .int .u32 (b : Int)] 22)) (by simp) (by simp)
  rw [show (decide (a < 500000003) && decide (b < 500000003)) = false from by simpa using fun h1 => Nat.le_of_not_lt fun h2 => h ⟨h1, h2⟩] at hE0
  have hE := Lib.hid hE0
  clear hE0
  go_enter Tryd.func96, Tryd.ntmps96
  go_wp2_with (go_at_call 117; refine (hE.out).mono ?_; rintro e w' ⟨rfl, rfl⟩)
  go_ret2
  exact ⟨rfl, (Grown.refl _).alloc _ _⟩
theorem nat_of_u32 (a : Int) (h : (Lit.int .u32 a).wf = true) : ∃ n : Nat, a = (n : Int) ∧ n < 4294967296 := by
  have h' : 0 ≤ a ∧ a ≤ 4294967295 := by simpa [Lit.wf, IntKind.has, IntKind.min, IntKind.max, IntKind.signed, IntKind.bits] using h
  exact ⟨a.toNat, by omega, by omega⟩
theorem nat_of_u64 (a : Int) (h : (Lit.int .u64 a).wf = true) : ∃ n : Nat, a = (n : Int) ∧ n < 18446744073709551616 := by
  have h' : 0 ≤ a ∧ a ≤ 18446744073709551615 := by simpa [Lit.wf, IntKind.has, IntKind.min, IntKind.max, IntKind.signed, IntKind.bits] using h
  exact ⟨a.toNat, by omega, by omega⟩
end Go.Proofs.YtddelpjlcmaomaaDoor.grp

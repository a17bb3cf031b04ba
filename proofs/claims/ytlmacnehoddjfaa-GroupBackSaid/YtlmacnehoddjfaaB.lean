/- Plus and Times, of the package and of the reference. -/
import Derived.Test.YtlmacnehoddjfaaA
namespace Go.Proofs.Ytlmacnehoddjfaa
open Go.RowKit
set_option linter.unusedVariables false
theorem Grown.trans' {a b c : World} (h : Grown a b) (g : Grown b c) : Grown a c :=
  ⟨World.keptBut_trans h.1 g.1, fun x => (g.2.1 x).trans (h.2.1 x), Nat.le_trans h.2.2 g.2.2⟩
theorem exponent_any (a : Nat) (ha : a < 4294967296) (w : World) : Calls Try.prog 25 #[.int .u32 (a : Int)] w fun e w' => e = .returned (.bool (decide (a < 500000003))) ∧ w' = w := by
  go_enter Try.func25, Try.ntmps25
  go_wp2
  go_ret
  exact ⟨ret_dec (by omega), rfl⟩
theorem sum_any (a b : Nat) (ha : a < 500000003) (hb : b < 500000003) (w : World) : Calls Try.prog 33 #[.int .u32 (a : Int), .int .u32 (b : Int)] w fun e w' => e = .returned (.int .u32 (((a + b) % 500000003 : Nat) : Int)) ∧ w' = w := by
  go_enter Try.func33, Try.ntmps33
  go_wp2
  go_ret
  refine ⟨?_, rfl⟩
  show Ending.returned (Value.int .u32 _) = _
  congr 2
theorem scaled_any (a b : Nat) (ha : a < 500000003) (hb : b < 500000003) (w : World) : Calls Try.prog 34 #[.int .u32 (a : Int), .int .u32 (b : Int)] w fun e w' => e = .returned (.int .u32 ((a * b % 500000003 : Nat) : Int)) ∧ w' = w := by
  go_enter Try.func34, Try.ntmps34
  go_wp2
  go_ret
  have hab : a * b < 18446744073709551616 := Nat.lt_of_lt_of_le (Nat.mul_lt_mul'' ha hb) (by decide)
  have hlt : a * b % 500000003 < 500000003 := Nat.mod_lt _ (by decide)
  have e1 : IntKind.u64.wrap ((a : Int) * (b : Int)) = ((a * b : Nat) : Int) := by rw [← Int.natCast_mul, IntKind.wrap_u64]; omega
  refine ⟨?_, rfl⟩
  show Ending.returned (Value.int .u32 ((IntKind.u64.wrap ((a : Int) * (b : Int))).tmod 500000003 % 4294967296)) = _
  rw [e1, Int.tmod_eq_emod_of_nonneg (Int.natCast_nonneg _)]
  congr 2
  omega
theorem two_cells (w : World) (x y : Value) (t : TypeId) : (w.alloc (.cells #[x, y] t)).cell? ⟨w.heap.size, 0, none⟩ = some x ∧ (w.alloc (.cells #[x, y] t)).cell? ⟨w.heap.size, 1, none⟩ = some y := ⟨by simp, by simp⟩
theorem plus_ok (a b : Nat) (h1 : a < 500000003) (h2 : b < 500000003) (w : World) : Calls Try.prog 13 #[.int .u32 (a : Int), .int .u32 (b : Int)] w fun e w' => e = .returned (.tuple #[.int .u32 (((a + b) % 500000003 : Nat) : Int), .int .i64 0]) ∧ Grown w w' := by
  have hE0 := every_exp a b w.heap.size (w.alloc (.cells #[.int .u32 (a : Int), .int .u32 (b : Int)] 22)) (by simp) (by simp)
  rw [show (decide (a < 500000003) && decide (b < 500000003)) = true from by simp [h1, h2]] at hE0
  have hE := Lib.hid hE0
  clear hE0
  go_enter Try.func13, Try.ntmps13
  go_wp2_with (go_at_call 26; refine (hE.out).mono ?_; rintro e w' ⟨rfl, rfl⟩)
  go_ret2
  exact ⟨rfl, (Grown.refl _).alloc _ _⟩
theorem plus_bad (a b : Nat) (ha : a < 4294967296) (hb : b < 4294967296) (h : ¬ (a < 500000003 ∧ b < 500000003)) (w : World) : Calls Try.prog 13 #[.int .u32 (a : Int), .int .u32 (b : Int)] w fun e w' => e = .returned (.tuple #[.int .u32 0, .int .i64 2]) ∧ Grown w w' := by
  have hE0 := every_exp a b w.heap.size (w.alloc (.cells #[.int .u32 (a : Int), .int .u32 (b : Int)] 22)) (by simp) (by simp)
  rw [show (decide (a < 500000003) && decide (b < 500000003)) = false from by simpa using fun h1 => Nat.le_of_not_lt fun h2 => h ⟨h1, h2⟩] at hE0
  have hE := Lib.hid hE0
  clear hE0
  go_enter Try.func13, Try.ntmps13
  go_wp2_with (go_at_call 26; refine (hE.out).mono ?_; rintro e w' ⟨rfl, rfl⟩)
  go_ret2
  exact ⟨rfl, (Grown.refl _).alloc _ _⟩
theorem times_ok (a b : Nat) (h1 : a < 500000003) (h2 : b < 500000003) (w : World) : Calls Try.prog 14 #[.int .u32 (a : Int), .int .u32 (b : Int)] w fun e w' => e = .returned (.tuple #[.int .u32 ((a * b % 500000003 : Nat) : Int), .int .i64 0]) ∧ Grown w w' := by
  have hE0 := every_exp a b w.heap.size (w.alloc (.cells #[.int .u32 (a : Int), .int .u32 (b : Int)] 22)) (by simp) (by simp)
  rw [show (decide (a < 500000003) && decide (b < 500000003)) = true from by simp [h1, h2]] at hE0
  have hE := Lib.hid hE0
  clear hE0
  have hT := Lib.hid (times_any 500000003 a b (w.heap.size + 1) 500000003 rfl ((w.alloc (.cells #[.int .u32 (a : Int), .int .u32 (b : Int)] 22)).alloc (.cells #[.int .u64 500000003] 27)) (by simp) (by omega) (by omega) (by omega) (by omega))
  go_enter Try.func14, Try.ntmps14
  go_wp2_with (first | (go_at_call 26; refine (hE.out).mono ?_; rintro e w' ⟨rfl, rfl⟩) | (go_at_call 27; refine (products_any _ _).mono ?_; rintro e w' ⟨rfl, rfl⟩) | (go_at_call 35; refine (hT.out).mono ?_; rintro e w' ⟨rfl, rfl⟩))
  go_ret2
  exact ⟨rfl, ((Grown.refl _).alloc _ _).alloc _ _⟩
theorem times_bad (a b : Nat) (ha : a < 4294967296) (hb : b < 4294967296) (h : ¬ (a < 500000003 ∧ b < 500000003)) (w : World) : Calls Try.prog 14 #[.int .u32 (a : Int), .int .u32 (b : Int)] w fun e w' => e = .returned (.tuple #[.int .u32 0, .int .i64 2]) ∧ Grown w w' := by
  have hE0 := every_exp a b w.heap.size (w.alloc (.cells #[.int .u32 (a : Int), .int .u32 (b : Int)] 22)) (by simp) (by simp)
  rw [show (decide (a < 500000003) && decide (b < 500000003)) = false from by simpa using fun h1 => Nat.le_of_not_lt fun h2 => h ⟨h1, h2⟩] at hE0
  have hE := Lib.hid hE0
  clear hE0
  go_enter Try.func14, Try.ntmps14
  go_wp2_with (go_at_call 26; refine (hE.out).mono ?_; rintro e w' ⟨rfl, rfl⟩)
  go_ret2
  exact ⟨rfl, (Grown.refl _).alloc _ _⟩
theorem rplus_ok (a b : Nat) (h1 : a < 500000003) (h2 : b < 500000003) (w : World) : Calls Try.prog 23 #[.int .u32 (a : Int), .int .u32 (b : Int)] w fun e w' => e = .returned (.tuple #[.int .u32 (((a + b) % 500000003 : Nat) : Int), .int .i64 0]) ∧ Grown w w' := by
  have hA := Lib.hid (decide_eq_true h1); have hB := Lib.hid (decide_eq_true h2)
  have e3 := Lib.hid (sum_any a b h1 h2 w)
  have ha : a < 4294967296 := by omega
  have hb : b < 4294967296 := by omega
  have ha' := Lib.hid ha; have hb' := Lib.hid hb
  clear h1 h2 ha hb
  go_enter Try.func23, Try.ntmps23
  go_wp2_with (first | (go_at_call 25; refine (exponent_any _ (by first | exact ha'.out | exact hb'.out) _).mono ?_; rintro e w' ⟨he, rfl⟩; (first | rw [hA.out] at he | rw [hB.out] at he); subst he) | (go_at_call 33; refine (e3.out).mono ?_; rintro e w' ⟨rfl, rfl⟩))
  go_ret2
  exact ⟨rfl, Grown.refl _⟩
theorem rplus_bad (a b : Nat) (ha : a < 4294967296) (hb : b < 4294967296) (h : ¬ (a < 500000003 ∧ b < 500000003)) (w : World) : Calls Try.prog 23 #[.int .u32 (a : Int), .int .u32 (b : Int)] w fun e w' => e = .returned (.tuple #[.int .u32 0, .int .i64 2]) ∧ Grown w w' := by
  have ha' := Lib.hid ha; have hb' := Lib.hid hb
  by_cases h1 : a < 500000003
  · have hA := Lib.hid (decide_eq_true h1); have hB := Lib.hid (decide_eq_false (fun h2 => h ⟨h1, h2⟩))
    clear ha hb h h1
    go_enter Try.func23, Try.ntmps23
    go_wp2_with (go_at_call 25; refine (exponent_any _ (by first | exact ha'.out | exact hb'.out) _).mono ?_; rintro e w' ⟨he, rfl⟩; (first | rw [hA.out] at he | rw [hB.out] at he); subst he)
    go_ret2
    exact ⟨rfl, Grown.refl _⟩
  · have hA := Lib.hid (decide_eq_false h1); have hB := hA
    clear ha hb h h1
    go_enter Try.func23, Try.ntmps23
    go_wp2_with (go_at_call 25; refine (exponent_any _ (by first | exact ha'.out | exact hb'.out) _).mono ?_; rintro e w' ⟨he, rfl⟩; (first | rw [hA.out] at he | rw [hB.out] at he); subst he)
    go_ret2
    exact ⟨rfl, Grown.refl _⟩
theorem rtimes_ok (a b : Nat) (h1 : a < 500000003) (h2 : b < 500000003) (w : World) : Calls Try.prog 24 #[.int .u32 (a : Int), .int .u32 (b : Int)] w fun e w' => e = .returned (.tuple #[.int .u32 ((a * b % 500000003 : Nat) : Int), .int .i64 0]) ∧ Grown w w' := by
  have hA := Lib.hid (decide_eq_true h1); have hB := Lib.hid (decide_eq_true h2)
  have e3 := Lib.hid (scaled_any a b h1 h2 w)
  have ha : a < 4294967296 := by omega
  have hb : b < 4294967296 := by omega
  have ha' := Lib.hid ha; have hb' := Lib.hid hb
  clear h1 h2 ha hb
  go_enter Try.func24, Try.ntmps24
  go_wp2_with (first | (go_at_call 25; refine (exponent_any _ (by first | exact ha'.out | exact hb'.out) _).mono ?_; rintro e w' ⟨he, rfl⟩; (first | rw [hA.out] at he | rw [hB.out] at he); subst he) | (go_at_call 34; refine (e3.out).mono ?_; rintro e w' ⟨rfl, rfl⟩))
  go_ret2
  exact ⟨rfl, Grown.refl _⟩
theorem rtimes_bad (a b : Nat) (ha : a < 4294967296) (hb : b < 4294967296) (h : ¬ (a < 500000003 ∧ b < 500000003)) (w : World) : Calls Try.prog 24 #[.int .u32 (a : Int), .int .u32 (b : Int)] w fun e w' => e = .returned (.tuple #[.int .u32 0, .int .i64 2]) ∧ Grown w w' := by
  have ha' := Lib.hid ha; have hb' := Lib.hid hb
  by_cases h1 : a < 500000003
  · have hA := Lib.hid (decide_eq_true h1); have hB := Lib.hid (decide_eq_false (fun h2 => h ⟨h1, h2⟩))
    clear ha hb h h1
    go_enter Try.func24, Try.ntmps24
    go_wp2_with (go_at_call 25; refine (exponent_any _ (by first | exact ha'.out | exact hb'.out) _).mono ?_; rintro e w' ⟨he, rfl⟩; (first | rw [hA.out] at he | rw [hB.out] at he); subst he)
    go_ret2
    exact ⟨rfl, Grown.refl _⟩
  · have hA := Lib.hid (decide_eq_false h1); have hB := hA
    clear ha hb h h1
    go_enter Try.func24, Try.ntmps24
    go_wp2_with (go_at_call 25; refine (exponent_any _ (by first | exact ha'.out | exact hb'.out) _).mono ?_; rintro e w' ⟨he, rfl⟩; (first | rw [hA.out] at he | rw [hB.out] at he); subst he)
    go_ret2
    exact ⟨rfl, Grown.refl _⟩
theorem nat_of_u32 (a : Int) (h : (Lit.int .u32 a).wf = true) : ∃ n : Nat, a = (n : Int) ∧ n < 4294967296 := by
  have h' : 0 ≤ a ∧ a ≤ 4294967295 := by simpa [Lit.wf, IntKind.has, IntKind.min, IntKind.max, IntKind.signed, IntKind.bits] using h
  exact ⟨a.toNat, by omega, by omega⟩
theorem nat_of_u64 (a : Int) (h : (Lit.int .u64 a).wf = true) : ∃ n : Nat, a = (n : Int) ∧ n < 18446744073709551616 := by
  have h' : 0 ≤ a ∧ a ≤ 18446744073709551615 := by simpa [Lit.wf, IntKind.has, IntKind.min, IntKind.max, IntKind.signed, IntKind.bits] using h
  exact ⟨a.toNat, by omega, by omega⟩
end Go.Proofs.Ytlmacnehoddjfaa

/- Contracts of Mul, Pow, Inv, Base, of both packages. -/
import Derived.Test.YtlmacnehoddjfaaD
namespace Go.Proofs.Ytlmacnehoddjfaa
open Go.RowKit
set_option linter.unusedVariables false
theorem inG_lt {a : Nat} (h : inG a = true) : a < GP := ((inG_iff a).1 h).2.1
theorem inG_u32 {a : Nat} (h : inG a = true) : a < 4294967296 := by have := inG_lt h; unfold GP at this; omega
theorem GP_u32 {a : Nat} (h : a < GP) : a < 4294967296 := by unfold GP at h; omega
theorem mul_ok (a b : Nat) (ha : inG a = true) (hb : inG b = true) (w : World) : Calls Try.prog 10 #[.int .u32 (a : Int), .int .u32 (b : Int)] w fun e w' => e = .returned (.tuple #[.int .u32 ((a * b % GP : Nat) : Int), .int .i64 0]) ∧ Grown w w' := by
  have hE0 := every_is a b w.heap.size (w.alloc (.cells #[.int .u32 (a : Int), .int .u32 (b : Int)] 22)) (inG_u32 ha) (inG_u32 hb) (by simp) (by simp)
  rw [ha, hb] at hE0
  have hE := Lib.hid hE0; have la := Lib.hid (inG_lt ha); have lb := Lib.hid (inG_lt hb)
  clear hE0 ha hb
  go_enter Try.func10, Try.ntmps10
  go_wp2_with (first | (go_at_call 26; refine (hE.out).mono ?_; rintro e w' ⟨rfl, g1⟩; have g1' := Lib.hid g1; clear g1) | (go_at_call 27; refine (products_any _ _).mono ?_; rintro e w' ⟨rfl, rfl⟩) | (go_at_call 35; refine (times_GP _ _ _ _ (by simp) la.out lb.out).mono ?_; rintro e w' ⟨rfl, rfl⟩))
  go_ret2
  exact ⟨rfl, (Grown.trans' ((Grown.refl _).alloc _ _) g1'.out).alloc _ _⟩
theorem mul_bad (a b : Nat) (ha : a < 4294967296) (hb : b < 4294967296) (h : (inG a && inG b) = false) (w : World) : Calls Try.prog 10 #[.int .u32 (a : Int), .int .u32 (b : Int)] w fun e w' => e = .returned (.tuple #[.int .u32 0, .int .i64 2]) ∧ Grown w w' := by
  have hE0 := every_is a b w.heap.size (w.alloc (.cells #[.int .u32 (a : Int), .int .u32 (b : Int)] 22)) ha hb (by simp) (by simp)
  rw [h] at hE0
  have hE := Lib.hid hE0
  clear hE0 ha hb h
  go_enter Try.func10, Try.ntmps10
  go_wp2_with (go_at_call 26; refine (hE.out).mono ?_; rintro e w' ⟨rfl, g1⟩; have g1' := Lib.hid g1; clear g1)
  go_ret2
  exact ⟨rfl, Grown.trans' ((Grown.refl _).alloc _ _) g1'.out⟩
theorem pow_ok (a n : Nat) (ha : inG a = true) (hn : n < 18446744073709551616) (w : World) : Calls Try.prog 11 #[.int .u32 (a : Int), .int .u64 (n : Int)] w fun e w' => e = .returned (.tuple #[.int .u32 (pw a n : Int), .int .i64 0]) ∧ Grown w w' := by
  have hI0 := is_any a (inG_u32 ha)
  rw [ha] at hI0
  have hI := Lib.hid hI0; have hP := Lib.hid (power_any a n (inG_lt ha) hn)
  clear hI0 ha hn
  go_enter Try.func11, Try.ntmps11
  go_wp2_with (first | (go_at_call 15; refine (hI.out _).mono ?_; rintro e w' ⟨rfl, g1⟩; have g1' := Lib.hid g1; clear g1) | (go_at_call 28; refine (hP.out _).mono ?_; rintro e w' ⟨rfl, g2⟩; have g2' := Lib.hid g2; clear g2))
  go_ret2
  exact ⟨rfl, Grown.trans' g1'.out g2'.out⟩
theorem pow_bad (a n : Nat) (ha : a < 4294967296) (h : inG a = false) (w : World) : Calls Try.prog 11 #[.int .u32 (a : Int), .int .u64 (n : Int)] w fun e w' => e = .returned (.tuple #[.int .u32 0, .int .i64 2]) ∧ Grown w w' := by
  have hI0 := is_any a ha
  rw [h] at hI0
  have hI := Lib.hid hI0
  clear hI0 ha h
  go_enter Try.func11, Try.ntmps11
  go_wp2_with (go_at_call 15; refine (hI.out _).mono ?_; rintro e w' ⟨rfl, g1⟩; have g1' := Lib.hid g1; clear g1)
  go_ret2
  exact ⟨rfl, g1'.out⟩
theorem inv_ok (a : Nat) (ha : inG a = true) (w : World) : Calls Try.prog 12 #[.int .u32 (a : Int)] w fun e w' => e = .returned (.tuple #[.int .u32 (pw a 500000002 : Int), .int .i64 0]) ∧ Grown w w' := by
  have hP := Lib.hid (pow_ok a 500000002 ha (by decide))
  clear ha
  go_enter Try.func12, Try.ntmps12
  go_wp2_with (go_at_call 11; refine (hP.out _).mono ?_; rintro e w' ⟨rfl, g1⟩; have g1' := Lib.hid g1; clear g1)
  go_ret2
  exact ⟨rfl, g1'.out⟩
theorem inv_bad (a : Nat) (ha : a < 4294967296) (h : inG a = false) (w : World) : Calls Try.prog 12 #[.int .u32 (a : Int)] w fun e w' => e = .returned (.tuple #[.int .u32 0, .int .i64 2]) ∧ Grown w w' := by
  have hP := Lib.hid (pow_bad a 500000002 ha h)
  clear ha h
  go_enter Try.func12, Try.ntmps12
  go_wp2_with (go_at_call 11; refine (hP.out _).mono ?_; rintro e w' ⟨rfl, g1⟩; have g1' := Lib.hid g1; clear g1)
  go_ret2
  exact ⟨rfl, g1'.out⟩
theorem base_any (n : Nat) (hn : n < 18446744073709551616) (w : World) : Calls Try.prog 16 #[.int .u64 (n : Int)] w fun e w' => e = .returned (.int .u32 (pw 4 n : Int)) ∧ Grown w w' := by
  have hP := Lib.hid (power_any 4 n (by decide) hn)
  clear hn
  go_enter Try.func16, Try.ntmps16
  go_wp2_with (go_at_call 28; refine (hP.out _).mono ?_; rintro e w' ⟨rfl, g1⟩; have g1' := Lib.hid g1; clear g1)
  go_ret
  exact ⟨rfl, g1'.out⟩
theorem product_any (a b : Nat) (ha : a < GP) (hb : b < GP) (w : World) : Calls Try.prog 30 #[.int .u32 (a : Int), .int .u32 (b : Int)] w fun e w' => e = .returned (.int .u32 ((a * b % GP : Nat) : Int)) ∧ w' = w := by
  have la := Lib.hid ha; have lb := Lib.hid hb; have ka := GP_u32 ha; have kb := GP_u32 hb
  clear ha hb
  go_enter Try.func30, Try.ntmps30
  go_wp2
  go_ret
  refine ⟨?_, rfl⟩
  show Ending.returned (Value.int .u32 ((IntKind.u64.wrap ((a : Int) * (b : Int))).tmod 1000000007 % 4294967296)) = _
  rw [mulGP a b la.out lb.out]
  have := GP_u32 (Nat.mod_lt (a * b) GP_pos)
  congr 2
  omega
theorem raised_any (a n : Nat) (ha : a < GP) (hn : n < 18446744073709551616) (w : World) : Calls Try.prog 31 #[.int .u32 (a : Int), .int .u64 (n : Int)] w fun e w' => e = .returned (.int .u32 (pw a n : Int)) ∧ w' = w := by
  have hP := Lib.hid (rpower_any a n ha hn); have ka := GP_u32 ha
  have kx := Lib.hid (GP_u32 (pw_lt a n))
  clear ha hn
  go_enter Try.func31, Try.ntmps31
  go_wp2_with (go_at_call 32; refine (hP.out _).mono ?_; rintro e w' ⟨rfl, rfl⟩)
  go_ret
  refine ⟨?_, rfl⟩
  have := kx.out
  show Ending.returned (Value.int .u32 ((pw a n : Int) % 4294967296)) = _
  congr 2
  omega
theorem rmul_ok (a b : Nat) (ha : inG a = true) (hb : inG b = true) (w : World) : Calls Try.prog 18 #[.int .u32 (a : Int), .int .u32 (b : Int)] w fun e w' => e = .returned (.tuple #[.int .u32 ((a * b % GP : Nat) : Int), .int .i64 0]) ∧ w' = w := by
  have hA := Lib.hid ha; have hB := Lib.hid hb; have la := Lib.hid (inG_u32 ha); have lb := Lib.hid (inG_u32 hb)
  have hP := Lib.hid (product_any a b (inG_lt ha) (inG_lt hb))
  clear ha hb
  go_enter Try.func18, Try.ntmps18
  go_wp2_with (first | (go_at_call 21; refine (ris_any _ (by first | exact la.out | exact lb.out) _).mono ?_; rintro e w' ⟨he, rfl⟩; (first | rw [hA.out] at he | rw [hB.out] at he); subst he) | (go_at_call 30; refine (hP.out _).mono ?_; rintro e w' ⟨rfl, rfl⟩))
  go_ret2
  exact ⟨rfl, rfl⟩
theorem rmul_bad (a b : Nat) (ha : a < 4294967296) (hb : b < 4294967296) (h : (inG a && inG b) = false) (w : World) : Calls Try.prog 18 #[.int .u32 (a : Int), .int .u32 (b : Int)] w fun e w' => e = .returned (.tuple #[.int .u32 0, .int .i64 2]) ∧ w' = w := by
  have la := Lib.hid ha; have lb := Lib.hid hb
  clear ha hb
  cases hA0 : inG a
  · have hA := Lib.hid hA0; have hB := hA
    clear h hA0
    go_enter Try.func18, Try.ntmps18
    go_wp2_with (go_at_call 21; refine (ris_any _ (by first | exact la.out | exact lb.out) _).mono ?_; rintro e w' ⟨he, rfl⟩; (first | rw [hA.out] at he | rw [hB.out] at he); subst he)
    go_ret2
    exact ⟨rfl, rfl⟩
  · rw [hA0, Bool.true_and] at h
    have hA := Lib.hid hA0; have hB := Lib.hid h
    clear h hA0
    go_enter Try.func18, Try.ntmps18
    go_wp2_with (go_at_call 21; refine (ris_any _ (by first | exact la.out | exact lb.out) _).mono ?_; rintro e w' ⟨he, rfl⟩; (first | rw [hA.out] at he | rw [hB.out] at he); subst he)
    go_ret2
    exact ⟨rfl, rfl⟩
theorem rpow_ok (a n : Nat) (ha : inG a = true) (hn : n < 18446744073709551616) (w : World) : Calls Try.prog 19 #[.int .u32 (a : Int), .int .u64 (n : Int)] w fun e w' => e = .returned (.tuple #[.int .u32 (pw a n : Int), .int .i64 0]) ∧ w' = w := by
  have hI0 := ris_any a (inG_u32 ha)
  rw [ha] at hI0
  have hI := Lib.hid hI0; have hP := Lib.hid (raised_any a n (inG_lt ha) hn)
  clear hI0 ha
  go_enter Try.func19, Try.ntmps19
  go_wp2_with (first | (go_at_call 21; refine (hI.out _).mono ?_; rintro e w' ⟨rfl, rfl⟩) | (go_at_call 31; refine (hP.out _).mono ?_; rintro e w' ⟨rfl, rfl⟩))
  go_ret2
  exact ⟨rfl, rfl⟩
theorem rpow_bad (a n : Nat) (ha : a < 4294967296) (h : inG a = false) (w : World) : Calls Try.prog 19 #[.int .u32 (a : Int), .int .u64 (n : Int)] w fun e w' => e = .returned (.tuple #[.int .u32 0, .int .i64 2]) ∧ w' = w := by
  have hI0 := ris_any a ha
  rw [h] at hI0
  have hI := Lib.hid hI0
  clear hI0 ha h
  go_enter Try.func19, Try.ntmps19
  go_wp2_with (go_at_call 21; refine (hI.out _).mono ?_; rintro e w' ⟨rfl, rfl⟩)
  go_ret2
  exact ⟨rfl, rfl⟩
theorem rinv_ok (a : Nat) (ha : inG a = true) (w : World) : Calls Try.prog 20 #[.int .u32 (a : Int)] w fun e w' => e = .returned (.tuple #[.int .u32 (pw a 500000002 : Int), .int .i64 0]) ∧ w' = w := by
  have hI0 := ris_any a (inG_u32 ha)
  rw [ha] at hI0
  have hI := Lib.hid hI0; have hP := Lib.hid (raised_any a 500000002 (inG_lt ha) (by decide))
  clear hI0 ha
  go_enter Try.func20, Try.ntmps20
  go_wp2_with (first | (go_at_call 21; refine (hI.out _).mono ?_; rintro e w' ⟨rfl, rfl⟩) | (go_at_call 31; refine (hP.out _).mono ?_; rintro e w' ⟨rfl, rfl⟩))
  go_ret2
  exact ⟨rfl, rfl⟩
theorem rinv_bad (a : Nat) (ha : a < 4294967296) (h : inG a = false) (w : World) : Calls Try.prog 20 #[.int .u32 (a : Int)] w fun e w' => e = .returned (.tuple #[.int .u32 0, .int .i64 2]) ∧ w' = w := by
  have hI0 := ris_any a ha
  rw [h] at hI0
  have hI := Lib.hid hI0
  clear hI0 ha h
  go_enter Try.func20, Try.ntmps20
  go_wp2_with (go_at_call 21; refine (hI.out _).mono ?_; rintro e w' ⟨rfl, rfl⟩)
  go_ret2
  exact ⟨rfl, rfl⟩
theorem rbase_any (n : Nat) (hn : n < 18446744073709551616) (w : World) : Calls Try.prog 22 #[.int .u64 (n : Int)] w fun e w' => e = .returned (.int .u32 (pw 4 n : Int)) ∧ w' = w := by
  have hP := Lib.hid (raised_any 4 n (by decide) hn)
  clear hn
  go_enter Try.func22, Try.ntmps22
  go_wp2_with (go_at_call 31; refine (hP.out _).mono ?_; rintro e w' ⟨rfl, rfl⟩)
  go_ret
  exact ⟨rfl, rfl⟩
end Go.Proofs.Ytlmacnehoddjfaa

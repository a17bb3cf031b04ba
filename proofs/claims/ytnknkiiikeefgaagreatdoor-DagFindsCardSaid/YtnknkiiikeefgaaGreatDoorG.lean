/- Contracts of Mul, Pow, Inv, Base, of both packages. Contracts of both packages side by side; the examples. The group as a package of abstract functions with their laws and contracts: so that a walk meets nothing that it could unfold. -/
import Derived.Test.YtnknkiiikeefgaaGreatDoorD
import Derived.Test.YtnknkiiikeefgaaGreatDoorM02
namespace Go.Proofs.YtnknkiiikeefgaaGreatDoor.grp
open Go.RowKit
set_option linter.unusedVariables false
theorem inG_lt {a : Nat} (h : inG a = true) : a < GP := ((inG_iff a).1 h).2.1
theorem inG_u32 {a : Nat} (h : inG a = true) : a < 4294967296 := by have := inG_lt h; unfold GP at this; omega
theorem GP_u32 {a : Nat} (h : a < GP) : a < 4294967296 := by unfold GP at h; omega
theorem mul_ok (a b : Nat) (ha : inG a = true) (hb : inG b = true) (w : World) : Calls Tryz.prog 138 #[.int .u32 (a : Int), .int .u32 (b : Int)] w fun e w' => e = .returned (.tuple #[.int .u32 ((a * b % GP : Nat) : Int), .int .i64 0]) ∧ Grown w w' := by
  have hE0 := every_is a b w.heap.size (w.alloc (.cells #[.int .u32 (a : Int), .int .u32 (b : Int)] 25)) (inG_u32 ha) (inG_u32 hb) (by simp) (by simp)
  rw [ha, hb] at hE0
  have hE := Lib.hid hE0; have la := Lib.hid (inG_lt ha); have lb := Lib.hid (inG_lt hb)
  clear hE0 ha hb
  go_enter Tryz.func138, Tryz.ntmps138
  go_wp2_with (first | (go_at_call 161; refine (hE.out).mono ?_; rintro e w' ⟨rfl, g1⟩; have g1' := Lib.hid g1; clear g1) | (go_at_call 163; refine (products_any _ _).mono ?_; rintro e w' ⟨rfl, rfl⟩) | (go_at_call 192; refine (times_GP _ _ _ _ (by simp) la.out lb.out).mono ?_; rintro e w' ⟨rfl, rfl⟩))
  go_ret2
  exact ⟨rfl, (Grown.trans' ((Grown.refl _).alloc _ _) g1'.out).alloc _ _⟩
theorem mul_bad (a b : Nat) (ha : a < 4294967296) (hb : b < 4294967296) (h : (inG a && inG b) = false) (w : World) : Calls Tryz.prog 138 #[.int .u32 (a : Int), .int .u32 (b : Int)] w fun e w' => e = .returned (.tuple #[.int .u32 0, .int .i64 2]) ∧ Grown w w' := by
  have hE0 := every_is a b w.heap.size (w.alloc (.cells #[.int .u32 (a : Int), .int .u32 (b : Int)] 25)) ha hb (by simp) (by simp)
  rw [h] at hE0
  have hE := Lib.hid hE0
  clear hE0 ha hb h
  go_enter Tryz.func138, Tryz.ntmps138
  go_wp2_with (go_at_call 161; refine (hE.out).mono ?_; rintro e w' ⟨rfl, g1⟩; have g1' := Lib.hid g1; clear g1)
  go_ret2
  exact ⟨rfl, Grown.trans' ((Grown.refl _).alloc _ _) g1'.out⟩
theorem pow_ok (a n : Nat) (ha : inG a = true) (hn : n < 18446744073709551616) (w : World) : Calls Tryz.prog 136 #[.int .u32 (a : Int), .int .u64 (n : Int)] w fun e w' => e = .returned (.tuple #[.int .u32 (pw a n : Int), .int .i64 0]) ∧ Grown w w' := by
  have hI0 := is_any a (inG_u32 ha)
  rw [ha] at hI0
  have hI := Lib.hid hI0; have hP := Lib.hid (power_any a n (inG_lt ha) hn)
  clear hI0 ha hn
  go_enter Tryz.func136, Tryz.ntmps136
  go_wp2_with (first | (go_at_call 91; refine (hI.out _).mono ?_; rintro e w' ⟨rfl, g1⟩; have g1' := Lib.hid g1; clear g1) | (go_at_call 125; refine (hP.out _).mono ?_; rintro e w' ⟨rfl, g2⟩; have g2' := Lib.hid g2; clear g2))
  go_ret2
  exact ⟨rfl, Grown.trans' g1'.out g2'.out⟩
theorem pow_bad (a n : Nat) (ha : a < 4294967296) (h : inG a = false) (w : World) : Calls Tryz.prog 136 #[.int .u32 (a : Int), .int .u64 (n : Int)] w fun e w' => e = .returned (.tuple #[.int .u32 0, .int .i64 2]) ∧ Grown w w' := by
  have hI0 := is_any a ha
  rw [h] at hI0
  have hI := Lib.hid hI0
  clear hI0 ha h
  go_enter Tryz.func136, Tryz.ntmps136
  go_wp2_with (go_at_call 91; refine (hI.out _).mono ?_; rintro e w' ⟨rfl, g1⟩; have g1' := Lib.hid g1; clear g1)
  go_ret2
  exact ⟨rfl, g1'.out⟩
theorem inv_ok (a : Nat) (ha : inG a = true) (w : World) : Calls Tryz.prog 137 #[.int .u32 (a : Int)] w fun e w' => e = .returned (.tuple #[.int .u32 (pw a 500000002 : Int), .int .i64 0]) ∧ Grown w w' := by
  have hP := Lib.hid (pow_ok a 500000002 ha (by decide))
  clear ha
  go_enter Tryz.func137, Tryz.ntmps137
  go_wp2_with (go_at_call 136; refine (hP.out _).mono ?_; rintro e w' ⟨rfl, g1⟩; have g1' := Lib.hid g1; clear g1)
  go_ret2
  exact ⟨rfl, g1'.out⟩
theorem inv_bad (a : Nat) (ha : a < 4294967296) (h : inG a = false) (w : World) : Calls Tryz.prog 137 #[.int .u32 (a : Int)] w fun e w' => e = .returned (.tuple #[.int .u32 0, .int .i64 2]) ∧ Grown w w' := by
  have hP := Lib.hid (pow_bad a 500000002 ha h)
  clear ha h
  go_enter Tryz.func137, Tryz.ntmps137
  go_wp2_with (go_at_call 136; refine (hP.out _).mono ?_; rintro e w' ⟨rfl, g1⟩; have g1' := Lib.hid g1; clear g1)
  go_ret2
  exact ⟨rfl, g1'.out⟩
theorem base_any (n : Nat) (hn : n < 18446744073709551616) (w : World) : Calls Tryz.prog 120 #[.int .u64 (n : Int)] w fun e w' => e = .returned (.int .u32 (pw 4 n : Int)) ∧ Grown w w' := by
  have hP := Lib.hid (power_any 4 n (by decide) hn)
  clear hn
  go_enter Tryz.func120, Tryz.ntmps120
  go_wp2_with (go_at_call 125; refine (hP.out _).mono ?_; rintro e w' ⟨rfl, g1⟩; have g1' := Lib.hid g1; clear g1)
  go_ret
  exact ⟨rfl, g1'.out⟩
theorem product_any (a b : Nat) (ha : a < GP) (hb : b < GP) (w : World) : Calls Tryz.prog 182 #[.int .u32 (a : Int), .int .u32 (b : Int)] w fun e w' => e = .returned (.int .u32 ((a * b % GP : Nat) : Int)) ∧ w' = w := by
  have la := Lib.hid ha; have lb := Lib.hid hb; have ka := GP_u32 ha; have kb := GP_u32 hb
  clear ha hb
  go_enter Tryz.func182, Tryz.ntmps182
  go_wp2
  go_ret
  refine ⟨?_, rfl⟩
  show Ending.returned (Value.int .u32 ((IntKind.u64.wrap ((a : Int) * (b : Int))).tmod 1000000007 % 4294967296)) = _
  rw [mulGP a b la.out lb.out]
  have := GP_u32 (Nat.mod_lt (a * b) GP_pos)
  congr 2
  omega
theorem raised_any (a n : Nat) (ha : a < GP) (hn : n < 18446744073709551616) (w : World) : Calls Tryz.prog 180 #[.int .u32 (a : Int), .int .u64 (n : Int)] w fun e w' => e = .returned (.int .u32 (pw a n : Int)) ∧ w' = w := by
  have hP := Lib.hid (rpower_any a n ha hn); have ka := GP_u32 ha
  have kx := Lib.hid (GP_u32 (pw_lt a n))
  clear ha hn
  go_enter Tryz.func180, Tryz.ntmps180
  go_wp2_with (go_at_call 176; refine (hP.out _).mono ?_; rintro e w' ⟨rfl, rfl⟩)
  go_ret
  refine ⟨?_, rfl⟩
  have := kx.out
  show Ending.returned (Value.int .u32 ((pw a n : Int) % 4294967296)) = _
  congr 2
  omega
theorem rinv_ok (a : Nat) (ha : inG a = true) (w : World) : Calls Tryz.prog 179 #[.int .u32 (a : Int)] w fun e w' => e = .returned (.tuple #[.int .u32 (pw a 500000002 : Int), .int .i64 0]) ∧ w' = w := by
  have hI0 := ris_any a (inG_u32 ha)
  rw [ha] at hI0
  have hI := Lib.hid hI0; have hP := Lib.hid (raised_any a 500000002 (inG_lt ha) (by decide))
  clear hI0 ha
  go_enter Tryz.func179, Tryz.ntmps179
  go_wp2_with (first | (go_at_call 144; refine (hI.out _).mono ?_; rintro e w' ⟨rfl, rfl⟩) | (go_at_call 180; refine (hP.out _).mono ?_; rintro e w' ⟨rfl, rfl⟩))
  go_ret2
  exact ⟨rfl, rfl⟩
theorem rinv_bad (a : Nat) (ha : a < 4294967296) (h : inG a = false) (w : World) : Calls Tryz.prog 179 #[.int .u32 (a : Int)] w fun e w' => e = .returned (.tuple #[.int .u32 0, .int .i64 2]) ∧ w' = w := by
  have hI0 := ris_any a ha
  rw [h] at hI0
  have hI := Lib.hid hI0
  clear hI0 ha h
  go_enter Tryz.func179, Tryz.ntmps179
  go_wp2_with (go_at_call 144; refine (hI.out _).mono ?_; rintro e w' ⟨rfl, rfl⟩)
  go_ret2
  exact ⟨rfl, rfl⟩
theorem rbase_any (n : Nat) (hn : n < 18446744073709551616) (w : World) : Calls Tryz.prog 203 #[.int .u64 (n : Int)] w fun e w' => e = .returned (.int .u32 (pw 4 n : Int)) ∧ w' = w := by
  have hP := Lib.hid (raised_any 4 n (by decide) hn)
  clear hn
  go_enter Tryz.func203, Tryz.ntmps203
  go_wp2_with (go_at_call 180; refine (hP.out _).mono ?_; rintro e w' ⟨rfl, rfl⟩)
  go_ret
  exact ⟨rfl, rfl⟩
end Go.Proofs.YtnknkiiikeefgaaGreatDoor.grp
namespace Go.Proofs.YtnknkiiikeefgaaGreatDoor.grp
open Go.RowKit
set_option linter.unusedVariables false
theorem inv_both (a : Nat) (ha : a < 4294967296) : ∃ m e : Int,
    (∀ w, Calls Tryz.prog 137 #[.int .u32 (a : Int)] w fun x w' => x = .returned (.tuple #[.int .u32 m, .int .i64 e]) ∧ Grown w w') ∧
    (∀ w, Calls Tryz.prog 179 #[.int .u32 (a : Int)] w fun x w' => x = .returned (.tuple #[.int .u32 m, .int .i64 e]) ∧ w' = w) := by
  cases h : inG a
  · exact ⟨0, 2, inv_bad a ha h, rinv_bad a ha h⟩
  · exact ⟨_, 0, inv_ok a h, rinv_ok a h⟩
theorem is_both (a : Nat) (ha : a < 4294967296) : ∃ m : Bool,
    (∀ w, Calls Tryz.prog 91 #[.int .u32 (a : Int)] w fun x w' => x = .returned (.bool m) ∧ Grown w w') ∧
    (∀ w, Calls Tryz.prog 144 #[.int .u32 (a : Int)] w fun x w' => x = .returned (.bool m) ∧ w' = w) := ⟨_, is_any a ha, ris_any a ha⟩
theorem base_both (n : Nat) (hn : n < 18446744073709551616) : ∃ m : Int,
    (∀ w, Calls Tryz.prog 120 #[.int .u64 (n : Int)] w fun x w' => x = .returned (.int .u32 m) ∧ Grown w w') ∧
    (∀ w, Calls Tryz.prog 203 #[.int .u64 (n : Int)] w fun x w' => x = .returned (.int .u32 m) ∧ w' = w) := ⟨_, base_any n hn, rbase_any n hn⟩
/-- the group's test, for numbers as the walk spells them -/
def inGI (x : Int) : Bool := inG x.toNat
theorem is_int (x : Int) (h0 : 0 ≤ x) (h1 : x < 4294967296) (w : World) : Calls Tryz.prog 91 #[.int .u32 x] w fun e w' => e = .returned (.bool (inGI x)) ∧ Grown w w' := by
  obtain ⟨a, rfl⟩ := Int.eq_ofNat_of_zero_le h0
  exact is_any a (by omega) w
theorem pw_eq (a n : Nat) (hn : n < 2 ^ 64) : pw a n = pwF 64 1 a n := by
  rw [pwF_eq 64 1 a n hn (by decide), Nat.one_mul]; exact (Nat.mod_eq_of_lt (pw_lt _ _)).symm
theorem inG_eq (a : Nat) : inG a = decide (1 ≤ a ∧ a < GP ∧ pwF 64 1 a 500000003 = 1) := by unfold inG; rw [pw_eq _ _ (by decide)]
theorem in2 : inGI 2 = true := by rw [show inGI 2 = inG 2 from rfl, inG_eq]; decide +kernel
theorem in3 : inGI 3 = true := by rw [show inGI 3 = inG 3 from rfl, inG_eq]; decide +kernel
theorem in4 : inG 4 = true := by rw [inG_eq]; decide +kernel
theorem in5 : inGI 5 = false := by rw [show inGI 5 = inG 5 from rfl, inG_eq]; decide +kernel
theorem inLast : inGI 1000000006 = false := by rw [show inGI 1000000006 = inG 1000000006 from rfl, inG_eq]; decide +kernel
theorem pw_4_15 : pw 4 15 = 73741817 := by rw [pw_eq _ _ (by decide)]; decide +kernel
theorem pw_4_inv : pw 4 500000002 = 250000002 := by rw [pw_eq _ _ (by decide)]; decide +kernel
theorem inv_4 (w : World) : Calls Tryz.prog 137 #[.int .u32 4] w fun e w' => e = .returned (.tuple #[.int .u32 250000002, .int .i64 0]) ∧ Grown w w' := by
  have h := inv_ok 4 in4 w
  rw [pw_4_inv] at h
  exact h
theorem base_15 (w : World) : Calls Tryz.prog 120 #[.int .u64 15] w fun e w' => e = .returned (.int .u32 73741817) ∧ Grown w w' := by
  have h := base_any 15 (by decide) w
  rw [pw_4_15] at h
  exact h
theorem plus_ex (w : World) : Calls Tryz.prog 124 #[.int .u32 500000002, .int .u32 2] w fun e w' => e = .returned (.tuple #[.int .u32 1, .int .i64 0]) ∧ Grown w w' :=
  plus_ok 500000002 2 (by decide) (by decide) w
end Go.Proofs.YtnknkiiikeefgaaGreatDoor.grp
namespace Go.Proofs.YtnknkiiikeefgaaGreatDoor.grp
open Go.RowKit
set_option linter.unusedVariables false
structure Pack where
  G : Int → Prop
  U : Int → Prop
  mu : Int → Int → Int
  po : Int → Int → Int
  iv : Int → Int
  ba : Int → Int
  g_of : ∀ a : Nat, inG a = true → G a
  u_of : ∀ n : Nat, n < 18446744073709551616 → U n
  mu_in : ∀ x y, G x → G y → G (mu x y)
  po_in : ∀ x n, G x → G (po x n)
  iv_in : ∀ x, G x → G (iv x)
  ba_in : ∀ n, G (ba n)
  one_in : G 1
  mu_comm : ∀ x y, mu x y = mu y x
  mu_assoc : ∀ x y z, mu (mu x y) z = mu x (mu y z)
  mu_one : ∀ x, G x → mu x 1 = x
  mu_iv : ∀ x, G x → mu x (iv x) = 1
  iv_iv : ∀ x, G x → iv (iv x) = x
  po_iv : ∀ x, po x 500000002 = iv x
  po_add : ∀ (x : Int) (m n : Nat), mu (po x m) (po x n) = po x (m + n : Nat)
  po_mul : ∀ (x : Int) (m n : Nat), po (po x m) n = po x (m * n : Nat)
  po_rem : ∀ (x : Int) (n : Nat), G x → po x (n % 500000003 : Nat) = po x n
  ba_rem : ∀ n : Nat, ba (n % 500000003 : Nat) = ba n
  mul : ∀ x y, G x → G y → ∀ w, Calls Tryz.prog 138 #[.int .u32 x, .int .u32 y] w fun e w' => e = .returned (.tuple #[.int .u32 (mu x y), .int .i64 0]) ∧ Grown w w'
  pow : ∀ x n, G x → U n → ∀ w, Calls Tryz.prog 136 #[.int .u32 x, .int .u64 n] w fun e w' => e = .returned (.tuple #[.int .u32 (po x n), .int .i64 0]) ∧ Grown w w'
  inv : ∀ x, G x → ∀ w, Calls Tryz.prog 137 #[.int .u32 x] w fun e w' => e = .returned (.tuple #[.int .u32 (iv x), .int .i64 0]) ∧ Grown w w'
  base : ∀ n, U n → ∀ w, Calls Tryz.prog 120 #[.int .u64 n] w fun e w' => e = .returned (.int .u32 (ba n)) ∧ Grown w w'
  isG : ∀ x, G x → ∀ w, Calls Tryz.prog 91 #[.int .u32 x] w fun e w' => e = .returned (.bool true) ∧ Grown w w'
theorem inG_one : inG 1 = true := by rw [inG_iff]; exact ⟨by decide, by decide, pw_one_base _⟩
theorem inv_mul (a : Nat) (h : inG a = true) : a * pw a 500000002 % GP = 1 := by
  obtain ⟨_, hl, h⟩ := (inG_iff a).1 h
  have e := pw_add a 1 500000002
  rw [pw_one a hl, show 1 + 500000002 = 500000003 from rfl, h] at e
  exact e.symm
theorem inv_inv (a : Nat) (h : inG a = true) : pw (pw a 500000002) 500000002 = a := by
  obtain ⟨_, hl, h⟩ := (inG_iff a).1 h
  rw [← pw_mul, show 500000002 * 500000002 = 1 + 500000003 * 500000001 from rfl, pw_cycle a h, pw_one a hl]
theorem mu_iv_gen (a k : Nat) (h : a * pw a k % GP = 1) : (((a : Int).toNat * (pw (a : Int).toNat k : Int).toNat % GP : Nat) : Int) = 1 := by
  simp only [Int.toNat_natCast]
  rw [h]; rfl
theorem iv_iv_gen (a k : Nat) (h : pw (pw a k) k = a) : (pw (pw (a : Int).toNat k : Int).toNat k : Int) = (a : Int) := by
  simp only [Int.toNat_natCast]
  rw [h]
theorem pack : Nonempty Pack := ⟨{
  G := fun x => ∃ a : Nat, x = (a : Int) ∧ inG a = true
  U := fun x => ∃ n : Nat, x = (n : Int) ∧ n < 18446744073709551616
  mu := fun x y => ((x.toNat * y.toNat % GP : Nat) : Int)
  po := fun x n => (pw x.toNat n.toNat : Int)
  iv := fun x => (pw x.toNat 500000002 : Int)
  ba := fun n => (pw 4 n.toNat : Int)
  g_of := fun a h => ⟨a, rfl, h⟩
  u_of := fun n h => ⟨n, rfl, h⟩
  mu_in := by
    rintro _ _ ⟨a, rfl, ha⟩ ⟨b, rfl, hb⟩
    exact ⟨_, rfl, inG_mul a b ha hb⟩
  po_in := by
    rintro _ n ⟨a, rfl, ha⟩
    exact ⟨_, rfl, inG_pw a _ ha⟩
  iv_in := by
    rintro _ ⟨a, rfl, ha⟩
    exact ⟨_, rfl, inG_pw a _ ha⟩
  ba_in := fun n => ⟨_, rfl, inG_pw 4 _ in4⟩
  one_in := ⟨1, rfl, inG_one⟩
  mu_comm := fun x y => by rw [Nat.mul_comm]
  mu_assoc := fun x y z => by
    simp only [Int.toNat_natCast]
    rw [Nat.mod_mul_mod, Nat.mul_mod_mod, Nat.mul_assoc]
  mu_one := by
    rintro _ ⟨a, rfl, ha⟩
    simp only [Int.toNat_natCast]
    rw [show (1 : Int).toNat = 1 from rfl, Nat.mul_one, Nat.mod_eq_of_lt (inG_lt ha)]
  mu_iv := by
    rintro _ ⟨a, rfl, ha⟩
    exact mu_iv_gen a 500000002 (inv_mul a ha)
  iv_iv := by
    rintro _ ⟨a, rfl, ha⟩
    exact iv_iv_gen a 500000002 (inv_inv a ha)
  po_iv := fun x => rfl
  po_add := fun x m n => by
    simp only [Int.toNat_natCast]
    rw [pw_add]
  po_mul := fun x m n => by
    simp only [Int.toNat_natCast]
    rw [pw_mul]
  po_rem := by
    rintro _ n ⟨a, rfl, ha⟩
    simp only [Int.toNat_natCast]
    rw [← pw_rem a ((inG_iff a).1 ha).2.2 n]
  ba_rem := fun n => by
    simp only [Int.toNat_natCast]
    rw [← pw_rem 4 ((inG_iff 4).1 in4).2.2 n]
  mul := by
    rintro _ _ ⟨a, rfl, ha⟩ ⟨b, rfl, hb⟩
    exact mul_ok a b ha hb
  pow := by
    rintro _ _ ⟨a, rfl, ha⟩ ⟨n, rfl, hn⟩
    exact pow_ok a n ha hn
  inv := by
    rintro _ ⟨a, rfl, ha⟩
    exact inv_ok a ha
  base := by
    rintro _ ⟨n, rfl, hn⟩
    exact base_any n hn
  isG := by
    rintro _ ⟨a, rfl, ha⟩ w
    have h := is_any a (inG_u32 ha) w
    rw [ha] at h
    exact h }⟩
theorem is_pack : ∃ (I : Int → Prop) (f : Int → Bool), (∀ a : Nat, a < 4294967296 → I a) ∧ (∀ a : Nat, f a = inG a) ∧
    ∀ x, I x → ∀ w, Calls Tryz.prog 91 #[.int .u32 x] w fun e w' => e = .returned (.bool (f x)) ∧ Grown w w' :=
  ⟨fun x => 0 ≤ x ∧ x < 4294967296, inGI, fun a h => ⟨by omega, by omega⟩, fun a => rfl, fun x h w => is_int x h.1 h.2 w⟩
end Go.Proofs.YtnknkiiikeefgaaGreatDoor.grp

/- The group as a package of abstract functions with their laws and contracts: so that a walk meets nothing that it could unfold. -/
import Derived.Test.YtpklfohaifeboaaDoorF
import Derived.Test.YtpklfohaifeboaaDoorM02
namespace Go.Proofs.YtpklfohaifeboaaDoor.grp
open Go.RowKit
set_option linter.unusedVariables false
structure Pack where
  G : Int → Prop
  U : Int → Prop
  mu : Int → Int → Int
  po : Int → Int → Int
  iv : Int → Int
  ba : Int → Int
  g_of : ∀ a : Nat, inG a = true → G a
  u_of : ∀ n : Nat, n < 18446744073709551616 → U n
  mu_in : ∀ x y, G x → G y → G (mu x y)
  po_in : ∀ x n, G x → G (po x n)
  iv_in : ∀ x, G x → G (iv x)
  ba_in : ∀ n, G (ba n)
  one_in : G 1
  mu_comm : ∀ x y, mu x y = mu y x
  mu_assoc : ∀ x y z, mu (mu x y) z = mu x (mu y z)
  mu_one : ∀ x, G x → mu x 1 = x
  mu_iv : ∀ x, G x → mu x (iv x) = 1
  iv_iv : ∀ x, G x → iv (iv x) = x
  po_iv : ∀ x, po x 500000002 = iv x
  po_add : ∀ (x : Int) (m n : Nat), mu (po x m) (po x n) = po x (m + n : Nat)
  po_mul : ∀ (x : Int) (m n : Nat), po (po x m) n = po x (m * n : Nat)
  po_rem : ∀ (x : Int) (n : Nat), G x → po x (n % 500000003 : Nat) = po x n
  ba_rem : ∀ n : Nat, ba (n % 500000003 : Nat) = ba n
  mul : ∀ x y, G x → G y → ∀ w, Calls Tryd.prog 61 #[.int .u32 x, .int .u32 y] w fun e w' => e = .returned (.tuple #[.int .u32 (mu x y), .int .i64 0]) ∧ Grown w w'
  pow : ∀ x n, G x → U n → ∀ w, Calls Tryd.prog 59 #[.int .u32 x, .int .u64 n] w fun e w' => e = .returned (.tuple #[.int .u32 (po x n), .int .i64 0]) ∧ Grown w w'
  inv : ∀ x, G x → ∀ w, Calls Tryd.prog 60 #[.int .u32 x] w fun e w' => e = .returned (.tuple #[.int .u32 (iv x), .int .i64 0]) ∧ Grown w w'
  base : ∀ n, U n → ∀ w, Calls Tryd.prog 42 #[.int .u64 n] w fun e w' => e = .returned (.int .u32 (ba n)) ∧ Grown w w'
  isG : ∀ x, G x → ∀ w, Calls Tryd.prog 47 #[.int .u32 x] w fun e w' => e = .returned (.bool true) ∧ Grown w w'
theorem inG_one : inG 1 = true := by rw [inG_iff]; exact ⟨by decide, by decide, pw_one_base _⟩
theorem inv_mul (a : Nat) (h : inG a = true) : a * pw a 500000002 % GP = 1 := by
  obtain ⟨_, hl, h⟩ := (inG_iff a).1 h
  have e := pw_add a 1 500000002
  rw [pw_one a hl, show 1 + 500000002 = 500000003 from rfl, h] at e
  exact e.symm
theorem inv_inv (a : Nat) (h : inG a = true) : pw (pw a 500000002) 500000002 = a := by
  obtain ⟨_, hl, h⟩ := (inG_iff a).1 h
  rw [← pw_mul, show 500000002 * 500000002 = 1 + 500000003 * 500000001 from rfl, pw_cycle a h, pw_one a hl]
theorem mu_iv_gen (a k : Nat) (h : a * pw a k % GP = 1) : (((a : Int).toNat * (pw (a : Int).toNat k : Int).toNat % GP : Nat) : Int) = 1 := by
  simp only [Int.toNat_natCast]
  rw [h]; rfl
theorem iv_iv_gen (a k : Nat) (h : pw (pw a k) k = a) : (pw (pw (a : Int).toNat k : Int).toNat k : Int) = (a : Int) := by
  simp only [Int.toNat_natCast]
  rw [h]
theorem pack : Nonempty Pack := ⟨{
  G := fun x => ∃ a : Nat, x = (a : Int) ∧ inG a = true
  U := fun x => ∃ n : Nat, x = (n : Int) ∧ n < 18446744073709551616
  mu := fun x y => ((x.toNat * y.toNat % GP : Nat) : Int)
  po := fun x n => (pw x.toNat n.toNat : Int)
  iv := fun x => (pw x.toNat 500000002 : Int)
  ba := fun n => (pw 4 n.toNat : Int)
  g_of := fun a h => ⟨a, rfl, h⟩
  u_of := fun n h => ⟨n, rfl, h⟩
  mu_in := by
    rintro _ _ ⟨a, rfl, ha⟩ ⟨b, rfl, hb⟩
    exact ⟨_, rfl, inG_mul a b ha hb⟩
  po_in := by
    rintro _ n ⟨a, rfl, ha⟩
    exact ⟨_, rfl, inG_pw a _ ha⟩
  iv_in := by
    rintro _ ⟨a, rfl, ha⟩
    exact ⟨_, rfl, inG_pw a _ ha⟩
  ba_in := fun n => ⟨_, rfl, inG_pw 4 _ in4⟩
  one_in := ⟨1, rfl, inG_one⟩
  mu_comm := fun x y => by rw [Nat.mul_comm]
  mu_assoc := fun x y z => by
    simp only [Int.toNat_natCast]
    rw [Nat.mod_mul_mod, Nat.mul_mod_mod, Nat.mul_assoc]
  mu_one := by
    rintro _ ⟨a, rfl, ha⟩
    simp only [Int.toNat_natCast]
    rw [show (1 : Int).toNat = 1 from rfl, Nat.mul_one, Nat.mod_eq_of_lt (inG_lt ha)]
  mu_iv := by
    rintro _ ⟨a, rfl, ha⟩
    exact mu_iv_gen a 500000002 (inv_mul a ha)
  iv_iv := by
    rintro _ ⟨a, rfl, ha⟩
    exact iv_iv_gen a 500000002 (inv_inv a ha)
  po_iv := fun x => rfl
  po_add := fun x m n => by
    simp only [Int.toNat_natCast]
    rw [pw_add]
  po_mul := fun x m n => by
    simp only [Int.toNat_natCast]
    rw [pw_mul]
  po_rem := by
    rintro _ n ⟨a, rfl, ha⟩
    simp only [Int.toNat_natCast]
    rw [← pw_rem a ((inG_iff a).1 ha).2.2 n]
  ba_rem := fun n => by
    simp only [Int.toNat_natCast]
    rw [← pw_rem 4 ((inG_iff 4).1 in4).2.2 n]
  mul := by
    rintro _ _ ⟨a, rfl, ha⟩ ⟨b, rfl, hb⟩
    exact mul_ok a b ha hb
  pow := by
    rintro _ _ ⟨a, rfl, ha⟩ ⟨n, rfl, hn⟩
    exact pow_ok a n ha hn
  inv := by
    rintro _ ⟨a, rfl, ha⟩
    exact inv_ok a ha
  base := by
    rintro _ ⟨n, rfl, hn⟩
    exact base_any n hn
  isG := by
    rintro _ ⟨a, rfl, ha⟩ w
    have h := is_any a (inG_u32 ha) w
    rw [ha] at h
    exact h }⟩
theorem is_pack : ∃ (I : Int → Prop) (f : Int → Bool), (∀ a : Nat, a < 4294967296 → I a) ∧ (∀ a : Nat, f a = inG a) ∧
    ∀ x, I x → ∀ w, Calls Tryd.prog 47 #[.int .u32 x] w fun e w' => e = .returned (.bool (f x)) ∧ Grown w w' :=
  ⟨fun x => 0 ≤ x ∧ x < 4294967296, inGI, fun a h => ⟨by omega, by omega⟩, fun a => rfl, fun x h w => is_int x h.1 h.2 w⟩
end Go.Proofs.YtpklfohaifeboaaDoor.grp

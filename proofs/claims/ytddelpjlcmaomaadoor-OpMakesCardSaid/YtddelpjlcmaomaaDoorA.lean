/- Contracts of package group and of its reference: exponents. -/
import Derived.Test.YtddelpjlcmaomaaDoorRows
import Derived.WalkKit
import Derived.ProofKit
import Derived.OpenShut
import Derived.Lib.Hide
import Derived.Laws.Bits64
namespace Go.Proofs.YtddelpjlcmaomaaDoor.grp
open Go.RowKit
set_option linter.unusedVariables false
/-- Nothing that was there has changed (in place of the kit's word of that name, which speaks of cells alone). -/
def Grown (w w' : World) : Prop := Below w.heap.size w w'
theorem Grown.refl (w : World) : Grown w w := Below.refl _ _
theorem Grown.alloc {W w' : World} (h : Grown W w') (c : Array Value) (t : TypeId) : Grown W (w'.alloc (.cells c t)) := Below.alloc h (Below.size h) _
theorem Grown.trans' {a b c : World} (h : Grown a b) (g : Grown b c) : Grown a c := Below.trans h (Below.mono g (Below.size h))
theorem Grown.cell' {w w' : World} (h : Grown w w') {b o : Nat} (hb : b < w.heap.size) : w'.cell? ⟨b, o, none⟩ = w.cell? ⟨b, o, none⟩ := Below.cell (p := (⟨b, o, none⟩ : Addr)) h hb
theorem ret_dec {p q : Prop} [Decidable p] [Decidable q] (h : p ↔ q) : Ending.returned (.bool (decide p)) = .returned (.bool (decide q)) := by rw [decide_eq_decide.2 h]
theorem isExponent_any (a : Nat) (w : World) : Calls Tryd.prog 118 #[.int .u32 (a : Int)] w fun e w' => e = .returned (.bool (decide (a < 500000003))) ∧ w' = w := by
  go_enter Tryd.func118, Tryd.ntmps118
  go_wp2
  go_ret
  exact ⟨ret_dec (by omega), rfl⟩
theorem products_any (m : Int) (w : World) : Calls Tryd.prog 115 #[.int .u64 m] w fun e w' => e = .returned (.func (.func 131) #[] #[.pointer (some ⟨w.heap.size, 0, none⟩)]) ∧ w' = w.alloc (.cells #[.int .u64 m] 24) := by
  have hmf : ∀ (fn : Fn) (first cap : Array Value) (w : World), (Instr.makeFunc fn first cap).run Tryd.prog w = .ok (.func fn first cap) w := fun _ _ _ _ => rfl
  go_enter Tryd.func115, Tryd.ntmps115
  go_wp2
  go_ret
  exact ⟨rfl, rfl⟩
theorem every_exp (a b : Nat) (blk : Nat) (w : World)
    (h0 : w.cell? ⟨blk, 0, none⟩ = some (.int .u32 (a : Int))) (h1 : w.cell? ⟨blk, 1, none⟩ = some (.int .u32 (b : Int))) :
    Calls Tryd.prog 117 #[.func (.func 118) #[] #[], .slice (some ⟨blk, 0, none⟩) 2 2] w fun e w' => e = .returned (.bool (decide (a < 500000003) && decide (b < 500000003))) ∧ w' = w := by
  have hF0 := fun v => isExponent_any a v
  have hF1 := fun v => isExponent_any b v
  generalize decide (a < 500000003) = x at hF0 ⊢
  generalize decide (b < 500000003) = y at hF1 ⊢
  have hF := Lib.hid hF0; have hG := Lib.hid hF1
  clear hF0 hF1
  go_enter Tryd.func117, Tryd.ntmps117
  go_wp2
  go_loop [4, 9] (fun r i => r = .bool false ∧ (i = .int .i64 0 ∨ (i = .int .i64 1 ∧ x = true) ∨ (i = .int .i64 2 ∧ x = true ∧ y = true))) (fun _ i => match i with | .int _ n => 2 - n.toNat | _ => 0)
  case atStart => exact ⟨rfl, Or.inl rfl⟩
  case round =>
    obtain ⟨rfl, h | ⟨h, hx⟩ | ⟨h, hx, hy⟩⟩ := hrel
    · subst h
      cases x
      · go_wp2_with (go_at_call 118; refine (hF.out _).mono ?_; rintro e w' ⟨rfl, rfl⟩)
        go_ret
        exact ⟨rfl, rfl⟩
      · go_wp2_with (go_at_call 118; refine (hF.out _).mono ?_; rintro e w' ⟨rfl, rfl⟩)
        exact ⟨⟨rfl, Or.inr (Or.inl ⟨rfl, trivial⟩)⟩, by decide⟩
    · subst h; subst hx
      cases y
      · go_wp2_with (go_at_call 118; refine (hG.out _).mono ?_; rintro e w' ⟨rfl, rfl⟩)
        go_ret
        exact ⟨rfl, rfl⟩
      · go_wp2_with (go_at_call 118; refine (hG.out _).mono ?_; rintro e w' ⟨rfl, rfl⟩)
        exact ⟨⟨rfl, Or.inr (Or.inr ⟨rfl, trivial, trivial⟩)⟩, by decide⟩
    · subst h; subst hx; subst hy
      go_wp2
      go_ret
      exact ⟨rfl, rfl⟩
theorem times_any (m a b : Nat) (blk : Nat) (mi : Int) (hmi : mi = (m : Int)) (w : World) (hm : w.cell? ⟨blk, 0, none⟩ = some (.int .u64 mi)) (ha : a < 4294967296) (hb : b < 4294967296) (h0 : 0 < m) (hm' : m < 4294967296) :
    Calls Tryd.prog 131 #[.int .u32 (a : Int), .int .u32 (b : Int), .pointer (some ⟨blk, 0, none⟩)] w fun e w' => e = .returned (.int .u32 ((a * b % m : Nat) : Int)) ∧ w' = w := by
  subst hmi
  go_enter Tryd.func131, Tryd.ntmps131
  go_wp2
  go_ret
  have hab : a * b < 18446744073709551616 := Nat.lt_of_lt_of_le (Nat.mul_lt_mul'' ha hb) (by decide)
  have hlt : a * b % m < 4294967296 := Nat.lt_trans (Nat.mod_lt _ h0) hm'
  have e1 : IntKind.u64.wrap ((a : Int) * (b : Int)) = ((a * b : Nat) : Int) := by rw [← Int.natCast_mul, IntKind.wrap_u64]; omega
  refine ⟨?_, rfl⟩
  show Ending.returned (Value.int .u32 ((IntKind.u64.wrap ((a : Int) * (b : Int))).tmod (m : Int) % 4294967296)) = _
  rw [e1, Int.tmod_eq_emod_of_nonneg (Int.natCast_nonneg _), ← Int.natCast_emod]
  congr 2
  omega
end Go.Proofs.YtddelpjlcmaomaaDoor.grp

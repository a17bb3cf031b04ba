/- Contracts of sign.numberOf and sign.tooLong. -/
import Derived.Test.YtfncepfjnljhlaaDoorD01a
import Derived.Test.YtfncepfjnljhlaaDoorLibB
namespace Go.Proofs.YtfncepfjnljhlaaDoor
open Go.RowKit Go.YtfncepfjnljhlaaDoor
set_option linter.unusedVariables false
variable {Tg Tf : TypeId}
def numN (D : List Int) : Nat → Int
  | 0 => 0
  | k + 1 => numN D k * 256 + ith D k
theorem numN_in (D : List Int) (hD : Bytes D) (k : Nat) : 0 ≤ numN D k ∧ numN D k < 256 ^ k := by
  induction k with
  | zero => exact ⟨Int.le_refl _, by rw [Int.pow_zero]; exact Int.zero_lt_one⟩
  | succ k ih =>
    have h := hD k
    show 0 ≤ numN D k * 256 + ith D k ∧ numN D k * 256 + ith D k < 256 ^ (k + 1)
    rw [Int.pow_succ]; omega
theorem numN_7 (D : List Int) (hD : Bytes D) (k : Nat) (hk : k ≤ 7) : 0 ≤ numN D k ∧ numN D k < 72057594037927936 := by
  have h := numN_in D hD k
  refine ⟨h.1, Int.lt_of_lt_of_le h.2 ?_⟩
  have h2 : (256 : Nat) ^ k ≤ 72057594037927936 := (show (256 : Nat) ^ k ≤ 256 ^ 7 from Nat.pow_le_pow_right (by decide) hk)
  rw [show (256 : Int) ^ k = ((256 ^ k : Nat) : Int) by rw [Int.natCast_pow]; rfl]
  exact Int.ofNat_le.2 h2
set_option maxRecDepth 10000 in
theorem or_byte (x b : Int) (hx : 0 ≤ x ∧ x < 72057594037927936) (hb : 0 ≤ b ∧ b < 256) : bits BinOp.or IntKind.u64 (x * 256) b = x * 256 + b := by
  obtain ⟨n, rfl⟩ := Int.eq_ofNat_of_zero_le hx.1
  obtain ⟨m, rfl⟩ := Int.eq_ofNat_of_zero_le hb.1
  have h1 : (BitVec.ofInt 64 ((n : Int) * 256)).toNat = 2 ^ 8 * n := by
    rw [show (n : Int) * 256 = ((2 ^ 8 * n : Nat) : Int) by omega, BitVec.ofInt_natCast, BitVec.toNat_ofNat]; omega
  have h2 : (BitVec.ofInt 64 (m : Int)).toNat = m := by
    rw [BitVec.ofInt_natCast, BitVec.toNat_ofNat]; omega
  show IntKind.u64.wrap ((BitVec.ofInt 64 ((n : Int) * 256) ||| BitVec.ofInt 64 (m : Int)).toNat : Int) = _
  rw [BitVec.toNat_or, h1, h2, ← Nat.two_pow_add_eq_or_of_lt (by omega) n, IntKind.wrap_u64]
  omega
set_option maxRecDepth 100000 in
theorem numberOf_any (D : List Int) (w : World) (hl : D.length = 32) (hD : Bytes D) :
    Calls Tryd.prog 81 #[.agg (u8s D)] w fun e w' => e = .returned (.int .u64 (numN D 8)) ∧ Below w.heap.size w w' := by
  have hc := fun k (hk : k < 32) => (show (w.alloc (.cells (u8s D) 25)).cell? ⟨w.heap.size, k, none⟩ = some (.int .u8 (ith D k)) from by
    rw [cell_of_row _ _ _ _ _ _ (heap_alloc_new w _)]; exact u8s_get _ _ (by omega))
  have hc' := Lib.hid hc; have hl' := Lib.hid hl; have hD' := Lib.hid hD
  clear hc hl hD
  go_enter Tryd.func81, Tryd.ntmps81
  go_wp2
  go_loop [3, 8] (fun n i => ∃ k : Nat, k ≤ 8 ∧ i = .int .i64 k ∧ n = .int .u64 (numN D k)) (fun _ i => match i with | .int _ m => 8 - m.toNat | _ => 0)
  case atStart => exact ⟨0, by omega, rfl, rfl⟩
  case round =>
    obtain ⟨k, hk, rfl, rfl⟩ := hrel
    by_cases hlt : k < 8
    · have hck := hc'.out k (by omega)
      have hb := hD'.out k
      have hx := numN_7 D hD'.out k (by omega)
      have hor := Lib.hid (or_byte _ _ hx hb)
      have hnx : numN D (k + 1) = numN D k * 256 + ith D k := rfl
      generalize hY : numN D (k + 1) = y at hnx
      generalize hX : numN D k = x at *
      have hnx' := Lib.hid hnx; have hY' := Lib.hid hY
      clear hnx hX hY
      generalize ith D k = b at *
      go_wp2
      refine ⟨⟨k + 1, by omega, rfl, ?_⟩, ?_⟩
      · rw [hor.out, ← hnx'.out, hY'.out]
      · show 8 - ((k : Int) + 1).toNat < 8 - (k : Int).toNat
        omega
    · obtain rfl : k = 8 := by omega
      go_wp2
      go_ret
      exact ⟨rfl, (Below.refl _ _).alloc (Nat.le_refl _) _⟩
theorem tooLong_any (a : Option Addr) (n c : Nat) (w : World) : Calls Tryd.prog 62 #[.slice a n c] w fun e w' => e = .returned (.bool (decide (9991 < n))) ∧ w' = w := by
  go_enter Tryd.func62, Tryd.ntmps62
  go_wp2
  go_ret
  exact ⟨by congr 2; simp; omega, rfl⟩
theorem check_any (a : Nat) (w : World) : Calls Tryd.prog 37 #[.int .u32 (a : Int)] w fun e w' => e = .returned (.int .i64 (if 1 ≤ a ∧ a < 500000003 then 0 else 2)) ∧ w' = w := by
  by_cases h : 1 ≤ a ∧ a < 500000003
  · rw [if_pos h]
    obtain ⟨h1, h2⟩ := h
    go_enter Tryd.func37, Tryd.ntmps37
    go_wp2
    all_goals
      go_ret
      exact ⟨rfl, rfl⟩
  · rw [if_neg h]
    by_cases h1 : a = 0
    · subst h1
      go_enter Tryd.func37, Tryd.ntmps37
      go_wp2
      all_goals
        go_ret
        exact ⟨rfl, rfl⟩
    · have h2 : ¬ a < 500000003 := by omega
      have h3 : 1 ≤ a := by omega
      clear h h1
      go_enter Tryd.func37, Tryd.ntmps37
      go_wp2
      all_goals
        go_ret
        exact ⟨rfl, rfl⟩
end Go.Proofs.YtfncepfjnljhlaaDoor

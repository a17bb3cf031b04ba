/- SignKeys' walk. -/
import Derived.Test.YtoknefeciopdpaaGreatDoorS03f
import Derived.Test.YtoknefeciopdpaaGreatDoorM02c
namespace Go.Proofs.YtoknefeciopdpaaGreatDoor
open Go.RowKit Go.YtoknefeciopdpaaGreatDoor
set_option linter.unusedVariables false
theorem rcheck_any (a : Nat) (ha : a < 4294967296) (w : World) : Calls Tryz.prog 58 #[.int .u32 (a : Int)] w fun e w' => e = .returned (.int .i64 (if 1 ≤ a ∧ a < 500000003 then 0 else 2)) ∧ w' = w := by
  by_cases h0 : a = 0
  · subst h0
    go_enter Tryz.func58, Tryz.ntmps58
    go_wp2
    go_ret
    exact ⟨rfl, rfl⟩
  · have h1 : 1 ≤ a := by omega
    by_cases h2 : a < 500000003
    · have h3 : ¬ (500000003 : Int) ≤ (a : Int) := by omega
      rw [if_pos ⟨h1, h2⟩]
      have h4 : a < 4294967296 := by omega
      go_enter Tryz.func58, Tryz.ntmps58
      generalize hq : (500000003 : Int) = q at h3 ⊢
      clear hq
      go_wp2
      go_ret
      exact ⟨rfl, rfl⟩
    · rw [if_neg (by omega)]
      have h3 : (500000003 : Int) ≤ (a : Int) := by omega
      go_enter Tryz.func58, Tryz.ntmps58
      generalize hq : (500000003 : Int) = q at h3 ⊢
      clear hq
      go_wp2
      go_ret
      exact ⟨rfl, rfl⟩
theorem rcheck_ok (a : Nat) (h : 1 ≤ a ∧ a < 500000003) (w : World) : Calls Tryz.prog 58 #[.int .u32 (a : Int)] w fun e w' => e = .returned (.int .i64 0) ∧ w' = w := by
  have := rcheck_any a (by omega) w; rw [if_pos h] at this; exact this
theorem rcheck_bad (a : Nat) (ha : a < 4294967296) (h : ¬ (1 ≤ a ∧ a < 500000003)) (w : World) : Calls Tryz.prog 58 #[.int .u32 (a : Int)] w fun e w' => e = .returned (.int .i64 2) ∧ w' = w := by
  have := rcheck_any a ha w; rw [if_neg h] at this; exact this
/-- The world is behind 'w', and the listed variables are there. -/
def Since (w wi : World) : Prop := Below w.heap.size w wi ∧ GlobW wi
theorem Since.start {w : World} (h : GlobW w) : Since w w := ⟨Below.refl _ _, h⟩
theorem Since.step {w wi wj : World} (h : Since w wi) (hb : Below wi.heap.size wi wj) : Since w wj := ⟨h.1.trans (hb.mono h.1.size), h.2.mono hb⟩
theorem Since.gl {w wi : World} (h : Since w wi) : GlobW wi := h.2
end Go.Proofs.YtoknefeciopdpaaGreatDoor

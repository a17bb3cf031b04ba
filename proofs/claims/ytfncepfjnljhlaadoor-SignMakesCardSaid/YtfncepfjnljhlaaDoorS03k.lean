/- SignKeys' walk. -/
import Derived.Test.YtfncepfjnljhlaaDoorS03f
import Derived.Test.YtfncepfjnljhlaaDoorM02c
namespace Go.Proofs.YtfncepfjnljhlaaDoor
open Go.RowKit Go.YtfncepfjnljhlaaDoor
set_option linter.unusedVariables false
theorem rcheck_any (a : Nat) (ha : a < 4294967296) (w : World) : Calls Tryd.prog 43 #[.int .u32 (a : Int)] w fun e w' => e = .returned (.int .i64 (if 1 ≤ a ∧ a < 500000003 then 0 else 2)) ∧ w' = w := by
  by_cases h0 : a = 0
  · subst h0
    go_enter Tryd.func43, Tryd.ntmps43
    go_wp2
    go_ret
    exact ⟨rfl, rfl⟩
  · have h1 : 1 ≤ a := by omega
    by_cases h2 : a < 500000003
    · have h3 : ¬ (500000003 : Int) ≤ (a : Int) := by omega
      rw [if_pos ⟨h1, h2⟩]
      have h4 : a < 4294967296 := by omega
      go_enter Tryd.func43, Tryd.ntmps43
      generalize hq : (500000003 : Int) = q at h3 ⊢
      clear hq
      go_wp2
      go_ret
      exact ⟨rfl, rfl⟩
    · rw [if_neg (by omega)]
      have h3 : (500000003 : Int) ≤ (a : Int) := by omega
      go_enter Tryd.func43, Tryd.ntmps43
      generalize hq : (500000003 : Int) = q at h3 ⊢
      clear hq
      go_wp2
      go_ret
      exact ⟨rfl, rfl⟩
theorem rcheck_ok (a : Nat) (h : 1 ≤ a ∧ a < 500000003) (w : World) : Calls Tryd.prog 43 #[.int .u32 (a : Int)] w fun e w' => e = .returned (.int .i64 0) ∧ w' = w := by
  have := rcheck_any a (by omega) w; rw [if_pos h] at this; exact this
theorem rcheck_bad (a : Nat) (ha : a < 4294967296) (h : ¬ (1 ≤ a ∧ a < 500000003)) (w : World) : Calls Tryd.prog 43 #[.int .u32 (a : Int)] w fun e w' => e = .returned (.int .i64 2) ∧ w' = w := by
  have := rcheck_any a ha w; rw [if_neg h] at this; exact this
/-- The world is behind 'w', and the listed variables are there. -/
def Since (w wi : World) : Prop := Below w.heap.size w wi ∧ GlobW wi
theorem Since.start {w : World} (h : GlobW w) : Since w w := ⟨Below.refl _ _, h⟩
theorem Since.step {w wi wj : World} (h : Since w wi) (hb : Below wi.heap.size wi wj) : Since w wj := ⟨h.1.trans (hb.mono h.1.size), h.2.mono hb⟩
theorem Since.gl {w wi : World} (h : Since w wi) : GlobW wi := h.2
theorem keys_any (a b : Nat) (ha : a < 4294967296) (hb : b < 4294967296) (w : World) (hgl : GlobW w) :
    Calls Tryd.prog 13 #[.int .u32 (a : Int), .int .u32 (b : Int)] w fun e w' => e = .returned (.bool true) ∧ Below w.heap.size w w' := by
  have hS := Lib.hid (Since.start hgl)
  have hal := Lib.hid (fun wi (o : Since w wi) => alive3 wi o.gl)
  clear hgl
  by_cases sa : 1 ≤ a ∧ a < 500000003
  · have kA := Lib.hid (rcheck_ok a sa)
    by_cases sb : 1 ≤ b ∧ b < 500000003
    · have kB := Lib.hid (rcheck_ok b sb)
      have pA := Lib.hid (public_ok a sa); have pB := Lib.hid (public_ok b sb)
      have hI := Lib.hid (grp.is_pw4 a)
      have h1 := grp.base_ne_one a sa.1 sa.2
      have hinj := grp.base_inj a b sa.2 sb.2
      have hlt := pw_u32 4 a; have hlt2 := pw_u32 4 b
      by_cases hab : a = b
      · subst hab
        clear hinj sb pB kB
        generalize grp.pw 4 a = X at *
        have h1i : ((X : Int) != 1) = true := by rw [bne_iff_ne]; omega
        clear h1 sa
        go_enter Tryd.func13, Tryd.ntmps13
        go_wp2_with (first | (go_at_call 43; with_reducible refine (kA.out _).mono ?_; rintro e w' ⟨rfl, rfl⟩) | (go_at_call 32; ((with_reducible refine (pA.out _).mono ?_)); rintro e w' ⟨rfl, g⟩; have hS := Lib.hid (hS.out.step g); clear g) | (go_at_call 45; ((with_reducible refine (hI.out _).mono ?_)); rintro e w' ⟨rfl, g⟩; have hS := Lib.hid (hS.out.step g); clear g) | (go_at_call 38; ((with_reducible refine (hal.out _ hS.out).mono ?_)); rintro e w' ⟨rfl, g⟩; have hS := Lib.hid (hS.out.step g); clear g))
        go_ret
        exact ⟨rfl, hS.out.1⟩
      · have hne : grp.pw 4 a ≠ grp.pw 4 b := fun h => hab (hinj.1 h)
        clear hinj
        generalize grp.pw 4 a = X at *
        generalize grp.pw 4 b = Y at *
        have h1i : ((X : Int) != 1) = true := by rw [bne_iff_ne]; omega
        have n1 : ((X : Int) == (Y : Int)) = false := by rw [beq_eq_false_iff_ne]; omega
        have n2 : ((a : Int) == (b : Int)) = false := by rw [beq_eq_false_iff_ne]; omega
        clear h1 sa sb hne hab
        go_enter Tryd.func13, Tryd.ntmps13
        go_wp2_with (first | (go_at_call 43; (first | (with_reducible refine (kA.out _).mono ?_) | (with_reducible refine (kB.out _).mono ?_)); rintro e w' ⟨rfl, rfl⟩) | (go_at_call 32; (first | (with_reducible refine (pA.out _).mono ?_) | (with_reducible refine (pB.out _).mono ?_)); rintro e w' ⟨rfl, g⟩; have hS := Lib.hid (hS.out.step g); clear g) | (go_at_call 45; ((with_reducible refine (hI.out _).mono ?_)); rintro e w' ⟨rfl, g⟩; have hS := Lib.hid (hS.out.step g); clear g) | (go_at_call 38; ((with_reducible refine (hal.out _ hS.out).mono ?_)); rintro e w' ⟨rfl, g⟩; have hS := Lib.hid (hS.out.step g); clear g))
        go_ret
        exact ⟨rfl, hS.out.1⟩
    · have kB := Lib.hid (rcheck_bad b hb sb)
      clear sa sb ha hb
      go_enter Tryd.func13, Tryd.ntmps13
      go_wp2_with (first | (go_at_call 43; (first | (with_reducible refine (kA.out _).mono ?_) | (with_reducible refine (kB.out _).mono ?_)); rintro e w' ⟨rfl, rfl⟩) | (go_at_call 38; ((with_reducible refine (hal.out _ hS.out).mono ?_)); rintro e w' ⟨rfl, g⟩; have hS := Lib.hid (hS.out.step g); clear g))
      go_ret
      exact ⟨rfl, hS.out.1⟩
  · have kA := Lib.hid (rcheck_bad a ha sa)
    clear sa ha hb
    go_enter Tryd.func13, Tryd.ntmps13
    go_wp2_with (first | (go_at_call 43; (first | (with_reducible refine (kA.out _).mono ?_)); rintro e w' ⟨rfl, rfl⟩) | (go_at_call 38; ((with_reducible refine (hal.out _ hS.out).mono ?_)); rintro e w' ⟨rfl, g⟩; have hS := Lib.hid (hS.out.step g); clear g))
    go_ret
    exact ⟨rfl, hS.out.1⟩
end Go.Proofs.YtfncepfjnljhlaaDoor

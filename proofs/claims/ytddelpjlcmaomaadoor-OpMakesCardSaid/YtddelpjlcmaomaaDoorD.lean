/- Contracts of Is, Mul, Pow, Inv, Base, of both packages. -/
import Derived.Test.YtddelpjlcmaomaaDoorC
namespace Go.Proofs.YtddelpjlcmaomaaDoor.grp
open Go.RowKit
set_option linter.unusedVariables false
theorem inG_zero : inG 0 = false := by simp [inG]
theorem inG_big (a : Nat) (h : ¬ a < GP) : inG a = false := by simp [inG, h]
theorem inG_mid (a : Nat) (h0 : 1 ≤ a) (h1 : a < GP) : inG a = ((pw a 500000003 : Int) == 1) := by
  rw [Bool.eq_iff_iff, inG_iff, beq_iff_eq]; omega
theorem is_any (a : Nat) (ha : a < 4294967296) (w : World) : Calls Tryd.prog 55 #[.int .u32 (a : Int)] w fun e w' => e = .returned (.bool (inG a)) ∧ Grown w w' := by
  by_cases h0 : 1 ≤ a
  · by_cases h1 : a < 1000000007
    · have hp := Lib.hid (power_any a 500000003 h1 (by decide))
      have hi := Lib.hid (inG_mid a h0 h1)
      have h1i : (a : Int) < 1000000007 := by omega
      clear ha h1
      generalize pw a 500000003 = x at hp hi
      go_enter Tryd.func55, Tryd.ntmps55
      generalize hc : (1000000007 : Int) = c at h1i ⊢
      clear hc
      go_wp2_with (go_at_call 92; refine (hp.out _).mono ?_; rintro e w' ⟨rfl, g1⟩)
      all_goals
        go_ret
        refine ⟨?_, g1⟩
        rw [hi.out]
        first | rfl | (simp_all; done)
    · have hi := Lib.hid (inG_big a h1)
      have h1i : ¬ (a : Int) < 1000000007 := by omega
      clear ha h1
      go_enter Tryd.func55, Tryd.ntmps55
      generalize hc : (1000000007 : Int) = c at h1i ⊢
      clear hc
      go_wp2
      all_goals
        go_ret
        exact ⟨by rw [hi.out]; rfl, Grown.refl _⟩
  · obtain rfl : a = 0 := by omega
    have hi := Lib.hid inG_zero
    clear ha h0
    go_enter Tryd.func55, Tryd.ntmps55
    go_wp2
    go_ret
    exact ⟨by rw [hi.out]; rfl, Grown.refl _⟩
theorem ris_any (a : Nat) (ha : a < 4294967296) (w : World) : Calls Tryd.prog 58 #[.int .u32 (a : Int)] w fun e w' => e = .returned (.bool (inG a)) ∧ w' = w := by
  by_cases h0 : 1 ≤ a
  · by_cases h1 : a < 1000000007
    · have hp := Lib.hid (rpower_any a 500000003 h1 (by decide))
      have hi := Lib.hid (inG_mid a h0 h1)
      have h1i : (a : Int) < 1000000007 := by omega
      clear h1
      generalize pw a 500000003 = x at hp hi
      go_enter Tryd.func58, Tryd.ntmps58
      generalize hc : (1000000007 : Int) = c at h1i hp ⊢
      clear hc
      go_wp2_with (go_at_call 93; refine (hp.out _).mono ?_; rintro e w' ⟨rfl, rfl⟩)
      all_goals
        go_ret
        refine ⟨?_, rfl⟩
        rw [hi.out]
        first | rfl | (simp_all; done)
    · have hi := Lib.hid (inG_big a h1)
      have h1i : ¬ (a : Int) < 1000000007 := by omega
      clear ha h1
      go_enter Tryd.func58, Tryd.ntmps58
      generalize hc : (1000000007 : Int) = c at h1i ⊢
      clear hc
      go_wp2
      all_goals
        go_ret
        exact ⟨by rw [hi.out]; rfl, rfl⟩
  · obtain rfl : a = 0 := by omega
    have hi := Lib.hid inG_zero
    clear ha h0
    go_enter Tryd.func58, Tryd.ntmps58
    go_wp2
    go_ret
    exact ⟨by rw [hi.out]; rfl, rfl⟩
theorem every_is (a b : Nat) (blk : Nat) (w : World)(ha : a < 4294967296) (hb : b < 4294967296)
    (h0 : w.cell? ⟨blk, 0, none⟩ = some (.int .u32 (a : Int))) (h1 : w.cell? ⟨blk, 1, none⟩ = some (.int .u32 (b : Int))) :
    Calls Tryd.prog 117 #[.func (.func 55) #[] #[], .slice (some ⟨blk, 0, none⟩) 2 2] w fun e w' => e = .returned (.bool (inG a && inG b)) ∧ Grown w w' := by
  have hF0 := fun v => is_any a (by omega) v
  have hF1 := fun v => is_any b (by omega) v
  generalize inG a = x at hF0 ⊢
  generalize inG b = y at hF1 ⊢
  have hF := Lib.hid hF0; have hG := Lib.hid hF1
  clear hF0 hF1
  have hblk : blk < w.heap.size := World.block_lt_of_cell? _ _ h0
  go_enter Tryd.func117, Tryd.ntmps117
  go_wp2
  go_loopw [4, 9] (fun r i wr => r = .bool false ∧ Grown w wr ∧ (i = .int .i64 0 ∨ (i = .int .i64 1 ∧ x = true) ∨ (i = .int .i64 2 ∧ x = true ∧ y = true))) (fun _ i _ => match i with | .int _ n => 2 - n.toNat | _ => 0)
  case atStart => exact ⟨rfl, Grown.refl _, Or.inl rfl⟩
  case round =>
    obtain ⟨rfl, hg, h | ⟨h, hx⟩ | ⟨h, hx, hy⟩⟩ := hrel
    · subst h
      have k0 := (Grown.cell' hg hblk).trans h0; have k1 := (Grown.cell' hg hblk).trans h1; have hg' := Lib.hid hg; clear hg
      cases x
      · go_wp2_with (go_at_call 55; refine (hF.out _).mono ?_; rintro e w' ⟨rfl, g1⟩)
        go_ret
        exact ⟨rfl, Grown.trans' hg'.out g1⟩
      · go_wp2_with (go_at_call 55; refine (hF.out _).mono ?_; rintro e w' ⟨rfl, g1⟩)
        exact ⟨⟨rfl, Grown.trans' hg'.out g1, Or.inr (Or.inl ⟨rfl, trivial⟩)⟩, by decide⟩
    · subst h; subst hx
      have k0 := (Grown.cell' hg hblk).trans h0; have k1 := (Grown.cell' hg hblk).trans h1; have hg' := Lib.hid hg; clear hg
      cases y
      · go_wp2_with (go_at_call 55; refine (hG.out _).mono ?_; rintro e w' ⟨rfl, g1⟩)
        go_ret
        exact ⟨rfl, Grown.trans' hg'.out g1⟩
      · go_wp2_with (go_at_call 55; refine (hG.out _).mono ?_; rintro e w' ⟨rfl, g1⟩)
        exact ⟨⟨rfl, Grown.trans' hg'.out g1, Or.inr (Or.inr ⟨rfl, trivial, trivial⟩)⟩, by decide⟩
    · subst h; subst hx; subst hy
      have hg' := Lib.hid hg; clear hg
      go_wp2
      go_ret
      exact ⟨rfl, hg'.out⟩
end Go.Proofs.YtddelpjlcmaomaaDoor.grp

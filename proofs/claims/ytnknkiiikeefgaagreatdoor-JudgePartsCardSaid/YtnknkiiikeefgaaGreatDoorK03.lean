/- Layer 6: the reader of operations: numbers, ids, keys, values. -/
import Derived.Test.YtnknkiiikeefgaaGreatDoorK02
namespace Go.Proofs.YtnknkiiikeefgaaGreatDoor.wir.val
open Go.RowKit Go.YtnknkiiikeefgaaGreatDoor
set_option linter.unusedVariables false
set_option maxRecDepth 100000 in
theorem next_any {W0 w : World} {g : Nat} {l : List Int} {fl : Bool} (h : St W0 g w l fl) (hl : Bytes l) (hlm : l.length ≤ 1000000) :
    Calls Tryz.prog 112 #[.pointer (some ⟨g, 0, none⟩)] w fun e w' => ∃ x : Int, e = .returned (.int .u8 x) ∧ (0 ≤ x ∧ x < 256) ∧ RdOut W0 g w l fl (rNext l) x w' := by
  have hf := Lib.hid h.fail
  have hp := Lib.hid (fun a' c' (hr : RdB W0 (.slice a' (l.drop 1).length c') (l.drop 1)) => (show St W0 g (w.setCell ⟨g, 0, none⟩ (.slice a' (l.drop 1).length c')) (l.drop 1) fl ∧ w.grownBy (w.setCell ⟨g, 0, none⟩ (.slice a' (l.drop 1).length c')) (some g) from ⟨h.put a' c' hr, but_cell _ _ _ _⟩))
  rw [show (l.drop 1).length = l.length - 1 from List.length_drop] at hp
  obtain ⟨hb, hg, a, c, hr, hrow⟩ := h
  have c0 : w.cell? ⟨g, 0, none⟩ = some (.slice a l.length c) := cell_of_row _ _ _ _ _ _ hrow
  have c1 : w.cell? ⟨g, 1, none⟩ = some (.bool fl) := cell_of_row _ _ _ _ _ _ hrow
  have f0 := frozen_of_row w g 0 _ _ hrow
  have f1 := frozen_of_row w g 1 _ _ hrow
  have hq := Lib.hid (fun hN => restK hr rfl 1 hN)
  by_cases h0 : l.length = 0
  · have hn : rNext l = none := if_pos h0
    have hfin := Lib.hid (show RdOut W0 g w l fl (rNext l) 0 (w.setCell ⟨g, 1, none⟩ (.bool true)) from ⟨l, true, hf.out, but_cell _ _ _ _, Nat.le_refl _, hl, .inl ⟨rfl, hn⟩⟩)
    clear hp hq hf hn hrow hr hb
    rw [h0] at c0
    go_enter Tryz.func112, Tryz.ntmps112
    go_wp2
    go_ret
    exact ⟨0, rfl, by decide, hfin.out⟩
  · have hn : rNext l = some (ith l 0, l.drop 1) := if_neg h0
    have hx := Lib.hid (hl 0)
    rcases hr with ⟨a', c', he, hc, rfl⟩ | ⟨b, o, c', he, h1, h2, h3, h4⟩
    · simp at h0
    injection he with e1 e2 e3
    subst e1 e3
    clear e2
    have hfin := Lib.hid (fun w' (hs : St W0 g w' (l.drop 1) fl ∧ w.grownBy w' (some g)) => (show RdOut W0 g w l fl (rNext l) (ith l 0) w' from ⟨l.drop 1, fl, hs.1, hs.2, by rw [List.length_drop]; omega, bytes_drop _ _ hl, .inr ⟨rfl, hn⟩⟩))
    have hq1 := Lib.hid (fun h => hp.out _ _ ((hq.out (by omega)).1 h))
    have hq2 := Lib.hid (hp.out _ _ ((hq.out (by omega)).2 b o rfl))
    have k0 : w.cell? ⟨b, o, none⟩ = some (.int .u8 (ith l 0)) := by
      have := h4 0 (by omega)
      rw [Nat.add_zero] at this
      exact (hb.cell (p := ⟨b, o, none⟩) h3).trans this
    clear hp hq hrow h3 h4 hb hn hf hl
    generalize l.drop 1 = l' at *
    generalize rNext l = RN at *
    generalize ith l 0 = X at *
    obtain ⟨N, hN⟩ : ∃ N, N = l.length := ⟨_, rfl⟩
    rw [← hN] at hq1 hq2 c0 h0 h1 hlm
    clear hN
    have i1 : (1 : Int) ≤ (N : Int) := by omega
    have i2 : (N : Int) ≤ (c : Int) := by omega
    have i3 : (0 : Int) < (N : Int) := by omega
    have i4 : 0 < N := by omega
    by_cases hc : c = 1
    · subst hc
      obtain rfl : N = 1 := by omega
      have hq3 := Lib.hid (hq1.out (by omega))
      rw [show 1 - 1 = 0 from rfl] at hq3
      clear hq1 hq2
      go_enter Tryz.func112, Tryz.ntmps112
      go_wp2
      go_ret
      exact ⟨X, rfl, hx.out, hfin.out _ hq3.out⟩
    · have hcc2 : ¬ c - 1 = 0 := by omega
      have b6 : ¬ c ≤ 1 := by omega
      have b7 : ¬ 1 = c := by omega
      have b8 : (1 : Int) ≤ (c : Int) := by omega
      clear hq1
      go_enter Tryz.func112, Tryz.ntmps112
      go_wp2
      go_ret
      exact ⟨X, rfl, hx.out, hfin.out _ hq2.out⟩
theorem St.rd {W0 w : World} {g : Nat} {l : List Int} {fl : Bool} (h : St W0 g w l fl) : ∃ a c, RdB w (.slice a l.length c) l ∧ w.cell? ⟨g, 0, none⟩ = some (.slice a l.length c) := by
  obtain ⟨hb, hg, a, c, hr, hrow⟩ := h
  exact ⟨a, c, hr.mono hb, cell_of_row _ _ _ _ _ _ hrow⟩
set_option maxRecDepth 100000 in
theorem number_rd {W0 w : World} {g : Nat} {l : List Int} {fl : Bool} (h : St W0 g w l fl) (hl : Bytes l) (hlm : l.length ≤ 1000000) :
    Calls Tryz.prog 115 #[.pointer (some ⟨g, 0, none⟩)] w fun e w' => ∃ n : Nat, e = .returned (.int .u64 (n : Int)) ∧ n < 18446744073709551616 ∧ RdOut W0 g w l fl (rNum l) n w' := by
  obtain ⟨a, c, hr, c0⟩ := h.rd
  have hN := Lib.hid (readNumber_any l _ w hr hl)
  cases hre : readF l with
  | none =>
    have hn : rNum l = none := by unfold rNum; rw [hre]
    obtain ⟨e1, e2, e3⟩ := rd_none hre
    rw [e1, e2, e3] at hN
    have hS := Lib.hid (skip_bad h 0 12 rfl)
    have hfin := Lib.hid (fun w' (hs : St W0 g w' l true) (hg : w.grownBy w' (some g)) => (show RdOut W0 g w l fl (rNum l) 0 w' from ⟨l, true, hs, hg, Nat.le_refl _, hl, .inl ⟨rfl, hn⟩⟩))
    clear h hl hr hn hre e1 e2 e3
    generalize rNum l = RN at *
    generalize l.length = N at *
    go_enter Tryz.func115, Tryz.ntmps115
    go_wp2_with (first
      | (go_at_call 157; (with_reducible refine (hN.out).mono ?_); rintro e w1 ⟨rfl, rfl⟩)
      | (go_at_call 156; (with_reducible refine (hS.out).mono ?_); rintro e w2 ⟨⟨z, rfl⟩, q1, q2⟩; have q1 := Lib.hid q1; have q2 := Lib.hid q2))
    go_ret
    exact ⟨0, rfl, by decide, hfin.out _ q1.out q2.out⟩
  | some p =>
    obtain ⟨n, u⟩ := p
    have hn : rNum l = some (n, l.drop u) := by unfold rNum; rw [hre]
    obtain ⟨e1, e2, e3⟩ := rd_some hre
    rw [e1, e2, e3] at hN
    obtain ⟨a1, a2, a3, a4⟩ := readF_some hl hre
    have hS := Lib.hid (skip_ok h u a3 hlm)
    have hfin := Lib.hid (fun w' (hs : St W0 g w' (l.drop u) fl) (hg : w.grownBy w' (some g)) => (show RdOut W0 g w l fl (rNum l) n w' from ⟨l.drop u, fl, hs, hg, by rw [List.length_drop]; omega, bytes_drop _ _ hl, .inr ⟨rfl, hn⟩⟩))
    have ha1 := Lib.hid a1
    clear h hl hr hn hre e1 e2 e3 a1 a2 a4
    generalize rNum l = RN at *
    generalize l.drop u = l' at *
    generalize l.length = N at *
    go_enter Tryz.func115, Tryz.ntmps115
    go_wp2_with (first
      | (go_at_call 157; (with_reducible refine (hN.out).mono ?_); rintro e w1 ⟨rfl, rfl⟩)
      | (go_at_call 156; (with_reducible refine (hS.out).mono ?_); rintro e w2 ⟨⟨z, rfl⟩, q1, q2⟩; have q1 := Lib.hid q1; have q2 := Lib.hid q2))
    go_ret
    exact ⟨n, rfl, ha1.out, hfin.out _ q1.out q2.out⟩
set_option maxRecDepth 100000 in
theorem small_rd {W0 w : World} {g : Nat} {l : List Int} {fl : Bool} (h : St W0 g w l fl) (hl : Bytes l) (hlm : l.length ≤ 1000000) :
    Calls Tryz.prog 113 #[.pointer (some ⟨g, 0, none⟩)] w fun e w' => ∃ n : Nat, e = .returned (.int .u32 (n : Int)) ∧ n < 4294967296 ∧ RdOut W0 g w l fl (rSmall l) n w' := by
  have hN := Lib.hid (number_rd h hl hlm)
  have hs1 : ∀ n l', rNum l = some (n, l') → ¬ 4294967295 < n → rSmall l = some (n, l') := fun n l' hn hl => by unfold rSmall; rw [hn]; simp only; rw [if_neg hl]
  have hs2 : ∀ n l', rNum l = some (n, l') → 4294967295 < n → rSmall l = none := fun n l' hn hl => by unfold rSmall; rw [hn]; simp only; rw [if_pos hl]
  have hs3 : rNum l = none → rSmall l = none := fun hn => by unfold rSmall; rw [hn]
  have hs1 := Lib.hid hs1; have hs2 := Lib.hid hs2; have hs3 := Lib.hid hs3
  clear h hl
  go_enter Tryz.func113, Tryz.ntmps113
  go_upto_region 2 with (go_at_call 115; (with_reducible refine (hN.out).mono ?_); rintro e w1 ⟨n, rfl, hn, l', fl', q1, q2, q3, q4, q5⟩; have q1 := Lib.hid q1; have q2 := Lib.hid q2; have q3 := Lib.hid q3; have q4 := Lib.hid q4; have q5 := Lib.hid q5; have hn := Lib.hid hn)
  by_cases hlt : 4294967295 < n
  · have hf := Lib.hid q1.out.fail
    have hb := Lib.hid (but_trans q2.out (but_cell w1 g 1 (.bool true)))
    have hnone : rSmall l = none := by
      rcases q5.out with ⟨_, h⟩ | ⟨_, h⟩
      · exact hs3.out h
      · exact hs2.out _ _ h hlt
    have hfin := Lib.hid (fun x => (show RdOut W0 g w l fl (rSmall l) x (w1.setCell ⟨g, 1, none⟩ (.bool true)) from ⟨l', true, hf.out, hb.out, q3.out, q4.out, .inl ⟨rfl, hnone⟩⟩))
    obtain ⟨_, _, _, _, _, hrow⟩ := q1.out
    have c1 : w1.cell? ⟨g, 1, none⟩ = some (.bool fl') := cell_of_row _ _ _ _ _ _ hrow
    have f1 := frozen_of_row w1 g 1 _ _ hrow
    have hi : (4294967295 : Int) < (n : Int) := by omega
    have hw : IntKind.u32.wrap (n : Int) = ((n % 4294967296 : Nat) : Int) := by
      rw [Int.natCast_emod]; rfl
    have hw' := Lib.hid hw
    clear hrow hnone hw
    go_wp2
    go_ret
    exact ⟨n % 4294967296, by rw [Int.natCast_emod]; rfl, Nat.mod_lt _ (by decide), hfin.out _⟩
  · have hi : ¬ (4294967295 : Int) < (n : Int) := by omega
    have hw : IntKind.u32.wrap (n : Int) = (n : Int) := IntWalk.u32_in _ (by omega)
    have hfin := Lib.hid (show RdOut W0 g w l fl (rSmall l) n w1 from ⟨l', fl', q1.out, q2.out, q3.out, q4.out, by
      rcases q5.out with ⟨h1, h⟩ | ⟨h1, h⟩
      · exact .inl ⟨h1, hs3.out h⟩
      · exact .inr ⟨h1, hs1.out _ _ h hlt⟩⟩)
    go_wp2
    go_ret
    exact ⟨n, rfl, by omega, hfin.out⟩
end Go.Proofs.YtnknkiiikeefgaaGreatDoor.wir.val

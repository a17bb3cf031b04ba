/- SignMakes' walk. -/
import Derived.Test.YtfncepfjnljhlaaDoorS04b
import Derived.Test.YtfncepfjnljhlaaDoorS03t
import Derived.Test.YtfncepfjnljhlaaDoorD01r
namespace Go.Proofs.YtfncepfjnljhlaaDoor
open Go.RowKit Go.YtfncepfjnljhlaaDoor
set_option linter.unusedVariables false
set_option maxRecDepth 100000 in
set_option maxHeartbeats 2000000 in
theorem makes_law (a r y : Nat) (ha : a < 4294967296) (hr : r < 4294967296) (hy : y < 4294967296) (mv : Value) (m : List Int) (w : World) (hm : RdB w mv m) (hmb : Bytes m) (hgl : GlobW w) :
    Calls Tryd.prog 8 #[.int .u32 (a : Int), .int .u32 (r : Int), .int .u32 (y : Int), mv] w fun e w' => e = .returned (.bool true) ∧ Below w.heap.size w w' := by
  by_cases hl : m.length ≤ 1000 ∨ 9991 < m.length ∧ m.length ≤ 11000
  · obtain ⟨p⟩ := bothM a r y ha hr hy mv m w hm hmb hgl
    obtain ⟨ma, mc, rfl⟩ := hm.slice
    have hm' := Lib.hid hm
    obtain ⟨A, A', K, K', C, C', E, S, F, T, u1, u2, n1, n2, c1, c2, s1, s2, t1, t2⟩ := p
    have u1 := Lib.hid u1; have u2 := Lib.hid u2; have n1 := Lib.hid n1; have n2 := Lib.hid n2; have c1 := Lib.hid c1; have c2 := Lib.hid c2; have s1 := Lib.hid s1; have s2 := Lib.hid s2; have t1 := Lib.hid t1; have t2 := Lib.hid t2
    have hlm : m.length ≤ 11000 := by omega
    generalize hn : m.length = n at *
    have hn' := Lib.hid hn
    clear hn hm hmb hgl ha hr hy
    rcases hl with hl | ⟨hl, hl2⟩
    all_goals
      go_enter Tryd.func8, Tryd.ntmps8
      go_wp2_with (refine appendB rfl _ _ 29 rfl w.heap.size 5 Tryd.underlying29 (by kernel_rfl) _ rfl _ (own_nil w) _ rfl _ (hm'.out.mono (below_a w (.cells #[] 5))) (by rw [hn'.out]; simp; omega) (by simp) ?_)
      intro v' w1 h1 h2
      have hB := Lib.hid ((below_a w (.cells #[] 5)).trans ((own_nil w).below h2 (by simp)))
      have hC := Lib.hid (show RdB w1 v' m from h1.rd)
      obtain ⟨va, vc, hv⟩ := hC.out.slice
      rw [hn'.out] at hv
      subst hv
      clear h1 h2
      refine Stop.go ?_
      go_wp2_with (first | (go_at_call 32; (with_reducible refine (u1.out _).mono ?_); rintro e w2 ⟨rfl, g⟩; have hC := Lib.hid (hC.out.mono g); have hB := Lib.hid (hB.out.trans (g.mono hB.out.size)); clear g) | (go_at_call 39; (with_reducible refine (u2.out _).mono ?_); rintro e w2 ⟨rfl, g⟩; have hC := Lib.hid (hC.out.mono g); have hB := Lib.hid (hB.out.trans (g.mono hB.out.size)); clear g) | (go_at_call 33; (with_reducible refine (n1.out _ hB.out).mono ?_); rintro e w2 ⟨rfl, g⟩; have hC := Lib.hid (hC.out.mono g); have hB := Lib.hid (hB.out.trans (g.mono hB.out.size)); clear g) | (go_at_call 40; (with_reducible refine (n2.out _ hB.out).mono ?_); rintro e w2 ⟨rfl, g⟩; have hC := Lib.hid (hC.out.mono g); have hB := Lib.hid (hB.out.trans (g.mono hB.out.size)); clear g) | (go_at_call 34; (with_reducible refine (c1.out _ hB.out).mono ?_); rintro e w2 ⟨rfl, g⟩; have hC := Lib.hid (hC.out.mono g); have hB := Lib.hid (hB.out.trans (g.mono hB.out.size)); clear g) | (go_at_call 41; (with_reducible refine (c2.out _ hB.out).mono ?_); rintro e w2 ⟨rfl, g⟩; have hC := Lib.hid (hC.out.mono g); have hB := Lib.hid (hB.out.trans (g.mono hB.out.size)); clear g) | (go_at_call 35; (with_reducible refine (s1.out _ hB.out).mono ?_); rintro e w3 ⟨rfl, g⟩; have hC := Lib.hid (hC.out.mono g); have hB := Lib.hid (hB.out.trans (g.mono hB.out.size)); clear g) | (refine storeNew w3 rfl 60 _ _ rfl #[.int .u32 E, .int .u32 S] 60 rfl rfl (sig_info2 _ _) rfl (two_one _ _) ?_; intro wx hr hb2; refine Stop.go'' _ ?_))
      refine StopP.go ?_
      have h7 := Lib.hid (show Has wx w3.heap.size _ _ from hr)
      have hC := Lib.hid (hC.out.mono hb2)
      have hB := Lib.hid (hB.out.trans (hb2.mono hB.out.size))
      clear hr hb2
      generalize w3.heap.size = g7 at *
      go_wp2_with (first | (go_at_call 42; (with_reducible refine (s2.out _ hB.out).mono ?_); rintro e w4 ⟨rfl, g⟩; have hC := Lib.hid (hC.out.mono g); have h7 := Lib.hid (h7.out.step g); have hB := Lib.hid (hB.out.trans (g.mono hB.out.size)); clear g) | (refine storeNew w4 rfl 60 _ _ rfl #[.int .u32 E, .int .u32 S] 60 rfl rfl (sig_info2 _ _) rfl (two_one _ _) ?_; intro wy hr hb2; refine Stop.go'' _ ?_))
      refine StopP.go ?_
      have h9 := Lib.hid (show Has wy w4.heap.size _ _ from hr)
      have h7 := Lib.hid (h7.out.step hb2)
      have hC := Lib.hid (hC.out.mono hb2)
      have hB := Lib.hid (hB.out.trans (hb2.mono hB.out.size))
      clear hr hb2
      generalize w4.heap.size = g9 at *
      go_wp2_with (first | (go_at_call 37; (with_reducible refine (t1.out _).mono ?_); rintro e w5 ⟨rfl, g⟩; have hC := Lib.hid (hC.out.mono g); have h7 := Lib.hid (h7.out.step g); have h9 := Lib.hid (h9.out.step g); have hB := Lib.hid (hB.out.trans (g.mono hB.out.size)); clear g) | (go_at_call 43; (with_reducible refine (t2.out _).mono ?_); rintro e w6 ⟨rfl, g⟩; have hC := Lib.hid (hC.out.mono g); have h7 := Lib.hid (h7.out.step g); have h9 := Lib.hid (h9.out.step g); have hB := Lib.hid (hB.out.trans (g.mono hB.out.size)); clear g) | (refine wpList_load_row_g rfl 60 _ rfl g7 rfl 60 _ (0, 0) _ h7.out Tryd.underlying60 rfl (sig_info2 _ _) ?_) | (refine wpList_load_row_g rfl 60 _ rfl g9 rfl 60 _ (0, 0) _ h9.out Tryd.underlying60 rfl (sig_info2 _ _) ?_) | (go_at_call 26; (with_reducible refine (sameb_yes _ _ _ _ _ m _ hn'.out ?_ ?_ ?_).mono ?_); (omega); (exact hm'.out.mono hB.out); (exact hC.out); rintro e w7 ⟨rfl, g⟩; have hB := Lib.hid (hB.out.trans (g.mono hB.out.size)); clear g))
      go_ret
      exact ⟨rfl, hB.out⟩
  · obtain ⟨ma, mc, rfl⟩ := hm.slice
    generalize m.length = n at *
    clear hm hmb hgl ha hr hy
    by_cases h1 : n ≤ 9991
    · have h2 : 1000 < n := by omega
      clear hl
      go_enter Tryd.func8, Tryd.ntmps8
      go_wp2
      go_ret
      exact ⟨rfl, Below.refl _ _⟩
    · have h2 : 11000 < n := by omega
      have h3 : 9991 < n := by omega
      have h4 : 1000 < n := by omega
      clear hl
      go_enter Tryd.func8, Tryd.ntmps8
      go_wp2
      go_ret
      exact ⟨rfl, Below.refl _ _⟩
end Go.Proofs.YtfncepfjnljhlaaDoor

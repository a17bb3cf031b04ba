/- alive: the chapter's examples. -/
import Derived.Test.YtpklfohaifeboaaV09
import Derived.Test.YtpklfohaifeboaaW03
namespace Go.Proofs.Ytpklfohaifeboaa
open Go.RowKit Go.Ytpklfohaifeboaa
set_option linter.unusedVariables false
def fitB (v : Va) : Bool := decide (0 ≤ v.k) && decide (v.k < 256) && decide (-9223372036854775808 ≤ v.n) && decide (v.n ≤ 9223372036854775807) && decide (v.b < 18446744073709551616) && decide (v.s.size ≤ 1000000) && v.ok
theorem fitB_fit {v : Va} (h : fitB v = true) : v.fit ∧ v.ok = true := by
  simp only [fitB, Bool.and_eq_true, decide_eq_true_eq] at h
  obtain ⟨⟨⟨⟨⟨⟨h1, h2⟩, h3⟩, h4⟩, h5⟩, h6⟩, h7⟩ := h
  exact ⟨⟨⟨h1, h2⟩, ⟨h3, h4⟩, h5, h6⟩, h7⟩
/-- All fit, and each comes before the next one. -/
def ascB : List Va → Bool
  | [] => true
  | [v] => fitB v
  | v :: u :: l => fitB v && decide (v.cmp u = -1) && ascB (u :: l)
theorem ascB_fit : ∀ (L : List Va), ascB L = true → ∀ i, i < L.length → (vaAt L i).fit ∧ (vaAt L i).ok = true
  | [v], h, 0, _ => fitB_fit h
  | v :: u :: l, h, 0, _ => by
    simp only [ascB, Bool.and_eq_true] at h
    exact fitB_fit h.1.1
  | v :: u :: l, h, i + 1, hi => by
    simp only [ascB, Bool.and_eq_true] at h
    have := ascB_fit (u :: l) h.2 i (by simpa using hi)
    simpa [vaAt] using this
theorem ascB_asc : ∀ (L : List Va), ascB L = true → ∀ i, i + 1 < L.length → (vaAt L i).cmp (vaAt L (i + 1)) = -1
  | [v], h, i, hi => by simp at hi
  | v :: u :: l, h, 0, _ => by
    simp only [ascB, Bool.and_eq_true, decide_eq_true_eq] at h
    exact h.1.2
  | v :: u :: l, h, i + 1, hi => by
    simp only [ascB, Bool.and_eq_true] at h
    have := ascB_asc (u :: l) h.2 i (by simpa using hi)
    simpa [vaAt] using this
theorem rises_lit (L : List Va) (h : ascB L = true) (g n : Nat) (hn : L.length = n) (hm : n ≤ 1000) (w : World) (T : TypeId) (fr : Nat × Nat) (hrow : w.heap[g]? = some (.cells (rowV L) T fr)) :
    Calls Try.prog 19 #[.slice (some ⟨g, 0, none⟩) n n] w fun e w' => e = .returned (.bool true) ∧ Below w.heap.size w w' :=
  rises_any L g n hn hm w T fr hrow (fun i hi => ascB_fit L h i (by omega)) (fun i hi => ascB_asc L h i (by omega))
theorem flt_lit (m : Int) (b c : Nat) (hm : m = (b : Int)) (hb : b < 18446744073709551616) (h : canF b = c) (w : World) :
    Calls Try.prog 11 #[.int .u64 m] w fun e w' => e = .returned (vA 2 0 c ⟨#[]⟩) ∧ Below w.heap.size w w' := by
  subst hm
  have := float_val b hb w
  rw [h] at this
  exact this
def nilS : ByteArray := ⟨#[]⟩
def L9 : List Va := [⟨2, 0, 9223372036854775808, ⟨#[]⟩⟩, ⟨1, 0, 0, ⟨#[]⟩⟩, ⟨2, 0, 0, ⟨#[]⟩⟩, ⟨1, 1, 0, ⟨#[]⟩⟩, ⟨2, 0, 4607182418800017408, ⟨#[]⟩⟩, ⟨2, 0, 4609434218613702656, ⟨#[]⟩⟩, ⟨1, 2, 0, ⟨#[]⟩⟩, ⟨1, 9223372036854775807, 0, ⟨#[]⟩⟩, ⟨2, 0, 4890909195324358656, ⟨#[]⟩⟩]
theorem L9_asc : ascB L9 = true := by decide +kernel
theorem enc_m1 : encB 1 (-1) 0 ⟨#[]⟩ = [1, 1] := by decide +kernel
theorem ok_m1 : validB 1 (-1) 0 ⟨#[]⟩ = true := by decide +kernel
set_option maxHeartbeats 4000000 in
set_option maxRecDepth 100000 in
theorem alive_at (w w9 : World) (h0 : Below w.heap.size w w9) : Calls Try.prog 20 #[] w9 fun e w' => e = .returned (.bool true) ∧ Below w.heap.size w w' := by
  have f1 := Lib.hid (fun w => flt_lit 9223372036854775808 9223372036854775808 9223372036854775808 rfl (by decide) (by decide +kernel) w)
  have f2 := Lib.hid (fun w => flt_lit 0 0 0 rfl (by decide) (by decide +kernel) w)
  have f3 := Lib.hid (fun w => flt_lit 4607182418800017408 4607182418800017408 4607182418800017408 rfl (by decide) (by decide +kernel) w)
  have f4 := Lib.hid (fun w => flt_lit 4609434218613702656 4609434218613702656 4609434218613702656 rfl (by decide) (by decide +kernel) w)
  have f5 := Lib.hid (fun w => flt_lit 4890909195324358656 4890909195324358656 4890909195324358656 rfl (by decide) (by decide +kernel) w)
  have n1 := Lib.hid (fun w => number_val 0 w)
  have n2 := Lib.hid (fun w => number_val 1 w)
  have n3 := Lib.hid (fun w => number_val 2 w)
  have n4 := Lib.hid (fun w => number_val 9223372036854775807 w)
  have n5 := Lib.hid (fun w => number_val (-1) w)
  have hE := Lib.hid (fun w => enc_ok 1 (-1) 0 ⟨#[]⟩ ⟨by decide, by decide, by decide, by decide⟩ ok_m1 w)
  rw [enc_m1] at hE
  have hS := Lib.hid h0
  clear h0
  go_enter Try.func20, Try.ntmps20
  go_upto_region 2 with (first | (go_at_call 11; (first | (with_reducible refine (f1.out _).mono ?_) | (with_reducible refine (f2.out _).mono ?_) | (with_reducible refine (f3.out _).mono ?_) | (with_reducible refine (f4.out _).mono ?_) | (with_reducible refine (f5.out _).mono ?_)); rintro e w9 ⟨rfl, h9⟩; have hS := Lib.hid (hS.out.trans (h9.mono hS.out.size)); clear h9) | (go_at_call 12; (first | (with_reducible refine (n1.out _).mono ?_) | (with_reducible refine (n2.out _).mono ?_) | (with_reducible refine (n3.out _).mono ?_) | (with_reducible refine (n4.out _).mono ?_)); rintro e w9 ⟨rfl, h9⟩; have hS := Lib.hid (hS.out.trans (h9.mono hS.out.size)); clear h9))
  have hrow := Lib.hid (heap_alloc_new w9 (.cells (rowV L9) 26))
  have hS := Lib.hid (hS.out.trans ((below_a w9 (.cells (rowV L9) 26)).mono hS.out.size))
  change Code.wp _ _ _ _ (w9.alloc (.cells (rowV L9) 26))
  generalize hwA : w9.alloc (.cells (rowV L9) 26) = wA at *
  clear hwA
  generalize w9.heap.size = g at *
  have hlt := Lib.hid (Array.getElem?_eq_some_iff.1 hrow.out).1
  have hR := Lib.hid (fun wx (h : Below wA.heap.size wA wx) => rises_lit L9 L9_asc g 9 rfl (by decide) wx _ _ (rowB hrow.out h hlt.out))
  clear f1 f2 f3 f4 f5 n1 n2 n3 n4
  obtain ⟨w9, hw9⟩ : ∃ x, x = wA := ⟨_, rfl⟩
  have hA := Lib.hid (show Below wA.heap.size wA w9 by rw [hw9]; exact Below.refl _ _)
  rw [← hw9]
  clear hw9
  go_wp2_with (first | (go_at_call 12; (with_reducible refine (n5.out _).mono ?_); rintro e w9 ⟨rfl, h9⟩; have hA := Lib.hid (hA.out.trans (h9.mono hA.out.size)); clear h9) | (go_at_call 15; (with_reducible refine (hE.out _).mono ?_); rintro e w9 ⟨sv, rfl, h8, h9⟩; have hA2 := Lib.hid (hA.out.trans (h9.mono hA.out.size)); have ho := Lib.hid (h8.mono hA.out.size); clear h8 h9; refine Stop.go'' _ ?_))
  refine StopP.go ?_
  obtain ⟨sa, sc, hsv⟩ := ho.out.rd.slice
  rw [show ([1, 1] : List Int).length = 2 from rfl] at hsv
  subst hsv
  go_wp2_with (go_at_call 19; (with_reducible refine (hR.out _ hA2.out).mono ?_); rintro e w8 ⟨rfl, h9⟩; have ho8 := Lib.hid (ho.out.kept (h9.mono (Nat.le_refl _))); have hA8 := Lib.hid (hA2.out.trans (h9.mono hA2.out.size)); clear h9; refine Stop.go'' _ ?_)
  refine StopP.go ?_
  have hs9 := Lib.hid (hS.out.trans (hA8.out.mono hS.out.size))
  have hb9 := Lib.hid (hs9.out.trans ((below_a w8 (.cells #[.int .u8 1, .int .u8 1] 5)).mono hs9.out.size))
  have hq := Lib.hid (same_any _ _ [1, 1] [1, 1] _ (by decide) (ho8.out.kept (below_a w8 (.cells #[.int .u8 1, .int .u8 1] 5))).rd (rdB_row (cs := [1, 1]) (heap_alloc_new w8 (.cells #[.int .u8 1, .int .u8 1] 5)) 2 rfl (by decide)))
  rw [show sameF [1, 1] [1, 1] = true from rfl] at hq
  go_wp2_with (go_at_call 28; (with_reducible refine (hq.out).mono ?_); rintro e w7 ⟨rfl, h9⟩; have h9' := Lib.hid (h9.below hb9.out); clear h9)
  go_ret
  exact ⟨rfl, h9'.out⟩
theorem alive_any (w : World) : Calls Try.prog 20 #[] w fun e w' => e = .returned (.bool true) ∧ Below w.heap.size w w' := alive_at w w (Below.refl _ _)
end Go.Proofs.Ytpklfohaifeboaa

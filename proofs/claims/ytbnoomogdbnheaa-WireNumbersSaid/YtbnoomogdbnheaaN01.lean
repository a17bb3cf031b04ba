/- WireNumbers' walk. -/
import Derived.Test.YtbnoomogdbnheaaW03
namespace Go.Proofs.Ytbnoomogdbnheaa
open Go.RowKit Go.Ytbnoomogdbnheaa
set_option linter.unusedVariables false
set_option maxRecDepth 100000 in
theorem numbers_law (n : Nat) (hn : n < 18446744073709551616) (m : Int) (m1 : -9223372036854775808 ≤ m) (m2 : m ≤ 9223372036854775807) (bv : Value) (l : List Int) (w : World) (hr : RdB w bv l) (hl : Bytes l) :
    Calls Try.prog 4 #[.int .u64 (n : Int), .int .i64 m, bv] w fun e w' => e = .returned (.bool true) ∧ Below w.heap.size w w' := by
  by_cases hlen : l.length ≤ 2000
  · have c1 := Lib.hid (fun wi (hw : Below w.heap.size w wi) => readNumber_any l bv wi (hr.mono hw) hl)
    have c2 := Lib.hid (fun wi (hw : Below w.heap.size w wi) => rreadNumber_any l bv wi (hr.mono hw) hl (by omega))
    have c3 := Lib.hid (fun wi (hw : Below w.heap.size w wi) => readSigned_any l bv wi (hr.mono hw) hl)
    have c4 := Lib.hid (fun wi (hw : Below w.heap.size w wi) => rreadSigned_any l bv wi (hr.mono hw) hl (by omega))
    have c5 := Lib.hid (fun wi => number_any n hn wi)
    have c6 := Lib.hid (fun wi => rnum_any n hn wi)
    have c7 := Lib.hid (fun wi => signed_any m m1 m2 wi)
    have c8 := Lib.hid (fun wi => rsigned4_any m m1 m2 wi)
    have l1 := Lib.hid (numB_length n)
    have l2 := Lib.hid (numB_length (foldN m))
    have p1 := numL_le n hn
    have p2 := numL_le (foldN m) (fold_lt m ⟨m1, m2⟩)
    obtain ⟨a, c, rfl⟩ := hr.slice
    have hB := Lib.hid (Below.refl w.heap.size w)
    clear hr hl hn m1 m2
    generalize numL (foldN m) = L2 at *
    generalize numB (foldN m) = B2 at *
    generalize numL n = L1 at *
    generalize numB n = B1 at *
    generalize unfoldN (rdN l) = F at *
    generalize rdN l = N at *
    generalize rdU l = U at *
    generalize rdE l = E at *
    generalize l.length = L at *
    go_enter Try.func4, Try.ntmps4
    go_wp2_with (first
      | (go_at_call 18; (with_reducible refine (c1.out _ hB.out).mono ?_); rintro e w1 ⟨rfl, rfl⟩)
      | (go_at_call 20; (with_reducible refine (c3.out _ hB.out).mono ?_); rintro e w1 ⟨rfl, rfl⟩)
      | (go_at_call 19; (with_reducible refine (c2.out _ hB.out).mono ?_); rintro e w1 ⟨rfl, hb⟩; have hB := Lib.hid (hB.out.trans (hb.mono hB.out.size)); clear hb)
      | (go_at_call 21; (with_reducible refine (c4.out _ hB.out).mono ?_); rintro e w1 ⟨rfl, hb⟩; have hB := Lib.hid (hB.out.trans (hb.mono hB.out.size)); clear hb)
      | (go_at_call 23; (with_reducible refine (c5.out _).mono ?_); rintro e w1 ⟨rfl, hg, hb⟩; have hB := Lib.hid (hB.out.trans (hb.mono hB.out.size)); have rd := Lib.hid (rdB_row hg L1 l1.out (by unfold maxLen; omega)); clear hg hb)
      | (go_at_call 25; (with_reducible refine (c7.out _).mono ?_); rintro e w1 ⟨rfl, hg, hb⟩; have hB := Lib.hid (hB.out.trans (hb.mono hB.out.size)); have rd := Lib.hid (rdB_row hg L2 l2.out (by unfold maxLen; omega)); clear hg hb)
      | (go_at_call 24; (with_reducible refine (c6.out _).mono ?_); rintro e w1 ⟨v, rfl, ho, hb⟩; have hB := Lib.hid (hB.out.trans (hb.mono hB.out.size)); have cs := Lib.hid (same_yesW _ _ _ _ (by rw [l1.out]; omega) (rd.out.mono hb) ho.rd); clear ho hb)
      | (go_at_call 26; (with_reducible refine (c8.out _).mono ?_); rintro e w1 ⟨v, rfl, ho, hb⟩; have hB := Lib.hid (hB.out.trans (hb.mono hB.out.size)); have cs := Lib.hid (same_yesW _ _ _ _ (by rw [l2.out]; omega) (rd.out.mono hb) ho.rd); clear ho hb)
      | (go_at_call 22; (with_reducible refine (cs.out).mono ?_); rintro e w1 ⟨rfl, hd⟩; have hB := Lib.hid (hd.below hB.out); clear hd))
    go_ret
    exact ⟨rfl, hB.out⟩
  · obtain ⟨a, c, rfl⟩ := hr.slice
    clear hr hl hn m1 m2
    generalize l.length = L at *
    go_enter Try.func4, Try.ntmps4
    go_wp2
    go_ret
    exact ⟨rfl, Below.refl _ _⟩
end Go.Proofs.Ytbnoomogdbnheaa

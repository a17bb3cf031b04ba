/- The examples of layer 4 hold: contracts of the laws' own checks number, signed, refused, alive. -/
import Derived.Test.YtbnoomogdbnheaaW03
import Derived.Test.YtbnoomogdbnheaaW04
namespace Go.Proofs.Ytbnoomogdbnheaa
open Go.RowKit Go.Ytbnoomogdbnheaa
set_option linter.unusedVariables false
theorem number_yes (n : Nat) (hn : n < 18446744073709551616) (bv : Value) (w : World) (hr : RdB w bv (numB n)) :
    Calls Try.prog 9 #[.int .u64 (n : Int), bv] w fun e w' => e = .returned (.bool true) ∧ Below w.heap.size w w' := by
  have hrd := rd_some (show readF (numB n) = some (n, numL n) by have h := readF_num n hn []; rwa [List.append_nil] at h)
  have c1 := Lib.hid (readNumber_any (numB n) bv w hr (numB_bytes n hn))
  rw [hrd.1, hrd.2.1, hrd.2.2] at c1
  have c2 := Lib.hid (number_any n hn w)
  have hL := Lib.hid (numB_length n)
  have hL9 := numL_le n hn
  have hr' := Lib.hid hr
  obtain ⟨a, c, rfl⟩ := hr.slice
  rw [hL.out] at c1 hr' ⊢
  clear hr hn hrd
  generalize numB n = B at *
  generalize numL n = L at *
  go_enter Try.func9, Try.ntmps9
  go_wp2_with (first
    | (go_at_call 18; (with_reducible refine (c1.out).mono ?_); rintro e w1 ⟨rfl, rfl⟩)
    | (go_at_call 23; (with_reducible refine (c2.out).mono ?_); rintro e w1 ⟨rfl, hg, hb⟩; have hB := Lib.hid hb; have cs := Lib.hid (same_yesW _ _ _ _ (by rw [hL.out]; omega) (rdB_row hg L hL.out (by unfold maxLen; omega)) (hr'.out.mono hb)); clear hg hb)
    | (go_at_call 22; (with_reducible refine (cs.out).mono ?_); rintro e w1 ⟨rfl, hd⟩; have hB := Lib.hid (hd.below hB.out); clear hd))
  go_ret
  exact ⟨rfl, hB.out⟩
theorem signed_yes (n : Int) (h1 : -9223372036854775808 ≤ n) (h2 : n ≤ 9223372036854775807) (bv : Value) (w : World) (hr : RdB w bv (numB (foldN n))) :
    Calls Try.prog 10 #[.int .i64 n, bv] w fun e w' => e = .returned (.bool true) ∧ Below w.heap.size w w' := by
  have hn := fold_lt n ⟨h1, h2⟩
  have hrd := rd_some (show readF (numB (foldN n)) = some (foldN n, numL (foldN n)) by have h := readF_num (foldN n) hn []; rwa [List.append_nil] at h)
  have c1 := Lib.hid (readSigned_any (numB (foldN n)) bv w hr (numB_bytes _ hn))
  rw [hrd.1, hrd.2.1, hrd.2.2, unfold_fold] at c1
  have c2 := Lib.hid (signed_any n h1 h2 w)
  have hL := Lib.hid (numB_length (foldN n))
  have hL9 := numL_le (foldN n) hn
  have hr' := Lib.hid hr
  obtain ⟨a, c, rfl⟩ := hr.slice
  rw [hL.out] at c1 hr' ⊢
  clear hr hn hrd h1 h2
  generalize numB (foldN n) = B at *
  generalize numL (foldN n) = L at *
  go_enter Try.func10, Try.ntmps10
  go_wp2_with (first
    | (go_at_call 20; (with_reducible refine (c1.out).mono ?_); rintro e w1 ⟨rfl, rfl⟩)
    | (go_at_call 25; (with_reducible refine (c2.out).mono ?_); rintro e w1 ⟨rfl, hg, hb⟩; have hB := Lib.hid hb; have cs := Lib.hid (same_yesW _ _ _ _ (by rw [hL.out]; omega) (rdB_row hg L hL.out (by unfold maxLen; omega)) (hr'.out.mono hb)); clear hg hb)
    | (go_at_call 22; (with_reducible refine (cs.out).mono ?_); rintro e w1 ⟨rfl, hd⟩; have hB := Lib.hid (hd.below hB.out); clear hd))
  go_ret
  exact ⟨rfl, hB.out⟩
theorem refused_yes (l : List Int) (hl : Bytes l) (h : readF l = none) (bv : Value) (w : World) (hr : RdB w bv l) :
    Calls Try.prog 11 #[bv] w fun e w' => e = .returned (.bool true) ∧ w = w' := by
  obtain ⟨e1, e2, e3⟩ := rd_none h
  have c1 := Lib.hid (readNumber_any l bv w hr hl)
  have c2 := Lib.hid (readSigned_any l bv w hr hl)
  rw [e1, e2, e3] at c1 c2
  rw [unfold_zero] at c2
  obtain ⟨a, c, rfl⟩ := hr.slice
  clear hr hl h e1 e2 e3
  generalize l.length = L at *
  go_enter Try.func11, Try.ntmps11
  go_wp2_with (first
    | (go_at_call 18; (with_reducible refine (c1.out).mono ?_); rintro e w1 ⟨rfl, rfl⟩)
    | (go_at_call 20; (with_reducible refine (c2.out).mono ?_); rintro e w1 ⟨rfl, rfl⟩))
  go_ret
  exact ⟨rfl, rfl⟩
/-- The same of literals. -/
theorem rdB_lit (l : List Int) (cs : Array Value) (k : Nat) (hcs : u8s l = cs) (hk : l.length = k) (hm : k ≤ 1000000) (w : World) : RdB (w.alloc (.cells cs 5)) (.slice (some ⟨w.heap.size, 0, none⟩) k k) l := by
  subst hcs
  exact rdB_row (heap_alloc_new w _) k hk (by unfold maxLen; omega)
theorem number_lit (n : Int) (m : Nat) (hm : n = (m : Int)) (hm2 : m < 18446744073709551616) (l : List Int) (hl : numB m = l) (cs : Array Value) (k : Nat) (hcs : u8s l = cs) (hk : l.length = k) (hk2 : k ≤ 1000000) (w : World) :
    Calls Try.prog 9 #[.int .u64 n, .slice (some ⟨w.heap.size, 0, none⟩) k k] (w.alloc (.cells cs 5)) fun e w' => e = .returned (.bool true) ∧ Below w.heap.size w w' := by
  subst hm hl
  exact (number_yes m hm2 _ _ (rdB_lit _ cs k hcs hk hk2 w)).mono fun e w' ⟨h1, h2⟩ => ⟨h1, (below_a1 w _).trans (h2.mono (by simp))⟩
theorem signed_lit (n : Int) (h1 : -9223372036854775808 ≤ n) (h2 : n ≤ 9223372036854775807) (l : List Int) (hl : numB (foldN n) = l) (cs : Array Value) (k : Nat) (hcs : u8s l = cs) (hk : l.length = k) (hk2 : k ≤ 1000000) (w : World) :
    Calls Try.prog 10 #[.int .i64 n, .slice (some ⟨w.heap.size, 0, none⟩) k k] (w.alloc (.cells cs 5)) fun e w' => e = .returned (.bool true) ∧ Below w.heap.size w w' := by
  subst hl
  exact (signed_yes n h1 h2 _ _ (rdB_lit _ cs k hcs hk hk2 w)).mono fun e w' ⟨h1, h2⟩ => ⟨h1, (below_a1 w _).trans (h2.mono (by simp))⟩
theorem refused_lit (l : List Int) (hl : Bytes l) (h : readF l = none) (cs : Array Value) (k : Nat) (hcs : u8s l = cs) (hk : l.length = k) (hk2 : k ≤ 1000000) (w : World) :
    Calls Try.prog 11 #[.slice (some ⟨w.heap.size, 0, none⟩) k k] (w.alloc (.cells cs 5)) fun e w' => e = .returned (.bool true) ∧ Below w.heap.size w w' :=
  (refused_yes l hl h _ _ (rdB_lit _ cs k hcs hk hk2 w)).mono fun e w' ⟨h1, h2⟩ => ⟨h1, by subst h2; exact below_a1 w _⟩
end Go.Proofs.Ytbnoomogdbnheaa

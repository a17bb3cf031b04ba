/- Layer 7: contracts of package frame: Split. -/
import Derived.Test.YtegffpjhdodldaaF16
namespace Go.Proofs.Ytegffpjhdodldaa
open Go.RowKit Go.Ytegffpjhdodldaa
set_option linter.unusedVariables false
theorem heldI_own_kept {B : Nat} {w w' : World} {v s : Value} {n m S : Nat} {F : List Int} {e : TypeId} {xs : List Value} (h : OwnI B 58 w v n F) (ho : w.ownsRow B e S s m xs) (hne : 58 ≠ e) (hg : w.grownBy w' s.ownBlock) : OwnI B 58 w' v n F :=
  World.ownsRow.kept h hg (owns_ne h ho hne)
/-- A slice of one frame of one's own. -/
def OneF (B : Nat) (w : World) (v : Value) (f : Fr) : Prop := ∃ xa xc, w.ownsRow B 26 4 v 1 (f.c (.slice xa f.n xc) (.slice none 0 0)).toList ∧ OwnI B 58 w (.slice xa f.n xc) f.n f.F
def TwoF (B : Nat) (w : World) (v : Value) (f g : Fr) : Prop := ∃ xa xc ya yc, w.ownsRow B 26 4 v 2 ((f.c (.slice xa f.n xc) (.slice none 0 0)).toList ++ (g.c (.slice ya g.n yc) (.slice none 0 0)).toList) ∧ OwnI B 58 w (.slice xa f.n xc) f.n f.F ∧ OwnI B 58 w (.slice ya g.n yc) g.n g.F
/-- What Split answers. -/
def splitPost (k : Int) (n : Nat) (F : List Int) (w : World) (e : Ending) (w' : World) : Prop :=
  Below w.heap.size w w' ∧ (if idsK k = true then (if n ≤ 60 then (if riseF F n = true then
      (∃ v, e = .returned (.tuple #[v, .int .i64 0]) ∧ ((n ≤ 40 ∧ OneF w.heap.size w' v ⟨k, 0, n, F, []⟩) ∨ (40 < n ∧ TwoF w.heap.size w' v ⟨k, 0, 40, F.take (32 * 40), []⟩ ⟨k, 0, n - 40, F.drop (32 * 40), []⟩)))
    else e = .returned (.tuple #[.slice none 0 0, .int .i64 32])) else e = .returned (.tuple #[.slice none 0 0, .int .i64 4])) else e = .returned (.tuple #[.slice none 0 0, .int .i64 2]))
set_option maxHeartbeats 4000000 in
set_option maxRecDepth 100000 in
theorem split_any (k : Int) (n : Nat) (hn : n ≤ 100000) (F : List Int) (hF : Bytes F) (v : Value) (w : World) (hr : RdI w v n F) :
    Calls Try.prog 13 #[v, .int .u8 k] w (splitPost k n F w) := by
  have hp : ∀ e w', splitPost k n F w e w' = (Below w.heap.size w w' ∧ (if idsK k = true then (if n ≤ 60 then (if riseF F n = true then
      (∃ v, e = .returned (.tuple #[v, .int .i64 0]) ∧ ((n ≤ 40 ∧ OneF w.heap.size w' v ⟨k, 0, n, F, []⟩) ∨ (40 < n ∧ TwoF w.heap.size w' v ⟨k, 0, 40, F.take (32 * 40), []⟩ ⟨k, 0, n - 40, F.drop (32 * 40), []⟩)))
    else e = .returned (.tuple #[.slice none 0 0, .int .i64 32])) else e = .returned (.tuple #[.slice none 0 0, .int .i64 4])) else e = .returned (.tuple #[.slice none 0 0, .int .i64 2]))) := fun _ _ => rfl
  generalize splitPost k n F w = PO at *
  have hD := Lib.hid (fun wz => hasIDs_any k wz)
  obtain ⟨a, c, rfl⟩ := hr.slice
  cases hk : idsK k
  · rw [hk] at hD
    have hp' := Lib.hid hp
    clear hr hp hn
    go_enter Try.func13, Try.ntmps13
    go_wp2_with (go_at_call 30; (with_reducible refine (hD.out _).mono ?_); rintro e w2 ⟨rfl, rfl⟩)
    rw [hp'.out]
    exact ⟨Below.refl _ _, by rw [if_neg (by rw [hk]; decide)]; rfl⟩
  rw [hk] at hD
  by_cases h60 : n ≤ 60
  · have hI := Lib.hid (frIncrease_any F n _ w hr hF hn)
    cases hri : riseF F n
    · rw [hri] at hI
      have hp' := Lib.hid hp
      clear hr hp hn
      go_enter Try.func13, Try.ntmps13
      go_wp2_with (first | (go_at_call 30; (with_reducible refine (hD.out _).mono ?_); rintro e w2 ⟨rfl, rfl⟩) | (go_at_call 31; (with_reducible refine (hI.out).mono ?_); rintro e w3 ⟨rfl, h3⟩; have hB := Lib.hid h3; clear h3))
      rw [hp'.out]
      exact ⟨hB.out, by rw [if_pos hk, if_pos h60, if_neg (by rw [hri]; decide)]; rfl⟩
    · rw [hri] at hI
      have hp' := Lib.hid hp
      have hrw := Lib.hid hr
      clear hp hn
      by_cases h40 : n ≤ 40
      · have hfo := Lib.hid (fun (wz : World) (h : Below w.heap.size w wz) => frameOf_any k n (by omega) F _ wz (hr.mono h))
        clear hr
        go_enter Try.func13, Try.ntmps13
        go_upto_region 7 with (first | (go_at_call 30; (with_reducible refine (hD.out _).mono ?_); rintro e w2 ⟨rfl, rfl⟩) | (go_at_call 31; (with_reducible refine (hI.out).mono ?_); rintro e w3 ⟨rfl, h3⟩; have hB := Lib.hid h3; clear h3))
        go_wp2
        go_loopw [0, 6] (fun x y wr => x = .slice a n c ∧ y = .slice none 0 0 ∧ w3 = wr) (fun _ _ _ => 0)
        case atStart => exact ⟨rfl, rfl, rfl⟩
        case round =>
          obtain ⟨rfl, rfl, rfl⟩ := hrel
          go_wp2_with (first
            | (go_at_call 32; (with_reducible refine (hfo.out _ hB.out).mono ?_); rintro e w4 ⟨x1, y1, rfl, q1, q2⟩; have hq2 := Lib.hid q2; have hB4 := Lib.hid (hB.out.trans (q2.mono hB.out.size)); have ho1 := Lib.hid (q1.mono hB.out.size); clear q1 q2)
            | (refine appendG rfl _ _ 35 rfl w.heap.size 26 4 64 (.agg #[.int .u8 0, .int .u64 0, .slice none 0 0, .slice none 0 0]) Try.underlying35 (by kernel_rfl) rfl (by decide) (by decide) _ rfl 0 [] (owns_kept (World.ownsRow_nil w4 w.heap.size 26 4) (below_a w4 (.cells ((⟨k, 0, n, F, []⟩ : Fr).c (.slice x1 n y1) (.slice none 0 0)) 26))) w4.heap.size 1 1 rfl ((⟨k, 0, n, F, []⟩ : Fr).c (.slice x1 n y1) (.slice none 0 0)) rfl 26 (heap_alloc_new w4 _) (fr_one _ _ _ _ _ _ _) (by decide) (by have := hB4.out.size; simp; omega) ?_))
          intro v6 w6 h1 h2 h3
          have hB6 := Lib.hid ((hB4.out.alloc hB4.out.size (.cells ((⟨k, 0, n, F, []⟩ : Fr).c (.slice x1 n y1) (.slice none 0 0)) 26)).trans h3)
          have ho6 := Lib.hid (heldI_own_kept (ho1.out.kept (below_a w4 (.cells ((⟨k, 0, n, F, []⟩ : Fr).c (.slice x1 n y1) (.slice none 0 0)) 26))) (World.ownsRow_nil _ w.heap.size 26 4) (by decide) h2)
          have hn6 := Lib.hid h1
          clear h1 h2 h3
          refine Stop.go ?_
          go_wp2
          rw [hp'.out]
          refine ⟨hB6.out, ?_⟩
          rw [if_pos hk, if_pos h60, if_pos hri]
          exact ⟨_, rfl, .inl ⟨h40, x1, y1, hn6.out, ho6.out⟩⟩
      · have h41 : 40 < n := by omega
        obtain ⟨b, o, rfl, hcap⟩ := rdI_some hr (by omega)
        obtain ⟨D, hD'⟩ : ∃ D, n - 40 = D := ⟨_, rfl⟩
        have hDn : D ≤ 20 := by omega
        have hcap2 : ¬ c = 40 := by omega
        have hcap3 : 40 ≤ c := by omega
        have hDh := Lib.hid hD'
        have hl1 := rdI_last hr 40 h41
        rw [hD'] at hl1
        have hfo := Lib.hid (fun (wz : World) (h : Below w.heap.size w wz) => frameOf_any k 40 (by decide) (F.take (32 * 40)) _ wz ((rdI_first hr 40 (by omega)).mono h))
        have hfl := Lib.hid (fun (wz : World) (h : Below w.heap.size w wz) => frameOf_any k D (by omega) (F.drop (32 * 40)) _ wz (hl1.mono h))
        clear hr hl1
        go_enter Try.func13, Try.ntmps13
        go_upto_region 7 with (first | (go_at_call 30; (with_reducible refine (hD.out _).mono ?_); rintro e w2 ⟨rfl, rfl⟩) | (go_at_call 31; (with_reducible refine (hI.out).mono ?_); rintro e w3 ⟨rfl, h3⟩; have hB := Lib.hid h3; clear h3))
        go_wp2
        go_loopw [0, 6] (fun x y wr => (x = .slice (some ⟨b, o, none⟩) n c ∧ y = .slice none 0 0 ∧ w3 = wr) ∨ (x = .slice (some ⟨b, o + 40 * 32, none⟩) D (c - 40) ∧ Below w.heap.size w wr ∧ OneF w.heap.size wr y ⟨k, 0, 40, F.take (32 * 40), []⟩)) (fun x _ _ => match x with | .slice _ m _ => m | _ => 0)
        case atStart => exact .inl ⟨rfl, rfl, rfl⟩
        case round =>
          rcases hrel with ⟨rfl, rfl, rfl⟩ | ⟨rfl, hb6, hf6⟩
          · go_wp2_with (first
              | (go_at_call 32; (with_reducible refine (hfo.out _ hB.out).mono ?_); rintro e w4 ⟨x1, y1, rfl, q1, q2⟩; have hq2 := Lib.hid q2; have hB4 := Lib.hid (hB.out.trans (q2.mono hB.out.size)); have ho1 := Lib.hid (q1.mono hB.out.size); clear q1 q2)
              | (refine appendG rfl _ _ 35 rfl w.heap.size 26 4 64 (.agg #[.int .u8 0, .int .u64 0, .slice none 0 0, .slice none 0 0]) Try.underlying35 (by kernel_rfl) rfl (by decide) (by decide) _ rfl 0 [] (owns_kept (World.ownsRow_nil w4 w.heap.size 26 4) (below_a w4 (.cells ((⟨k, 0, 40, F.take (32 * 40), []⟩ : Fr).c (.slice x1 40 y1) (.slice none 0 0)) 26))) w4.heap.size 1 1 rfl ((⟨k, 0, 40, F.take (32 * 40), []⟩ : Fr).c (.slice x1 40 y1) (.slice none 0 0)) rfl 26 (heap_alloc_new w4 _) (fr_one _ _ _ _ _ _ _) (by decide) (by have := hB4.out.size; simp; omega) ?_))
            intro v6 w6 h1 h2 h3
            have hB6 := Lib.hid ((hB4.out.alloc hB4.out.size (.cells ((⟨k, 0, 40, F.take (32 * 40), []⟩ : Fr).c (.slice x1 40 y1) (.slice none 0 0)) 26)).trans h3)
            have ho6 := Lib.hid (heldI_own_kept (ho1.out.kept (below_a w4 (.cells ((⟨k, 0, 40, F.take (32 * 40), []⟩ : Fr).c (.slice x1 40 y1) (.slice none 0 0)) 26))) (World.ownsRow_nil _ w.heap.size 26 4) (by decide) h2)
            have hn6 := Lib.hid h1
            clear h1 h2 h3
            refine Stop.go ?_
            go_wp2
            exact ⟨.inr ⟨rfl, hB6.out, x1, y1, hn6.out, ho6.out⟩, by simp only; omega⟩
          · obtain ⟨x1, y1, hn0, hi0⟩ := hf6
            have hB := Lib.hid hb6
            have hn1 := Lib.hid hn0
            have hi1 := Lib.hid hi0
            clear hb6 hn0 hi0
            dsimp only at hn1 hi1
            go_wp2_with (first
              | (go_at_call 32; (with_reducible refine (hfl.out _ hB.out).mono ?_); rintro e w4 ⟨x2, y2, rfl, q1, q2⟩; have hB4 := Lib.hid (hB.out.trans (q2.mono hB.out.size)); have ho1 := Lib.hid (q1.mono hB.out.size); have hi2 := Lib.hid (hi1.out.kept q2); have hn2 := Lib.hid (owns_kept hn1.out q2); clear q1 q2)
              | (refine appendG rfl _ _ 35 rfl w.heap.size 26 4 64 (.agg #[.int .u8 0, .int .u64 0, .slice none 0 0, .slice none 0 0]) Try.underlying35 (by kernel_rfl) rfl (by decide) (by decide) _ rfl 1 (((⟨k, 0, 40, F.take (32 * 40), []⟩ : Fr).c (.slice x1 40 y1) (.slice none 0 0))).toList (owns_kept hn2.out (below_a w4 (.cells ((⟨k, 0, D, F.drop (32 * 40), []⟩ : Fr).c (.slice x2 D y2) (.slice none 0 0)) 26))) w4.heap.size 1 1 rfl ((⟨k, 0, D, F.drop (32 * 40), []⟩ : Fr).c (.slice x2 D y2) (.slice none 0 0)) rfl 26 (heap_alloc_new w4 _) (fr_one _ _ _ _ _ _ _) (by decide) (by have := hB4.out.size; simp; omega) ?_))
            intro v6 w6 h1 h2 h3
            have hB6 := Lib.hid ((hB4.out.alloc hB4.out.size (.cells ((⟨k, 0, D, F.drop (32 * 40), []⟩ : Fr).c (.slice x2 D y2) (.slice none 0 0)) 26)).trans h3)
            have ho6 := Lib.hid (heldI_own_kept (ho1.out.kept (below_a w4 (.cells ((⟨k, 0, D, F.drop (32 * 40), []⟩ : Fr).c (.slice x2 D y2) (.slice none 0 0)) 26))) (owns_kept hn2.out (below_a w4 (.cells ((⟨k, 0, D, F.drop (32 * 40), []⟩ : Fr).c (.slice x2 D y2) (.slice none 0 0)) 26))) (by decide) h2)
            have hi6 := Lib.hid (heldI_own_kept (hi2.out.kept (below_a w4 (.cells ((⟨k, 0, D, F.drop (32 * 40), []⟩ : Fr).c (.slice x2 D y2) (.slice none 0 0)) 26))) (owns_kept hn2.out (below_a w4 (.cells ((⟨k, 0, D, F.drop (32 * 40), []⟩ : Fr).c (.slice x2 D y2) (.slice none 0 0)) 26))) (by decide) h2)
            have hn6 := Lib.hid h1
            clear h1 h2 h3
            refine Stop.go ?_
            go_wp2
            rw [hp'.out]
            refine ⟨hB6.out, ?_⟩
            rw [if_pos hk, if_pos h60, if_pos hri, hDh.out]
            exact ⟨_, rfl, .inr ⟨h41, x1, y1, x2, y2, hn6.out, hi6.out, ho6.out⟩⟩
  · have hp' := Lib.hid hp
    clear hr hp
    go_enter Try.func13, Try.ntmps13
    go_wp2_with (go_at_call 30; (with_reducible refine (hD.out _).mono ?_); rintro e w2 ⟨rfl, rfl⟩)
    rw [hp'.out]
    exact ⟨Below.refl _ _, by rw [if_pos hk, if_neg h60]; rfl⟩
end Go.Proofs.Ytegffpjhdodldaa

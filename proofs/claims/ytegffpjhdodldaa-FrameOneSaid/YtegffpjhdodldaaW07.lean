/- Contracts of package wire: strings that are read. -/
import Derived.Test.YtegffpjhdodldaaW04
namespace Go.Proofs.Ytegffpjhdodldaa
open Go.RowKit Go.Ytegffpjhdodldaa
set_option linter.unusedVariables false
/-- What is read of a counted row: how many items, and how many bytes their number has. -/
def readC (l : List Int) (most : Int) (size : Nat) : Option (Nat × Nat) :=
  match readF l with
  | none => none
  | some p => if (p.1 : Int) ≤ most ∧ p.1 ≤ (l.length - p.2) / size then some p else none
theorem readC_some {l : List Int} {most : Int} {size n u : Nat} (h : readC l most size = some (n, u)) : readF l = some (n, u) ∧ (n : Int) ≤ most ∧ n ≤ (l.length - u) / size := by
  unfold readC at h
  split at h
  · cases h
  · split at h
    · rename_i h1 h2
      cases h
      exact ⟨h1, h2.1, h2.2⟩
    · cases h
theorem readCounted_arg (bv : Value) (most : Int) (hm : most < 0) (size : Int) (w : World) :
    Calls Try.prog 57 #[bv, .int .i64 most, .int .i64 size] w fun e w' => e = .returned (.tuple #[.slice none 0 0, .int .i64 0, .int .i64 2]) ∧ w = w' := by
  go_enter Try.func57, Try.ntmps57
  go_wp2
  go_ret3
  exact ⟨rfl, rfl⟩
theorem readCounted_no (l : List Int) (bv : Value) (most : Int) (h0 : 0 ≤ most) (hmx : most ≤ 9223372036854775807) (size : Nat) (hs : 1 ≤ size) (hs2 : size ≤ 1000) (w : World) (hr : RdB w bv l) (hl : Bytes l) (hlm : l.length ≤ 1000000) (h : readC l most size = none) :
    Calls Try.prog 57 #[bv, .int .i64 most, .int .i64 (size : Int)] w fun e w' => e = .returned (.tuple #[.slice none 0 0, .int .i64 0, .int .i64 12]) ∧ w = w' := by
  have hn := readNumber_any l bv w hr hl
  obtain ⟨a, c, rfl⟩ := hr.slice
  obtain ⟨M, rfl⟩ : ∃ M : Nat, most = (M : Int) := ⟨most.toNat, by omega⟩
  cases hre : readF l with
  | none =>
    obtain ⟨e1, e2, e3⟩ := rd_none hre
    rw [e1, e2, e3] at hn
    have hn' := Lib.hid hn
    clear hn hr hl h hre e1 e2 e3
    generalize l.length = L at *
    go_enter Try.func57, Try.ntmps57
    go_wp2_with (go_at_call 48; (with_reducible refine (hn'.out).mono ?_); rintro e w1 ⟨rfl, rfl⟩)
    go_ret3
    exact ⟨rfl, rfl⟩
  | some p =>
    obtain ⟨n, u⟩ := p
    obtain ⟨e1, e2, e3⟩ := rd_some hre
    obtain ⟨hn64, hu, hul, _⟩ := readF_some hl hre
    rw [e1, e2, e3] at hn
    have hn' := Lib.hid hn
    have hcap : l.length ≤ c := by
      rcases hr with ⟨a', c', e, _, e2⟩ | ⟨b', o, c', e, h3, _⟩
      · simp [e2]
      · cases e; exact h3
    have hno : ¬ ((n : Int) ≤ (M : Int) ∧ n ≤ (l.length - u) / size) := by
      intro hc
      unfold readC at h
      rw [hre] at h
      simp only [hc, and_self, if_true] at h
      cases h
    clear hn hr hl h hre e1 e2 e3 hu
    generalize l.length = L at *
    by_cases g1 : (M : Int) < (n : Int)
    · clear hno
      rcases Decidable.em (c = u) with rfl | gc
      all_goals
        go_enter Try.func57, Try.ntmps57
        go_wp2_with (go_at_call 48; (with_reducible refine (hn'.out).mono ?_); rintro e w1 ⟨rfl, rfl⟩)
        go_ret3
        exact ⟨rfl, rfl⟩
    · have g2 : (L - u) / size < n := by
        rcases Nat.lt_or_ge ((L - u) / size) n with h | h
        · exact h
        · exact absurd ⟨by omega, h⟩ hno
      clear hno
      have g3 : (n : Int) ≤ (M : Int) := by omega
      clear g1
      obtain ⟨D, hD⟩ : ∃ D, L - u = D := ⟨_, rfl⟩
      rw [hD] at g2
      obtain ⟨q, hq⟩ : ∃ q, D / size = q := ⟨_, rfl⟩
      have hq' : (D : Int) / (size : Int) = (q : Int) := by rw [← hq]; rfl
      have hqm : q ≤ 1000000 := by rw [← hq]; exact Nat.le_trans (Nat.div_le_self _ _) (by omega)
      rw [hq] at g2
      clear hq
      have hD' : (L : Int) - (u : Int) = (D : Int) := by omega
      rcases Decidable.em (c = u) with rfl | gc
      all_goals
        go_enter Try.func57, Try.ntmps57
        go_wp2_with (go_at_call 48; (with_reducible refine (hn'.out).mono ?_); rintro e w1 ⟨rfl, rfl⟩)
        go_ret3
        exact ⟨rfl, rfl⟩
theorem rdB_sub {w : World} {b o n c : Nat} {l : List Int} (h : RdB w (.slice (some ⟨b, o, none⟩) n c) l) (u k cap : Nat) (hk : u + k ≤ n) (hcap : k ≤ cap) (hc : cap ≤ c) : RdB w (.slice (some ⟨b, o + u, none⟩) k cap) ((l.drop u).take k) := by
  rcases h with ⟨a', c', e, h1, rfl⟩ | ⟨b', o', c', e, h1, h2, h3, h4⟩
  · cases e
    obtain rfl : k = 0 := by omega
    exact .inl ⟨_, _, rfl, (fun h => by cases h), by simp⟩
  · cases e
    have hl : ((l.drop u).take k).length = k := by rw [List.length_take, List.length_drop]; omega
    exact .inr ⟨b, o + u, cap, by rw [hl], by rw [hl]; exact hcap, Nat.le_trans hc h2, h3, fun i hi => by
      rw [hl] at hi
      rw [ith_take _ _ _ hi, ith_drop, Nat.add_assoc]; exact h4 (u + i) (by omega)⟩
theorem readCounted_ok (l : List Int) (bv : Value) (most : Int) (h0 : 0 ≤ most) (hmx : most ≤ 9223372036854775807) (size : Nat) (hs : 1 ≤ size) (hs2 : size ≤ 1000) (w : World) (hr : RdB w bv l) (hl : Bytes l) (hlm : l.length ≤ 1000000) (n u : Nat) (h : readC l most size = some (n, u)) :
    Calls Try.prog 57 #[bv, .int .i64 most, .int .i64 (size : Int)] w fun e w' => ∃ A C, e = .returned (.tuple #[.slice A (n * size) C, .int .i64 ((u + n * size : Nat) : Int), .int .i64 0]) ∧ RdB w (.slice A (n * size) C) ((l.drop u).take (n * size)) ∧ w = w' := by
  have hn := readNumber_any l bv w hr hl
  obtain ⟨hre, g1, g2⟩ := readC_some h
  obtain ⟨e1, e2, e3⟩ := rd_some hre
  obtain ⟨hn64, hu, hul, _⟩ := readF_some hl hre
  have hu1 := numL_pos n
  rw [← hu] at hu1
  rw [e1, e2, e3] at hn
  rcases hr with ⟨a, c, rfl, _, rfl⟩ | ⟨b, o, c, rfl, r1, r2, r3, r4⟩
  · simp at hul; omega
  have hrd : RdB w (.slice (some ⟨b, o, none⟩) l.length c) l := .inr ⟨b, o, c, rfl, r1, r2, r3, r4⟩
  have hmulN : n * size ≤ l.length - u := Nat.le_trans (Nat.mul_le_mul_right _ g2) (Nat.div_mul_le_self _ _)
  obtain ⟨M, rfl⟩ : ∃ M : Nat, most = (M : Int) := ⟨most.toNat, by omega⟩
  obtain ⟨K, hK⟩ : ∃ K, n * size = K := ⟨_, rfl⟩
  have hmul : (n : Int) * (size : Int) = (K : Int) := by rw [← hK]; exact (Int.natCast_mul _ _).symm
  obtain ⟨q, hq⟩ : ∃ q, (l.length - u) / size = q := ⟨_, rfl⟩
  have hq' : ((l.length - u : Nat) : Int) / (size : Int) = (q : Int) := by rw [← hq]; rfl
  have hqm : q ≤ 1000000 := by rw [← hq]; exact Nat.le_trans (Nat.div_le_self _ _) (by omega)
  obtain ⟨D, hD⟩ : ∃ D, l.length - u = D := ⟨_, rfl⟩
  have hD' : (l.length : Int) - (u : Int) = (D : Int) := by omega
  rw [hq] at g2
  rw [hD] at hq'
  rw [hK] at hmulN ⊢
  rw [hD] at hmulN
  have hn' := Lib.hid hn
  have hfin := Lib.hid (fun cap (h1 : K ≤ cap) (h2 : cap ≤ c) => rdB_sub hrd u K cap (by omega) h1 h2)
  have hempty := Lib.hid (fun (h : K = 0) (A : Option Addr) (C : Nat) (hA : A ≠ none) => (show RdB w (.slice A K C) ((l.drop u).take K) from .inl ⟨A, C, by rw [h], fun h => absurd h hA, by rw [h]; simp⟩))
  have hn0 := Lib.hid (fun (h : K = 0) => (show n = 0 from by have := Nat.le_mul_of_pos_right n hs; omega))
  unfold maxLen at r2
  clear hn hl h hre e1 e2 e3 hu hrd r4 hK hq
  generalize l.length = L at *
  have hDle : D + u = L := by omega
  rcases Decidable.em (c = u) with rfl | gc
  · obtain rfl : K = 0 := by omega
    obtain rfl : D = 0 := by omega
    obtain rfl := hn0.out rfl
    have he := Lib.hid (hempty.out rfl)
    clear hempty hn0 hfin
    go_enter Try.func57, Try.ntmps57
    go_wp2_with (go_at_call 48; (with_reducible refine (hn'.out).mono ?_); rintro e w1 ⟨rfl, rfl⟩)
    go_ret3
    exact ⟨some ⟨b, o, none⟩, 0, rfl, he.out _ _ (by simp), rfl⟩
  · go_enter Try.func57, Try.ntmps57
    go_wp2_with (go_at_call 48; (with_reducible refine (hn'.out).mono ?_); rintro e w1 ⟨rfl, rfl⟩)
    go_ret3
    refine ⟨_, _, rfl, hfin.out _ (by omega) (by omega), rfl⟩
/-- What ReadBytes answers. -/
theorem readBytes_arg (bv : Value) (most : Int) (hm : most < 0) (w : World) :
    Calls Try.prog 58 #[bv, .int .i64 most] w fun e w' => e = .returned (.tuple #[.slice none 0 0, .int .i64 0, .int .i64 2]) ∧ w = w' := by
  have hc := Lib.hid (readCounted_arg bv most hm 1 w)
  go_enter Try.func58, Try.ntmps58
  go_wp2_with (go_at_call 57; (with_reducible refine (hc.out).mono ?_); rintro e w1 ⟨rfl, rfl⟩)
  go_ret3
  exact ⟨rfl, rfl⟩
theorem readBytes_no (l : List Int) (bv : Value) (most : Int) (h0 : 0 ≤ most) (hmx : most ≤ 9223372036854775807) (w : World) (hr : RdB w bv l) (hl : Bytes l) (hlm : l.length ≤ 1000000) (h : readC l most 1 = none) :
    Calls Try.prog 58 #[bv, .int .i64 most] w fun e w' => e = .returned (.tuple #[.slice none 0 0, .int .i64 0, .int .i64 12]) ∧ w = w' := by
  have hc0 := readCounted_no l bv most h0 hmx 1 (by omega) (by omega) w hr hl hlm h
  rw [show ((1 : Nat) : Int) = 1 from rfl] at hc0
  have hc := Lib.hid hc0
  clear hc0
  obtain ⟨a, c, rfl⟩ := hr.slice
  clear hr hl h
  go_enter Try.func58, Try.ntmps58
  go_wp2_with (go_at_call 57; (with_reducible refine (hc.out).mono ?_); rintro e w1 ⟨rfl, rfl⟩)
  go_ret3
  exact ⟨rfl, rfl⟩
theorem overlay_all (r : List Int) : overlay (zerosB r.length) 0 r = r := by
  have h := overlay_zero r 0
  simpa [zerosB] using h
theorem readBytes_ok (l : List Int) (bv : Value) (most : Int) (h0 : 0 ≤ most) (hmx : most ≤ 9223372036854775807) (w : World) (hr : RdB w bv l) (hl : Bytes l) (hlm : l.length ≤ 1000000) (n u : Nat) (h : readC l most 1 = some (n, u)) :
    Calls Try.prog 58 #[bv, .int .i64 most] w fun e w' => e = .returned (.tuple #[.slice (some ⟨w.heap.size, 0, none⟩) n n, .int .i64 ((u + n : Nat) : Int), .int .i64 0]) ∧ w'.heap[w.heap.size]? = some (.cells (u8s ((l.drop u).take n)) 5 (0, 0)) ∧ Below w.heap.size w w' := by
  have hc0 := readCounted_ok l bv most h0 hmx 1 (by omega) (by omega) w hr hl hlm n u h
  rw [Nat.mul_one, show ((1 : Nat) : Int) = 1 from rfl] at hc0
  have hc := Lib.hid hc0
  clear hc0
  obtain ⟨hre, g1, g2⟩ := readC_some h
  have hul := (readF_some hl hre).2.2.1
  rw [Nat.div_one] at g2
  have hlen := Lib.hid (show ((l.drop u).take n).length = n by rw [List.length_take, List.length_drop]; omega)
  have hn6 : n ≤ 1000000 := by omega
  obtain ⟨a, c, rfl⟩ := hr.slice
  clear hr hl h hre g1 g2 hul
  generalize l.length = L at *
  generalize (l.drop u).take n = R at *
  have hmk := fun (wx : World) => run_makeB (P := Try.prog) wx 29 5 Try.underlying29 (by kernel_rfl) n n (Nat.le_refl _) (by omega)
  have hov := Lib.hid (overlay_all R)
  rw [hlen.out] at hov
  go_enter Try.func58, Try.ntmps58
  go_wp2_with (go_at_call 57; (with_reducible refine (hc.out).mono ?_); rintro e w1 ⟨A, C, rfl, hrd, rfl⟩; have hrd' := Lib.hid (hrd.mono (below_a1 w (.cells (u8s (zerosB n)) 5))); clear hrd; refine Stop.go'' _ ?_)
  refine StopP.go ?_
  have hrow := Lib.hid (heap_alloc_new w (.cells (u8s (zerosB n)) 5))
  go_wp2_with (refine copyB rfl _ _ 29 29 rfl 5 Try.underlying29 (by kernel_rfl) w.heap.size 0 n n rfl _ rfl R hrd'.out (zerosB n) 5 hrow.out (by rw [hlen.out]; omega) (by rw [hlen.out, zerosB_length]; omega) ?_)
  intro w2 hw2
  refine Stop.go ?_
  have r0 := Lib.hid (show w2.heap[w.heap.size]? = some (.cells (u8s R) 5 (0, 0)) by rw [hw2.out, hov.out]; exact setRow_heap _ _ _ _ _ _ hrow.out)
  have r1 := Lib.hid (show Below w.heap.size w w2 by rw [hw2.out]; exact below_setRow' (below_a1 w _) (Nat.le_refl _) _)
  clear hw2
  go_wp2
  go_ret3
  exact ⟨rfl, r0.out, r1.out⟩
end Go.Proofs.Ytegffpjhdodldaa

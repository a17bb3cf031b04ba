/- Layer 7: contracts of the reference: Great; frames that are not great. -/
import Derived.Test.YtegffpjhdodldaaF12
namespace Go.Proofs.Ytegffpjhdodldaa
open Go.RowKit Go.Ytegffpjhdodldaa
set_option linter.unusedVariables false
/-- A frame that is not great. -/
def Fr.Small (f : Fr) : Prop := f.n ≤ 100 ∧ f.L.length ≤ 20 ∧ ∀ i, (nthL f.L i).length ≤ 1000
theorem small_all {f : Fr} (h1 : f.n ≤ 100) (h2 : f.L.length ≤ 20) (h3 : ∀ j, j < f.L.length → (nthL f.L j).length ≤ 1000) : f.Small :=
  ⟨h1, h2, fun i => by
    rcases Nat.lt_or_ge i f.L.length with h | h
    · exact h3 i h
    · rw [nthL_out _ _ h]; exact Nat.zero_le _⟩
theorem rdS_most {w : World} {v : Value} {L : List (List Int)} (h : RdS w v L) : L.length ≤ maxLen := by
  rcases h with ⟨_, _, _, _, rfl⟩ | ⟨b, o, c, _, h1, h2, _⟩
  · exact Nat.zero_le _
  · exact Nat.le_trans h1 h2
theorem rdB_most {w : World} {v : Value} {l : List Int} (h : RdB w v l) : l.length ≤ maxLen := by
  rcases h with ⟨_, _, _, _, rfl⟩ | ⟨b, o, c, _, h1, h2, _⟩
  · exact Nat.zero_le _
  · exact Nat.le_trans h1 h2
theorem rdI_most {w : World} {v : Value} {n : Nat} {F : List Int} (h : RdI w v n F) : n ≤ maxLen := by
  rcases h with ⟨_, _, _, _, rfl, _⟩ | ⟨b, o, c, _, h1, h2, _⟩
  · exact Nat.zero_le _
  · exact Nat.le_trans h1 h2
set_option maxHeartbeats 2000000 in
set_option maxRecDepth 100000 in
theorem great_any (f : Fr) (R : Bool) (hy : f.Small → R = false) (hn : ¬ f.Small → R = true) (iv ov : Value) (w : World) (hi : RdI w iv f.n f.F) (ho : RdS w ov f.L) :
    Calls Try.prog 9 #[.agg (f.c iv ov)] w fun e w' => e = .returned (.bool R) ∧ Below w.heap.size w w' := by
  obtain ⟨W, hW⟩ : ∃ W, W = w.alloc (.cells (f.c iv ov) 26) := ⟨_, rfl⟩
  have hr0 := heap_alloc_new w (.cells (f.c iv ov) 26)
  have hb0 := (Below.refl w.heap.size w).alloc (Nat.le_refl _) (.cells (f.c iv ov) 26)
  rw [← hW] at hr0 hb0
  have hlm : f.L.length ≤ 9223372036854775807 := by have h := rdS_most ho; unfold maxLen at h; omega
  have hnm : f.n ≤ 9223372036854775807 := by have h := rdI_most hi; unfold maxLen at h; omega
  obtain ⟨ia, ic, rfl⟩ := hi.slice
  obtain ⟨oa, oc, rfl⟩ := ho.slice
  obtain ⟨c0, c1, c2, c3⟩ := cellsF hr0
  have hb1 := Lib.hid hb0
  have hS := Lib.hid (ho.mono hb0)
  have hyes := Lib.hid (fun (h1 : f.n ≤ 100) (h2 : f.L.length ≤ 20) h3 => hy (small_all h1 h2 h3))
  have hno1 := Lib.hid (fun (h : ¬ f.n ≤ 100) => hn fun h2 => h h2.1)
  have hno2 := Lib.hid (fun (h : ¬ f.L.length ≤ 20) => hn fun h2 => h h2.2.1)
  have hno3 := Lib.hid (fun (i : Nat) (h : ¬ (nthL f.L i).length ≤ 1000) => hn fun h2 => h (h2.2.2 i))
  clear hr0 hb0 hi ho hy hn c0 c1
  obtain ⟨k0, N, n, F, L⟩ := f
  dsimp only at *
  go_enter Try.func9, Try.ntmps9
  go_upto_region 1 with fail
  rw [← hW]
  clear hW
  go_wp2
  go_loopw [3] (fun i wr => ∃ k : Nat, k ≤ L.length ∧ k ≤ 21 ∧ i = .int .i64 k ∧ W = wr ∧ ∀ j, j < k → (nthL L j).length ≤ 1000) (fun i _ => 30 - (intOf i).toNat)
  case atStart => exact ⟨0, Nat.zero_le _, by decide, rfl, rfl, fun j hj => absurd hj (Nat.not_lt_zero _)⟩
  case round =>
    obtain ⟨k, hk, hk21, rfl, rfl, he⟩ := hrel
    have he' := Lib.hid he
    clear he
    by_cases hlt : k < L.length
    · by_cases h20 : k ≤ 20
      · obtain ⟨b, o, rfl, hbw, s, hc, hs⟩ := hS.out.at k hlt
        obtain ⟨M, hM⟩ : ∃ M, (nthL L k).length = M := ⟨_, rfl⟩
        have hM' := Lib.hid hM
        have hm2 : (nthL L k).length ≤ 9223372036854775807 := by have h := rdB_most hs; unfold maxLen at h; omega
        obtain ⟨sa, sc, rfl⟩ := hs.slice
        rw [hM] at hc hm2
        clear hs hM
        by_cases h4 : M ≤ 1000
        · have hh := Lib.hid (show ∀ j, j < k + 1 → (nthL L j).length ≤ 1000 from fun j hj => by
            rcases Nat.lt_or_ge j k with h1 | h1
            · exact he'.out j h1
            · obtain rfl : j = k := by omega
              rw [hM'.out]; exact h4)
          go_wp2
          go_roundw
          case rel => exact ⟨k + 1, by omega, by omega, by go_num, by trivial, hh.out⟩
          case measure => simp [intOf]; omega
        · have hh := Lib.hid (hno3.out k (by rw [hM'.out]; omega))
          go_wp2
          go_ret
          exact ⟨ret_bool hh.out.symm, hb1.out⟩
      · have hh := Lib.hid (hno2.out (by omega))
        by_cases hn1 : n ≤ 100
        · have h2 : 20 < L.length := by omega
          go_wp2
          go_ret
          exact ⟨ret_bool (by rw [hh.out, decide_eq_true (show (20 : Int) < L.length by omega), Bool.or_true]), hb1.out⟩
        · go_wp2
          go_ret
          exact ⟨ret_bool hh.out.symm, hb1.out⟩
    · obtain rfl : k = L.length := by omega
      by_cases hn1 : n ≤ 100
      · by_cases h2 : L.length ≤ 20
        · have hh := Lib.hid (hyes.out hn1 h2 he'.out)
          go_wp2
          go_ret
          exact ⟨ret_bool (by rw [hh.out, decide_eq_false (show ¬ (100 : Int) < n by omega), decide_eq_false (show ¬ (20 : Int) < L.length by omega)]; rfl), hb1.out⟩
        · have hh := Lib.hid (hno2.out h2)
          go_wp2
          go_ret
          exact ⟨ret_bool (by rw [hh.out, decide_eq_true (show (20 : Int) < L.length by omega), Bool.or_true]), hb1.out⟩
      · have hh := Lib.hid (hno1.out hn1)
        go_wp2
        go_ret
        exact ⟨ret_bool hh.out.symm, hb1.out⟩
theorem small_fit {f : Fr} (hk : 0 ≤ f.k ∧ f.k < 256) (hN : f.N < 18446744073709551616) (hF : Bytes f.F) (hL : ∀ i, Bytes (nthL f.L i)) (hl : f.F.length = 32 * f.n) (h : f.Small) : f.Fit :=
  ⟨hk, hN, by have := h.1; omega, hF, hl, by have := h.2.1; omega, hL, fun i => by have := h.2.2 i; omega⟩
end Go.Proofs.Ytegffpjhdodldaa

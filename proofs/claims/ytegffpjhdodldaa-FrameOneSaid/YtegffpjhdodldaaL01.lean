/- Contracts of the reference of layer 4: strings that are read. -/
import Derived.Test.YtegffpjhdodldaaI05
namespace Go.Proofs.Ytegffpjhdodldaa
open Go.RowKit Go.Ytegffpjhdodldaa
set_option linter.unusedVariables false
theorem rreadBytes_arg (bv : Value) (most : Int) (hm : most < 0) (w : World) :
    Calls Try.prog 51 #[bv, .int .i64 most] w fun e w' => e = .returned (.tuple #[.slice none 0 0, .int .i64 0, .int .i64 2]) ∧ w = w' := by
  go_enter Try.func51, Try.ntmps51
  go_wp2
  go_ret3
  exact ⟨rfl, rfl⟩
theorem readC_none1 {l : List Int} {M : Nat} {size n u : Nat} (hre : readF l = some (n, u)) (h : readC l (M : Int) size = none) : ¬ ((n : Int) ≤ (M : Int) ∧ n ≤ (l.length - u) / size) := by
  intro hc
  unfold readC at h
  rw [hre] at h
  simp only [hc, and_self, if_true] at h
  cases h
theorem rreadBytes_no (l : List Int) (bv : Value) (most : Int) (h0 : 0 ≤ most) (hmx : most ≤ 9223372036854775807) (w : World) (hr : RdB w bv l) (hl : Bytes l) (hlm : l.length ≤ 1000000) (h : readC l most 1 = none) :
    Calls Try.prog 51 #[bv, .int .i64 most] w fun e w' => e = .returned (.tuple #[.slice none 0 0, .int .i64 0, .int .i64 12]) ∧ Below w.heap.size w w' := by
  have hn := rreadNumber_any l bv w hr hl hlm
  obtain ⟨a, c, rfl⟩ := hr.slice
  obtain ⟨M, rfl⟩ : ∃ M : Nat, most = (M : Int) := ⟨most.toNat, by omega⟩
  cases hre : readF l with
  | none =>
    obtain ⟨e1, e2, e3⟩ := rd_none hre
    rw [e1, e2, e3] at hn
    have hn' := Lib.hid hn
    clear hn hr hl h hre e1 e2 e3
    generalize l.length = L at *
    go_enter Try.func51, Try.ntmps51
    go_wp2_with (go_at_call 37; (with_reducible refine (hn'.out).mono ?_); rintro e w1 ⟨rfl, hb⟩; have hb' := Lib.hid hb; clear hb)
    go_ret3
    exact ⟨rfl, hb'.out⟩
  | some p =>
    obtain ⟨n, u⟩ := p
    obtain ⟨e1, e2, e3⟩ := rd_some hre
    have hul := (readF_some hl hre).2.2.1
    have hn64 := (readF_some hl hre).1
    rw [e1, e2, e3] at hn
    have hn' := Lib.hid hn
    have hno := readC_none1 hre h
    rw [Nat.div_one] at hno
    clear hn hr hl h hre e1 e2 e3
    generalize l.length = L at *
    obtain ⟨D, hD⟩ : ∃ D, L - u = D := ⟨_, rfl⟩
    have hD' : (L : Int) - (u : Int) = (D : Int) := by omega
    have hDm : D ≤ 1000000 := by omega
    rw [hD] at hno
    by_cases g1 : (M : Int) < (n : Int)
    · clear hno
      go_enter Try.func51, Try.ntmps51
      go_wp2_with (go_at_call 37; (with_reducible refine (hn'.out).mono ?_); rintro e w1 ⟨rfl, hb⟩; have hb' := Lib.hid hb; clear hb)
      go_ret3
      exact ⟨rfl, hb'.out⟩
    · have g2 : D < n := by omega
      have g3 : (n : Int) ≤ (M : Int) := by omega
      clear hno g1
      go_enter Try.func51, Try.ntmps51
      go_wp2_with (go_at_call 37; (with_reducible refine (hn'.out).mono ?_); rintro e w1 ⟨rfl, hb⟩; have hb' := Lib.hid hb; clear hb)
      go_ret3
      exact ⟨rfl, hb'.out⟩
theorem rreadBytes_ok (l : List Int) (bv : Value) (most : Int) (h0 : 0 ≤ most) (hmx : most ≤ 9223372036854775807) (w : World) (hr : RdB w bv l) (hl : Bytes l) (hlm : l.length ≤ 1000000) (n u : Nat) (h : readC l most 1 = some (n, u)) :
    Calls Try.prog 51 #[bv, .int .i64 most] w fun e w' => ∃ v, e = .returned (.tuple #[v, .int .i64 ((u + n : Nat) : Int), .int .i64 0]) ∧ OwnB w.heap.size 5 w' v ((l.drop u).take n) ∧ Below w.heap.size w w' := by
  have hn := rreadNumber_any l bv w hr hl hlm
  obtain ⟨hre, g1, g2⟩ := readC_some h
  obtain ⟨e1, e2, e3⟩ := rd_some hre
  have hul := (readF_some hl hre).2.2.1
  have hu1 : 1 ≤ u := by rw [(readF_some hl hre).2.1]; exact numL_pos n
  rw [e1, e2, e3] at hn
  rw [Nat.div_one] at g2
  obtain ⟨M, rfl⟩ : ∃ M : Nat, most = (M : Int) := ⟨most.toNat, by omega⟩
  rcases hr with ⟨a, c, rfl, _, rfl⟩ | ⟨b, o, c, rfl, r1, r2, r3, r4⟩
  · simp at hul; omega
  have hrd : RdB w (.slice (some ⟨b, o, none⟩) l.length c) l := .inr ⟨b, o, c, rfl, r1, r2, r3, r4⟩
  have hlen := Lib.hid (show ((l.drop u).take n).length = n by rw [List.length_take, List.length_drop]; omega)
  have hfin := Lib.hid (fun cap (h1 : n ≤ cap) (h2 : cap ≤ c) => rdB_sub hrd u n cap (by omega) h1 h2)
  have hempty := Lib.hid (fun (h : n = 0) (A : Option Addr) (C : Nat) (hA : A ≠ none) => (show RdB w (.slice A 0 C) ((l.drop u).take n) from .inl ⟨A, C, rfl, fun h => absurd h hA, by rw [h]; simp⟩))
  have hn' := Lib.hid hn
  unfold maxLen at r2
  clear hn hl h hre e1 e2 e3 hrd r4
  generalize l.length = L at *
  generalize (l.drop u).take n = R at *
  obtain ⟨D, hD⟩ : ∃ D, L - u = D := ⟨_, rfl⟩
  have hD' : (L : Int) - (u : Int) = (D : Int) := by omega
  rw [hD] at g2
  obtain ⟨V, hV⟩ : ∃ V, u + n = V := ⟨_, rfl⟩
  have hV' : (u : Int) + (n : Int) = (V : Int) := by omega
  rw [hV]
  have hVu : V - u = n := by omega
  have hVc : V ≤ c := by omega
  have huV : u ≤ V := by omega
  rcases Decidable.em (c = u) with hcu | gc
  · obtain rfl : n = 0 := by omega
    have he := Lib.hid (hempty.out rfl)
    obtain rfl : V = u := by omega
    subst hcu
    clear hempty hfin hVu hV
    go_enter Try.func51, Try.ntmps51
    go_wp2_with (first
      | (go_at_call 37; (with_reducible refine (hn'.out).mono ?_); rintro e w1 ⟨rfl, hb⟩; have hb' := Lib.hid hb; clear hb)
      | (refine appendB rfl _ _ 29 rfl w1.heap.size 5 Try.underlying29 (by kernel_rfl) _ rfl [] (own_nil w1) (.slice (some ⟨b, o, none⟩) 0 0) rfl R ((he.out _ _ (by simp)).mono (hb'.out.trans ((below_a1 w1 _).mono hb'.out.size))) (by rw [hlen.out]; simp) (by simp) ?_; intro v' w' h1 h2; have hB := Lib.hid (hb'.out.trans (((below_a1 w1 _).trans ((own_nil w1).below h2 (by simp))).mono hb'.out.size)); have h1' := Lib.hid (h1.mono hb'.out.size); clear h1 h2; refine Stop.go ?_))
    go_ret3
    exact ⟨_, rfl, h1'.out, hB.out⟩
  · go_enter Try.func51, Try.ntmps51
    go_wp2_with (first
      | (go_at_call 37; (with_reducible refine (hn'.out).mono ?_); rintro e w1 ⟨rfl, hb⟩; have hb' := Lib.hid hb; clear hb)
      | (refine appendB rfl _ _ 29 rfl w1.heap.size 5 Try.underlying29 (by kernel_rfl) _ rfl [] (own_nil w1) (.slice (some ⟨b, o + u, none⟩) n (c - u)) rfl R ((hfin.out _ (by omega) (by omega)).mono (hb'.out.trans ((below_a1 w1 _).mono hb'.out.size))) (by rw [hlen.out]; simp; omega) (by simp) ?_; intro v' w' h1 h2; have hB := Lib.hid (hb'.out.trans (((below_a1 w1 _).trans ((own_nil w1).below h2 (by simp))).mono hb'.out.size)); have h1' := Lib.hid (h1.mono hb'.out.size); clear h1 h2; refine Stop.go ?_))
    go_ret3
    exact ⟨_, rfl, h1'.out, hB.out⟩
end Go.Proofs.Ytegffpjhdodldaa

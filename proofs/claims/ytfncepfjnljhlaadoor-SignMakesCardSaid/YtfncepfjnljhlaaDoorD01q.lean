/- Contracts of the reference's Long, Whole, SameBytes and Same. -/
import Derived.Test.YtfncepfjnljhlaaDoorD01p
namespace Go.Proofs.YtfncepfjnljhlaaDoor
open Go.RowKit Go.YtfncepfjnljhlaaDoor
set_option linter.unusedVariables false
theorem rd_at {w : World} {a : Option Addr} {n c : Nat} {l : List Int} (h : RdB w (.slice a n c) l) (i : Nat) (hi : i < l.length) : ∃ b o, a = some ⟨b, o, none⟩ ∧ b < w.heap.size ∧ w.cell? ⟨b, o + i, none⟩ = some (.int .u8 (ith l i)) := by
  rcases h with ⟨_, _, _, _, rfl⟩ | ⟨b, o, c', h1, h2, h3, h4, h5⟩
  · exact absurd hi (Nat.not_lt_zero _)
  · cases h1
    exact ⟨b, o, rfl, h4, h5 i hi⟩
def IsB (e : Ending) : Prop := ∃ b, e = .returned (.bool b)
set_option maxRecDepth 100000 in
theorem long_any (A : Option Addr) (n c : Nat) (w : World) (hn : n ≤ 140737488355328) (hcell : ∀ i, i < n → ∃ b o, A = some ⟨b, o, none⟩ ∧ ∃ sa sn sc, w.cell? ⟨b, o + i, none⟩ = some (.slice sa sn sc)) :
    Calls Tryd.prog 21 #[.slice A n c] w fun e w' => IsB e ∧ w' = w := by
  have hcell' := Lib.hid hcell
  clear hcell
  go_enter Tryd.func21, Tryd.ntmps21
  go_wp2
  go_loop [3, 4] (fun t i => ∃ (k : Nat) (z : Int), k ≤ n ∧ i = .int .i64 k ∧ t = .int .i64 z) (fun _ i => match i with | .int _ m => n - m.toNat | _ => 0)
  case atStart => exact ⟨0, 0, Nat.zero_le _, rfl, rfl⟩
  case round =>
    obtain ⟨k, z, hk, rfl, rfl⟩ := hrel
    by_cases hlt : k < n
    · obtain ⟨b, o, rfl, sa, sn, sc, hc⟩ := hcell'.out k hlt
      go_wp2
      · exact ⟨⟨k + 1, _, by omega, by go_num, rfl⟩, by go_num⟩
      · exact ⟨⟨k + 1, _, by omega, by go_num, rfl⟩, by go_num⟩
      all_goals
        go_ret
        exact ⟨⟨_, rfl⟩, rfl⟩
    · go_wp2
      all_goals
        go_ret
        exact ⟨⟨_, rfl⟩, rfl⟩
theorem flatN_le (L : List (List Int)) (k : Nat) (h : k ≤ L.length) : (flatN L k).length ≤ L.flatten.length := by
  rw [← flatN_all]
  have key : ∀ d, (flatN L k).length ≤ (flatN L (k + d)).length := by
    intro d
    induction d with
    | zero => exact Nat.le_refl _
    | succ d ih => rw [← Nat.add_assoc, flatN, List.length_append]; omega
  have := key (L.length - k)
  rwa [show k + (L.length - k) = L.length by omega] at this
set_option maxRecDepth 100000 in
theorem whole_any (A : Option Addr) (c : Nat) (L : List (List Int)) (w : World) (hn : L.length ≤ 140737488355328) (ht : L.flatten.length ≤ 1048576)
    (hcell : ∀ i, i < L.length → ∃ b o, A = some ⟨b, o, none⟩ ∧ b < w.heap.size ∧ ∃ s, w.cell? ⟨b, o + i, none⟩ = some s ∧ RdB w s (nthL L i)) :
    Calls Tryd.prog 22 #[.slice A L.length c] w fun e w' => ∃ r, e = .returned r ∧ OwnB w.heap.size 5 w' r L.flatten ∧ Below w.heap.size w w' := by
  have hcell' := Lib.hid hcell
  have hfl := Lib.hid (fun k (h : k ≤ L.length) => Nat.le_trans (flatN_le L k h) ht)
  clear hcell ht
  rw [← flatN_all]
  generalize hm : L.length = n at *
  have hm' := Lib.hid hm; clear hm
  go_enter Tryd.func22, Tryd.ntmps22
  go_wp2
  go_loopw [3, 4] (fun s i wr => ∃ k : Nat, k ≤ n ∧ i = .int .i64 k ∧ OwnB w.heap.size 5 wr s (flatN L k) ∧ Below w.heap.size w wr) (fun _ i _ => match i with | .int _ m => n - m.toNat | _ => 0)
  case atStart => exact ⟨0, Nat.zero_le _, rfl, OwnB.nil _ _ _, Below.refl _ _⟩
  case round =>
    obtain ⟨k, hk, rfl, ho, hb⟩ := hrel
    obtain ⟨sa, sc, rfl⟩ := ho.rd.slice
    by_cases hlt : k < n
    · obtain ⟨b, o, rfl, hbw, s, hs, hrs⟩ := hcell'.out k hlt
      have hrs' := hrs.mono hb
      obtain ⟨qa, qc, rfl⟩ := hrs.slice
      have hc := (hb.cell (p := (⟨b, o + k, none⟩ : Addr)) hbw).trans hs
      have ho' := Lib.hid ho; have hb' := Lib.hid hb; have hrs2 := Lib.hid hrs'
      have hl2 : (flatN L k).length + (nthL L k).length ≤ 1048576 := by
        have := hfl.out (k + 1) hlt
        rwa [flatN, List.length_append] at this
      clear hrs hs ho hrs' hb
      go_wp2_with (refine appendB rfl _ _ 29 rfl w.heap.size 5 Tryd.underlying29 (by kernel_rfl) _ rfl _ ho'.out _ rfl _ hrs2.out (by omega) hb'.out.size ?_)
      intro v' w' h1 h2
      have hb2 := ho'.out.below h2 hb'.out.size
      refine Stop.go ?_
      go_wp2
      go_roundw
      case rel => exact ⟨k + 1, by omega, by go_num, h1, hb'.out.trans hb2⟩
      case measure => go_num
    · have hkn : k = n := by omega
      subst hkn
      go_wp2
      go_ret
      exact ⟨_, rfl, ho, hb⟩
end Go.Proofs.YtfncepfjnljhlaaDoor

/- Contracts of the reference of layer 4: strings that are read. Contracts of the reference of layer 4: lists of ids that are read. -/
import Derived.Test.YtoknefeciopdpaaGreatDoorI01
namespace Go.Proofs.YtoknefeciopdpaaGreatDoor.wir
open Go.RowKit Go.YtoknefeciopdpaaGreatDoor
set_option linter.unusedVariables false
theorem rreadBytes_arg (bv : Value) (most : Int) (hm : most < 0) (w : World) :
    Calls Tryz.prog 90 #[bv, .int .i64 most] w fun e w' => e = .returned (.tuple #[.slice none 0 0, .int .i64 0, .int .i64 2]) ∧ w = w' := by
  go_enter Tryz.func90, Tryz.ntmps90
  go_wp2
  go_ret3
  exact ⟨rfl, rfl⟩
theorem readC_none1 {l : List Int} {M : Nat} {size n u : Nat} (hre : readF l = some (n, u)) (h : readC l (M : Int) size = none) : ¬ ((n : Int) ≤ (M : Int) ∧ n ≤ (l.length - u) / size) := by
  intro hc
  unfold readC at h
  rw [hre] at h
  simp only [hc, and_self, if_true] at h
  cases h
theorem rreadBytes_no (l : List Int) (bv : Value) (most : Int) (h0 : 0 ≤ most) (hmx : most ≤ 9223372036854775807) (w : World) (hr : RdB w bv l) (hl : Bytes l) (hlm : l.length ≤ 1000000) (h : readC l most 1 = none) :
    Calls Tryz.prog 90 #[bv, .int .i64 most] w fun e w' => e = .returned (.tuple #[.slice none 0 0, .int .i64 0, .int .i64 12]) ∧ Below w.heap.size w w' := by
  have hn := rreadNumber_any l bv w hr hl hlm
  obtain ⟨a, c, rfl⟩ := hr.slice
  obtain ⟨M, rfl⟩ : ∃ M : Nat, most = (M : Int) := ⟨most.toNat, by omega⟩
  cases hre : readF l with
  | none =>
    obtain ⟨e1, e2, e3⟩ := rd_none hre
    rw [e1, e2, e3] at hn
    have hn' := Lib.hid hn
    clear hn hr hl h hre e1 e2 e3
    generalize l.length = L at *
    go_enter Tryz.func90, Tryz.ntmps90
    go_wp2_with (go_at_call 52; (with_reducible refine (hn'.out).mono ?_); rintro e w1 ⟨rfl, hb⟩; have hb' := Lib.hid hb; clear hb)
    go_ret3
    exact ⟨rfl, hb'.out⟩
  | some p =>
    obtain ⟨n, u⟩ := p
    obtain ⟨e1, e2, e3⟩ := rd_some hre
    have hul := (readF_some hl hre).2.2.1
    have hn64 := (readF_some hl hre).1
    rw [e1, e2, e3] at hn
    have hn' := Lib.hid hn
    have hno := readC_none1 hre h
    rw [Nat.div_one] at hno
    clear hn hr hl h hre e1 e2 e3
    generalize l.length = L at *
    obtain ⟨D, hD⟩ : ∃ D, L - u = D := ⟨_, rfl⟩
    have hD' : (L : Int) - (u : Int) = (D : Int) := by omega
    have hDm : D ≤ 1000000 := by omega
    rw [hD] at hno
    by_cases g1 : (M : Int) < (n : Int)
    · clear hno
      go_enter Tryz.func90, Tryz.ntmps90
      go_wp2_with (go_at_call 52; (with_reducible refine (hn'.out).mono ?_); rintro e w1 ⟨rfl, hb⟩; have hb' := Lib.hid hb; clear hb)
      go_ret3
      exact ⟨rfl, hb'.out⟩
    · have g2 : D < n := by omega
      have g3 : (n : Int) ≤ (M : Int) := by omega
      clear hno g1
      go_enter Tryz.func90, Tryz.ntmps90
      go_wp2_with (go_at_call 52; (with_reducible refine (hn'.out).mono ?_); rintro e w1 ⟨rfl, hb⟩; have hb' := Lib.hid hb; clear hb)
      go_ret3
      exact ⟨rfl, hb'.out⟩
theorem rreadBytes_ok (l : List Int) (bv : Value) (most : Int) (h0 : 0 ≤ most) (hmx : most ≤ 9223372036854775807) (w : World) (hr : RdB w bv l) (hl : Bytes l) (hlm : l.length ≤ 1000000) (n u : Nat) (h : readC l most 1 = some (n, u)) :
    Calls Tryz.prog 90 #[bv, .int .i64 most] w fun e w' => ∃ v, e = .returned (.tuple #[v, .int .i64 ((u + n : Nat) : Int), .int .i64 0]) ∧ OwnB w.heap.size 5 w' v ((l.drop u).take n) ∧ Below w.heap.size w w' := by
  have hn := rreadNumber_any l bv w hr hl hlm
  obtain ⟨hre, g1, g2⟩ := readC_some h
  obtain ⟨e1, e2, e3⟩ := rd_some hre
  have hul := (readF_some hl hre).2.2.1
  have hu1 : 1 ≤ u := by rw [(readF_some hl hre).2.1]; exact numL_pos n
  rw [e1, e2, e3] at hn
  rw [Nat.div_one] at g2
  obtain ⟨M, rfl⟩ : ∃ M : Nat, most = (M : Int) := ⟨most.toNat, by omega⟩
  rcases hr with ⟨a, c, rfl, _, rfl⟩ | ⟨b, o, c, rfl, r1, r2, r3, r4⟩
  · simp at hul; omega
  have hrd : RdB w (.slice (some ⟨b, o, none⟩) l.length c) l := .inr ⟨b, o, c, rfl, r1, r2, r3, r4⟩
  have hlen := Lib.hid (show ((l.drop u).take n).length = n by rw [List.length_take, List.length_drop]; omega)
  have hfin := Lib.hid (fun cap (h1 : n ≤ cap) (h2 : cap ≤ c) => rdB_sub hrd u n cap (by omega) h1 h2)
  have hempty := Lib.hid (fun (h : n = 0) (A : Option Addr) (C : Nat) (hA : A ≠ none) => (show RdB w (.slice A 0 C) ((l.drop u).take n) from .inl ⟨A, C, rfl, fun h => absurd h hA, by rw [h]; simp⟩))
  have hn' := Lib.hid hn
  unfold maxLen at r2
  clear hn hl h hre e1 e2 e3 hrd r4
  generalize l.length = L at *
  generalize (l.drop u).take n = R at *
  obtain ⟨D, hD⟩ : ∃ D, L - u = D := ⟨_, rfl⟩
  have hD' : (L : Int) - (u : Int) = (D : Int) := by omega
  rw [hD] at g2
  obtain ⟨V, hV⟩ : ∃ V, u + n = V := ⟨_, rfl⟩
  have hV' : (u : Int) + (n : Int) = (V : Int) := by omega
  rw [hV]
  have hVu : V - u = n := by omega
  have hVc : V ≤ c := by omega
  have huV : u ≤ V := by omega
  rcases Decidable.em (c = u) with hcu | gc
  · obtain rfl : n = 0 := by omega
    have he := Lib.hid (hempty.out rfl)
    obtain rfl : V = u := by omega
    subst hcu
    clear hempty hfin hVu hV
    go_enter Tryz.func90, Tryz.ntmps90
    go_wp2_with (first
      | (go_at_call 52; (with_reducible refine (hn'.out).mono ?_); rintro e w1 ⟨rfl, hb⟩; have hb' := Lib.hid hb; clear hb)
      | (refine appendB rfl _ _ 33 rfl w1.heap.size 5 Tryz.underlying33 (by kernel_rfl) _ rfl [] (own_nil w1) (.slice (some ⟨b, o, none⟩) 0 0) rfl R ((he.out _ _ (by simp)).mono (hb'.out.trans ((below_a1 w1 _).mono hb'.out.size))) (by rw [hlen.out]; simp) (by simp) ?_; intro v' w' h1 h2; have hB := Lib.hid (hb'.out.trans (((below_a1 w1 _).trans ((own_nil w1).below h2 (by simp))).mono hb'.out.size)); have h1' := Lib.hid (h1.mono hb'.out.size); clear h1 h2; refine Stop.go ?_))
    go_ret3
    exact ⟨_, rfl, h1'.out, hB.out⟩
  · go_enter Tryz.func90, Tryz.ntmps90
    go_wp2_with (first
      | (go_at_call 52; (with_reducible refine (hn'.out).mono ?_); rintro e w1 ⟨rfl, hb⟩; have hb' := Lib.hid hb; clear hb)
      | (refine appendB rfl _ _ 33 rfl w1.heap.size 5 Tryz.underlying33 (by kernel_rfl) _ rfl [] (own_nil w1) (.slice (some ⟨b, o + u, none⟩) n (c - u)) rfl R ((hfin.out _ (by omega) (by omega)).mono (hb'.out.trans ((below_a1 w1 _).mono hb'.out.size))) (by rw [hlen.out]; simp; omega) (by simp) ?_; intro v' w' h1 h2; have hB := Lib.hid (hb'.out.trans (((below_a1 w1 _).trans ((own_nil w1).below h2 (by simp))).mono hb'.out.size)); have h1' := Lib.hid (h1.mono hb'.out.size); clear h1 h2; refine Stop.go ?_))
    go_ret3
    exact ⟨_, rfl, h1'.out, hB.out⟩
end Go.Proofs.YtoknefeciopdpaaGreatDoor.wir
namespace Go.Proofs.YtoknefeciopdpaaGreatDoor.wir
open Go.RowKit Go.YtoknefeciopdpaaGreatDoor
set_option linter.unusedVariables false
theorem fold_list (l : List Value) (k : Nat) (z : Array Value) (h : k + l.length ≤ z.size) (i : Nat) : ((l.zipIdx k).foldl (fun cs x => cs.setIfInBounds x.snd x.fst) z)[i]? = if k ≤ i ∧ i < k + l.length then l[i - k]? else z[i]? := by
  induction l generalizing k z with
  | nil => simp; intro h1 h2; omega
  | cons v l ih =>
    rw [List.zipIdx_cons, List.foldl_cons, ih (k + 1) _ (by simp at h ⊢; omega)]
    simp only [List.length_cons] at h ⊢
    by_cases h1 : i = k
    · subst h1
      rw [if_neg (by omega), if_pos (by omega), Nat.sub_self]
      rw [Array.getElem?_setIfInBounds_self_of_lt (by omega)]; simp
    · by_cases h2 : k + 1 ≤ i ∧ i < k + 1 + l.length
      · rw [if_pos h2, if_pos (by omega), show i - k = (i - (k + 1)) + 1 by omega]
        simp
      · rw [if_neg h2, if_neg (by omega)]
        simp [Array.getElem?_setIfInBounds, Ne.symm h1]
theorem fold_arr (a z : Array Value) (h : a.size = z.size) : (a.zipIdx).foldl (fun cs x => cs.setIfInBounds x.snd x.fst) z = a := by
  apply Array.ext_getElem?
  intro i
  rw [← Array.foldl_toList, Array.toList_zipIdx, fold_list _ _ _ (by simp; omega)]
  by_cases hi : i < a.size
  · rw [if_pos (by simp; omega)]; simp
  · rw [if_neg (by simp; omega), Array.getElem?_eq_none (by omega), Array.getElem?_eq_none (by omega)]
theorem rreadIDs_arg (bv : Value) (most : Int) (hm : most < 0) (w : World) :
    Calls Tryz.prog 51 #[bv, .int .i64 most] w fun e w' => e = .returned (.tuple #[.slice none 0 0, .int .i64 0, .int .i64 2]) ∧ w = w' := by
  go_enter Tryz.func51, Tryz.ntmps51
  go_wp2
  go_ret3
  exact ⟨rfl, rfl⟩
theorem rreadIDs_no (l : List Int) (bv : Value) (most : Int) (h0 : 0 ≤ most) (hmx : most ≤ 9223372036854775807) (w : World) (hr : RdB w bv l) (hl : Bytes l) (hlm : l.length ≤ 1000000) (h : readC l most 32 = none) :
    Calls Tryz.prog 51 #[bv, .int .i64 most] w fun e w' => e = .returned (.tuple #[.slice none 0 0, .int .i64 0, .int .i64 12]) ∧ Below w.heap.size w w' := by
  have hn := rreadNumber_any l bv w hr hl hlm
  obtain ⟨a, c, rfl⟩ := hr.slice
  obtain ⟨M, rfl⟩ : ∃ M : Nat, most = (M : Int) := ⟨most.toNat, by omega⟩
  cases hre : readF l with
  | none =>
    obtain ⟨e1, e2, e3⟩ := rd_none hre
    rw [e1, e2, e3] at hn
    have hn' := Lib.hid hn
    clear hn hr hl h hre e1 e2 e3
    generalize l.length = L at *
    go_enter Tryz.func51, Tryz.ntmps51
    go_wp2_with (go_at_call 52; (with_reducible refine (hn'.out).mono ?_); rintro e w1 ⟨rfl, hb⟩; have hb' := Lib.hid hb; clear hb)
    go_ret3
    exact ⟨rfl, hb'.out⟩
  | some p =>
    obtain ⟨n, u⟩ := p
    obtain ⟨e1, e2, e3⟩ := rd_some hre
    have hul := (readF_some hl hre).2.2.1
    rw [e1, e2, e3] at hn
    have hn' := Lib.hid hn
    have hno := readC_none1 hre h
    clear hn hr hl h hre e1 e2 e3
    generalize l.length = L at *
    obtain ⟨D, hD⟩ : ∃ D, L - u = D := ⟨_, rfl⟩
    have hD' : (L : Int) - (u : Int) = (D : Int) := by omega
    have hDm : D ≤ 1000000 := by omega
    rw [hD] at hno
    by_cases g1 : (M : Int) < (n : Int)
    · clear hno
      go_enter Tryz.func51, Tryz.ntmps51
      go_wp2_with (go_at_call 52; (with_reducible refine (hn'.out).mono ?_); rintro e w1 ⟨rfl, hb⟩; have hb' := Lib.hid hb; clear hb)
      go_ret3
      exact ⟨rfl, hb'.out⟩
    · have g2 : (D : Int) / 32 < (n : Int) := by omega
      have g3 : (n : Int) ≤ (M : Int) := by omega
      clear hno g1
      go_enter Tryz.func51, Tryz.ntmps51
      go_wp2_with (go_at_call 52; (with_reducible refine (hn'.out).mono ?_); rintro e w1 ⟨rfl, hb⟩; have hb' := Lib.hid hb; clear hb)
      go_ret3
      exact ⟨rfl, hb'.out⟩
/-- The first bytes of an id, and zeros. -/
def xP (A : List Int) (j : Nat) : List Int := A.take j ++ zerosB (32 - j)
theorem xP_length (A : List Int) (j : Nat) (hA : A.length = 32) (hj : j ≤ 32) : (xP A j).length = 32 := by
  rw [xP, List.length_append, List.length_take, zerosB_length]; omega
theorem xP_set (A : List Int) (j : Nat) (hA : A.length = 32) (hj : j < 32) : (xP A j).set j (ith A j) = xP A (j + 1) := by
  have hl : (A.take j).length = j := by rw [List.length_take]; omega
  obtain ⟨d, hd⟩ : ∃ d, 32 - j = d + 1 := ⟨32 - j - 1, by omega⟩
  have hd2 : 32 - (j + 1) = d := by omega
  unfold xP
  rw [hd, hd2, List.set_append_right _ _ (by rw [hl]; exact Nat.le_refl _), hl, Nat.sub_self, take_succ_ith A j (by omega)]
  simp [zerosB, List.replicate_succ]
theorem xP_all (A : List Int) (hA : A.length = 32) : xP A 32 = A := by
  unfold xP
  rw [List.take_of_length_le (by omega)]
  simp [zerosB]
def rreadIDsPost (w : World) (F : List Int) (n used : Nat) (e : Ending) (w' : World) : Prop :=
  Below w.heap.size w w' ∧ if riseF F n = true then ∃ v, e = .returned (.tuple #[v, .int .i64 (used : Nat), .int .i64 0]) ∧ OwnI w.heap.size 42 w' v n F else e = .returned (.tuple #[.slice none 0 0, .int .i64 0, .int .i64 12])
set_option maxRecDepth 100000 in
set_option maxHeartbeats 2000000 in
theorem rreadIDs_ok (l : List Int) (bv : Value) (most : Int) (h0 : 0 ≤ most) (hmx : most ≤ 9223372036854775807) (w : World) (hr : RdB w bv l) (hl : Bytes l) (hlm : l.length ≤ 1000000) (n u : Nat) (h : readC l most 32 = some (n, u)) :
    Calls Tryz.prog 51 #[bv, .int .i64 most] w (rreadIDsPost w ((l.drop u).take (n * 32)) n (u + n * 32)) := by
  have hn := rreadNumber_any l bv w hr hl hlm
  obtain ⟨hre, g1, g2⟩ := readC_some h
  obtain ⟨e1, e2, e3⟩ := rd_some hre
  have hul := (readF_some hl hre).2.2.1
  have hu1 : 1 ≤ u := by rw [(readF_some hl hre).2.1]; exact numL_pos n
  rw [e1, e2, e3] at hn
  obtain ⟨M, rfl⟩ : ∃ M : Nat, most = (M : Int) := ⟨most.toNat, by omega⟩
  have hlen := Lib.hid (show ((l.drop u).take (n * 32)).length = 32 * n by rw [List.length_take, List.length_drop]; omega)
  have hFb := Lib.hid (show Bytes ((l.drop u).take (n * 32)) from bytes_take _ _ (bytes_drop l u hl))
  rcases hr with ⟨a, c, rfl, _, rfl⟩ | ⟨b, o, c, rfl, r1, r2, r3, r4⟩
  · simp at hul; omega
  have hcell := Lib.hid (fun k j (hk : k < n) (hj : j < 32) => (show w.cell? ⟨b, o + (u + 32 * k + j), none⟩ = some (.int .u8 (ith (idF ((l.drop u).take (n * 32)) k) j)) from by
    rw [ith_idF _ _ _ hj, ith_take _ _ _ (by omega), ith_drop, show u + 32 * k + j = u + (32 * k + j) by omega]; exact r4 (u + (32 * k + j)) (by omega)))
  have hn' := Lib.hid hn
  unfold maxLen at r2
  clear hn hl h hre e1 e2 e3 r4
  generalize l.length = L at *
  generalize (l.drop u).take (n * 32) = F at *
  obtain ⟨D, hD⟩ : ∃ D, L - u = D := ⟨_, rfl⟩
  have hD' : (L : Int) - (u : Int) = (D : Int) := by omega
  rw [hD] at g2
  have g3 : (n : Int) ≤ (D : Int) / 32 := by omega
  have hDm : D ≤ 1000000 := by omega
  have hz0 := Lib.hid (show F.take (32 * 0) = [] by simp)
  have hall := Lib.hid (show F.take (32 * n) = F by rw [List.take_of_length_le (by rw [hlen.out]; omega)])
  have hst := Lib.hid (fun k => take_ids F k)
  obtain ⟨TF, hTF⟩ : ∃ TF : Nat → List Int, TF = fun k => F.take (32 * k) := ⟨_, rfl⟩
  have eT : ∀ k, F.take (32 * k) = TF k := fun k => by rw [hTF]
  simp only [eT] at hz0 hall hst
  clear eT hTF g2 hD
  have d1 : decide ((M : Int) < 0) = false := by simp
  have d2 : decide (M < n) = false := by simp; omega
  have d3 : decide ((D : Int) / 32 < (n : Int)) = false := by simp; omega
  have d4 : ¬ M < n := by omega
  go_enter Tryz.func51, Tryz.ntmps51
  go_wp2_with (go_at_call 52; (with_reducible refine (hn'.out).mono ?_); rintro e w1 ⟨rfl, hb⟩; have hb' := Lib.hid hb; clear hb)
  clear hn'
  go_loopw [10, 11] (fun s i wr => ∃ k : Nat, k ≤ n ∧ i = .int .i64 k ∧ OwnI w.heap.size 42 wr s k (TF k) ∧ Below w.heap.size w wr) (fun _ i _ => n - (intOf i).toNat)
  case atStart => exact ⟨0, Nat.zero_le _, rfl, by rw [hz0.out]; exact OwnI.nil _ _ _, hb'.out⟩
  case round =>
    obtain ⟨k, hk, rfl, ho, hb⟩ := hrel
    obtain ⟨sa, sc, rfl⟩ := ho.rd.slice
    have ho' := Lib.hid ho; have hbk := Lib.hid hb
    have hz := hb.size
    clear ho hb hb'
    by_cases hlt : k < n
    · obtain ⟨w2, hw2⟩ : ∃ w2, w2 = wr := ⟨_, rfl⟩
      subst hw2
      have hca := Lib.hid (fun j hj => hcell.out k j hlt hj)
      have hAl := Lib.hid (idF_length F n k hlen.out hlt)
      have hst' := Lib.hid (hst.out k)
      generalize idF F k = A at *
      have hx00 : Hid ((w2.alloc (.cells (u8s (xP A 0)) 42)).heap[w2.heap.size]? = some (.cells (u8s (xP A 0)) 42 (0, 0))) := Lib.hid (heap_alloc_new w2 _)
      have hlit : u8s (xP A 0) = u8s (zerosB 32) := by simp [xP]
      have hbx0 := Lib.hid (below_a1 w2 (.cells (u8s (xP A 0)) 42))
      rw [hlit] at hbx0
      have hx0 := Lib.hid (show (w2.alloc (.cells (u8s (zerosB 32)) 42)).heap[w2.heap.size]? = some (.cells (u8s (xP A 0)) 42 (0, 0)) by rw [hlit]; exact heap_alloc_new w2 _)
      clear hx00 hlit
      go_wp2
      generalize hW : w2.alloc _ = W
      have hxW := Lib.hid (show W.heap[w2.heap.size]? = some (.cells (u8s (xP A 0)) 42 (0, 0)) by rw [← hW]; exact hx0.out)
      have hbW := Lib.hid (show Below w2.heap.size w2 W by rw [← hW]; exact hbx0.out)
      clear hW hx0 hbx0
      go_loopw [13] (fun i wr => ∃ j : Nat, j ≤ 32 ∧ i = .int .i64 j ∧ wr.heap[w2.heap.size]? = some (.cells (u8s (xP A j)) 42 (0, 0)) ∧ Below w2.heap.size w2 wr) (fun i _ => 32 - (intOf i).toNat)
      case atStart => exact ⟨0, by omega, rfl, hxW.out, hbW.out⟩
      case round =>
        obtain ⟨j, hj, rfl, q1, q2⟩ := hrel
        have q1' := Lib.hid q1; have q2' := Lib.hid q2
        by_cases hlj : j < 32
        · obtain ⟨p, hp⟩ : ∃ p : Nat, (u : Int) + 32 * (k : Int) + (j : Int) = (p : Int) := ⟨u + 32 * k + j, by omega⟩
          have hpe : p = u + 32 * k + j := by omega
          have hpL : p < L := by omega
          have hcl : wr.cell? ⟨b, o + p, none⟩ = some (.int .u8 (ith A j)) := by rw [(hbk.out.trans (q2.mono hz)).cell (p := ⟨b, o + p, none⟩) r3, hpe]; exact hca.out j hlj
          have hc2 : wr.cell? ⟨w2.heap.size, j, none⟩ = some (.int .u8 (ith (xP A j) j)) := by rw [cell_of_row _ _ _ _ _ _ q1]; exact u8s_get _ _ (by rw [xP_length A j hAl.out hj]; exact hlj)
          have hf2 := frozen_of_row _ _ j _ _ q1
          have hset := Lib.hid (xP_set A j hAl.out hlj)
          clear q1 q2 hpe
          generalize ith A j = y at *
          generalize xP A j = XJ at *
          generalize ith XJ j = y0 at *
          have x32 : IntKind.i64.wrap (32 * (k : Int)) = 32 * (k : Int) := IntWalk.i64_in _ (by omega)
          go_wp2
          go_roundw
          case rel =>
            refine ⟨j + 1, by omega, by go_num, ?_, q2'.out.setCell (p := ⟨w2.heap.size, j, none⟩) (Nat.le_refl w2.heap.size) _⟩
            have h := setCell_row q1'.out j (.int .u8 y)
            rw [u8s_set, hset.out] at h
            exact h
          case measure => simp [intOf]; omega
        · obtain rfl : j = 32 := by omega
          clear q1 q2 hxW hbW
          rw [xP_all A hAl.out] at q1'
          have hone := Lib.hid (show 32 = (u8s A).size from by rw [u8s_size, hAl.out])
          have hi := Lib.hid (show (Tryz.prog.info? 42).map (·.size) = some (u8s A).size from by rw [u8s_size, hAl.out]; kernel_rfl)
          have hfold0 := fold_arr (u8s A) (u8s (zerosB 32)) (by rw [u8s_size, hAl.out]; rfl)
          have hfold : Array.foldl (fun (cs : Array Value) (x : Value × Nat) => cs.setIfInBounds x.snd x.fst) #[Value.int .u8 0, Value.int .u8 0, Value.int .u8 0, Value.int .u8 0, Value.int .u8 0, Value.int .u8 0, Value.int .u8 0, Value.int .u8 0, Value.int .u8 0, Value.int .u8 0, Value.int .u8 0, Value.int .u8 0, Value.int .u8 0, Value.int .u8 0, Value.int .u8 0, Value.int .u8 0, Value.int .u8 0, Value.int .u8 0, Value.int .u8 0, Value.int .u8 0, Value.int .u8 0, Value.int .u8 0, Value.int .u8 0, Value.int .u8 0, Value.int .u8 0, Value.int .u8 0, Value.int .u8 0, Value.int .u8 0, Value.int .u8 0, Value.int .u8 0, Value.int .u8 0, Value.int .u8 0] (u8s A).zipIdx 0 32 = u8s A := by
            have e : 32 = (u8s A).zipIdx.size := by simp [u8s_size, hAl.out]
            rw [e]; exact hfold0
          have hsz : (u8s A).size = 32 := hone.out.symm
          clear hfold0
          have hzr := hbk.out.size
          have hzz : w.heap.size ≤ wr.heap.size := Nat.le_trans hz q2'.out.size
          have ho2 := Lib.hid ((ho'.out.kept q2'.out).kept (below_a1 wr (.cells (u8s A) 42)))
          have hrw := Lib.hid (heap_alloc_new wr (.cells (u8s A) 42))
          go_wp2_with (first
            | (refine wpList_load_row rfl 42 _ rfl w2.heap.size rfl 42 _ _ _ q1'.out Tryz.underlying42 rfl hi.out ?_)
            | (refine appendI rfl _ _ 23 rfl w.heap.size 42 Tryz.underlying23 (by kernel_rfl) _ rfl k (TF k) ho2.out wr.heap.size 1 rfl A hAl.out 42 hrw.out (by omega) (by simp; omega) ?_; intro v' w' h1 h2; have hB := Lib.hid ((hbk.out.trans (q2'.out.mono hz)).trans (((below_a1 wr (.cells (u8s A) 42)).mono hzz).trans (ho2.out.below h2 (by simp; omega)))); rw [hst'.out] at h1; obtain ⟨va, vc, rfl⟩ := h1.rd.slice; have h1' := Lib.hid h1; clear h1 h2; refine Stop.go ?_))
          go_roundw
          case rel => exact ⟨k + 1, by omega, by go_num, h1'.out, hB.out⟩
          case measure => simp [intOf]; omega
    · obtain rfl : k = n := by omega
      rw [hall.out] at ho'
      have hinc := Lib.hid (rising_any F k (.slice sa k sc) wr ho'.out.rd hFb.out (by omega))
      have xk : IntKind.i64.wrap (32 * (k : Int)) = 32 * (k : Int) := IntWalk.i64_in _ (by omega)
      cases hri : riseF F k
      · rw [hri] at hinc
        go_wp2_with (go_at_call 71; (with_reducible refine (hinc.out).mono ?_); rintro e w6 ⟨rfl, hb6⟩; have hb6' := Lib.hid hb6; clear hb6)
        go_ret3
        exact ⟨hbk.out.trans (hb6'.out.mono hz), by rw [if_neg (by rw [hri]; decide)]; rfl⟩
      · rw [hri] at hinc
        go_wp2_with (go_at_call 71; (with_reducible refine (hinc.out).mono ?_); rintro e w6 ⟨rfl, hb6⟩; have hb6' := Lib.hid hb6; clear hb6)
        go_ret3
        refine ⟨hbk.out.trans (hb6'.out.mono hz), ?_⟩
        rw [if_pos hri]
        refine ⟨_, ?_, ho'.out.kept hb6'.out⟩
        rw [show u + k * 32 = u + 32 * k by omega]
        rfl
end Go.Proofs.YtoknefeciopdpaaGreatDoor.wir

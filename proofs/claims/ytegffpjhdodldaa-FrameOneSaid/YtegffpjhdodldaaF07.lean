/- Layer 7: contracts of package frame: strings that are read. -/
import Derived.Test.YtegffpjhdodldaaF06
import Derived.Test.YtegffpjhdodldaaW07
namespace Go.Proofs.Ytegffpjhdodldaa
open Go.RowKit Go.Ytegffpjhdodldaa
set_option linter.unusedVariables false
theorem ownNe {B : Nat} {E T : TypeId} {w : World} {v : Value} {l : List Int} (h : OwnB B E w v l) {g : Nat} {cs : Array Value} {fr : Nat × Nat} (hg : w.heap[g]? = some (.cells cs T fr)) (hT : T ≠ E) : some g ≠ v.ownBlock := by
  rcases h.2 with ⟨rfl, _⟩ | ⟨k, cap, cur, rfl, hb, hk, _⟩
  · intro e; cases e
  · intro e
    simp only [Value.ownBlock, Option.some.injEq] at e
    subst e
    rw [hg] at hk
    injection hk with hk
    injection hk with _ h2 _
    exact hT h2
theorem own_setCell {B : Nat} {E T : TypeId} {w : World} {v : Value} {l : List Int} (h : OwnB B E w v l) {g : Nat} {cs : Array Value} (hg : w.heap[g]? = some (.cells cs T (0, 0))) (hT : T ≠ E) (i : Nat) (x : Value) : OwnB B E (w.setCell ⟨g, i, none⟩ x) v l := by
  have hne := ownNe h hg hT
  rw [setCell_eq hg]
  refine ⟨h.1, ?_⟩
  rcases h.2 with hn | ⟨k, cap, cur, rfl, hb, hk, rest⟩
  · exact .inl hn
  · refine .inr ⟨k, cap, cur, rfl, hb, (setRow_other w g k _ ?_).trans hk, rest⟩
    intro e
    exact hne (by rw [← e]; rfl)
theorem run_makeLs (w : World) (k : IntKind) (n : Nat) (hn : n ≤ 1000) : (Instr.makeSlice 24 (.int k (n : Int)) (.int k (n : Int))).run Try.prog w = .ok (.slice (some ⟨w.heap.size, 0, none⟩) n n) (w.alloc (.cells (madeCells #[.slice none 0 0] n) 29)) := by
  obtain ⟨i, hi, hz, hs, hb⟩ := info_parts (show (Try.prog.info? 29).map (fun i => (i.zero, i.size, i.bytes)) = some (some (.slice none 0 0), 1, 24) by kernel_rfl)
  have h := run_make (P := Try.prog) w 24 29 i (.slice none 0 0) Try.underlying24 hi hz k k (n : Int) (n : Int) (by omega) (by omega) (by rw [hb]; omega) (by omega)
  rw [h, hs]
  simp only [Int.toNat_natCast, Nat.mul_one, Value.cells]
/-- The row of a slice of strings, the first k of which are there. -/
def StrRow (B g n k : Nat) (T8 TS : TypeId) (w : World) (L : List (List Int)) : Prop :=
  ∃ vs : List Value, vs.length = k ∧ L.length = k ∧ w.heap[g]? = some (.cells (vs ++ List.replicate (n - k) (Value.slice none 0 0)).toArray TS (0, 0)) ∧ ∀ i, i < k → ∃ s, vs[i]? = some s ∧ OwnB B T8 w s (nthL L i)
theorem strRow_zero (B n : Nat) (T8 TS : TypeId) (w : World) : StrRow B w.heap.size n 0 T8 TS (w.alloc (.cells (madeCells #[.slice none 0 0] n) TS)) [] := by
  refine ⟨[], rfl, rfl, ?_, fun i hi => absurd hi (Nat.not_lt_zero _)⟩
  rw [heap_alloc_new, Nat.sub_zero, List.nil_append]
  congr 2
  apply Array.ext'
  rw [toList_madeCells_one]
theorem strRow_kept {B g n k : Nat} {T8 TS : TypeId} {w w' : World} {L : List (List Int)} (h : StrRow B g n k T8 TS w L) (hb : Below w.heap.size w w') : StrRow B g n k T8 TS w' L := by
  obtain ⟨vs, h1, h2, h3, h4⟩ := h
  refine ⟨vs, h1, h2, rowB h3 hb (Array.getElem?_eq_some_iff.1 h3).1, fun i hi => ?_⟩
  obtain ⟨s, k1, k2⟩ := h4 i hi
  exact ⟨s, k1, k2.kept hb⟩
theorem strRow_set {B g n k : Nat} {T8 TS : TypeId} {w : World} {L : List (List Int)} (h : StrRow B g n k T8 TS w L) (hk : k < n) (hT : TS ≠ T8) {s : Value} {l : List Int} (hs : OwnB B T8 w s l) : StrRow B g n (k + 1) T8 TS (w.setCell ⟨g, k, none⟩ s) (L ++ [l]) := by
  obtain ⟨vs, h1, h2, h3, h4⟩ := h
  refine ⟨vs ++ [s], by simp [h1], by simp [h2], ?_, fun i hi => ?_⟩
  · rw [setCell_row h3 k s]
    congr 2
    apply Array.ext'
    rw [Array.toList_setIfInBounds, List.set_append_right _ _ (by omega), h1, Nat.sub_self, show n - k = (n - (k + 1)) + 1 by omega, List.replicate_succ, List.set_cons_zero, List.append_assoc, List.singleton_append]
  · rcases Nat.lt_or_ge i k with h5 | h5
    · obtain ⟨x, k1, k2⟩ := h4 i h5
      refine ⟨x, by rw [List.getElem?_append_left (by omega)]; exact k1, ?_⟩
      rw [nthL_pre _ _ _ (by omega)]
      exact own_setCell k2 h3 hT k s
    · obtain rfl : i = k := by omega
      refine ⟨s, by rw [← h1]; simp, ?_⟩
      rw [show nthL (L ++ [l]) i = l by rw [← h2]; exact nthL_last L l]
      exact own_setCell hs h3 hT i s
theorem strRow_own {B g n : Nat} {T8 TS : TypeId} {w : World} {L : List (List Int)} (h : StrRow B g n n T8 TS w L) (hB : B ≤ g) (hn : n ≤ 1000) : OwnL B T8 TS w (.slice (some ⟨g, 0, none⟩) n n) L := by
  obtain ⟨vs, h1, h2, h3, h4⟩ := h
  refine ⟨vs, h1.trans h2.symm, ⟨by simp, .inr ⟨g, n, _, by rw [h1], hB, h3, by omega, by unfold maxLen; omega, by simp [h1], ?_⟩⟩, fun i hi => h4 i (by omega)⟩
  rw [Nat.mul_one, Nat.sub_self, List.replicate_zero, List.append_nil, List.take_length]
theorem strRow_cell {B g n k : Nat} {T8 TS : TypeId} {w : World} {L : List (List Int)} (h : StrRow B g n k T8 TS w L) (hk : k < n) : w.cell? ⟨g, k, none⟩ = some (.slice none 0 0) ∧ w.frozen? ⟨g, k, none⟩ = false := by
  obtain ⟨vs, h1, h2, h3, h4⟩ := h
  refine ⟨?_, frozen_of_row _ _ k _ _ h3⟩
  rw [cell_of_row _ _ _ _ _ _ h3, List.getElem?_toArray, List.getElem?_append_right (by omega), List.getElem?_replicate, if_pos (by omega)]
theorem rdB_from {w : World} {b o n c : Nat} {l : List Int} (h : RdB w (.slice (some ⟨b, o, none⟩) n c) l) (hn : l.length = n) (U : Nat) (hU : U ≤ n) :
    (c = U → RdB w (.slice (some ⟨b, o, none⟩) 0 0) (l.drop U)) ∧ (¬ c = U → RdB w (.slice (some ⟨b, o + U, none⟩) (n - U) (c - U)) (l.drop U)) := by
  rcases h with ⟨a', c', e, h1, rfl⟩ | ⟨b', o', c', e, h1, h2, h3, h4⟩
  · cases e
    obtain rfl : U = 0 := by omega
    exact ⟨fun _ => .inl ⟨_, _, rfl, (fun h => by cases h), rfl⟩, fun _ => .inl ⟨_, _, rfl, (fun h => by cases h), rfl⟩⟩
  · cases e
    have hl : (l.drop U).length = l.length - U := List.length_drop
    refine ⟨fun hc => ?_, fun hc => .inr ⟨b, o + U, c - U, by rw [hl], by rw [hl]; omega, by unfold maxLen at *; omega, h3, fun i hi => ?_⟩⟩
    · subst hc
      exact .inl ⟨_, _, rfl, (fun h => by cases h), List.drop_eq_nil_of_le (by omega)⟩
    · rw [hl] at hi
      rw [ith_drop, Nat.add_assoc]
      exact h4 (U + i) (by omega)
def strPost (w : World) (b : List Int) (e : Ending) (w' : World) : Prop :=
  Below w.heap.size w w' ∧ (readS b = none → e = .returned (.tuple #[.slice none 0 0, .int .i64 0, .int .i64 12])) ∧ ∀ L u, readS b = some (L, u) → ∃ v, e = .returned (.tuple #[v, .int .i64 ((u : Nat) : Int), .int .i64 0]) ∧ OwnL w.heap.size 5 29 w' v L
theorem readS_no {b : List Int} (h : readF b = none) : readS b = none := by unfold readS; rw [h]
theorem readS_many {b : List Int} {n u : Nat} (h : readF b = some (n, u)) (h8 : 8 < n) : readS b = none := by unfold readS; rw [h]; exact if_pos h8
theorem readS_gone {b : List Int} {n u : Nat} (h : readF b = some (n, u)) (h8 : ¬ 8 < n) (ht : readT (b.drop u) n = none) : readS b = none := by
  unfold readS; rw [h]; simp only; rw [if_neg h8, ht]
theorem readS_yes {b : List Int} {n u v : Nat} {L : List (List Int)} (h : readF b = some (n, u)) (h8 : ¬ 8 < n) (ht : readT (b.drop u) n = some (L, v)) : readS b = some (L, u + v) := by
  unfold readS; rw [h]; simp only; rw [if_neg h8, ht]
set_option maxHeartbeats 2000000 in
set_option maxRecDepth 100000 in
theorem readStrings_any (b : List Int) (bv : Value) (w : World) (hr : RdB w bv b) (hb : Bytes b) (hl : b.length ≤ 100000) :
    Calls Try.prog 50 #[bv] w (strPost w b) := by
  have hn := readNumber_any b bv w hr hb
  cases hre : readF b with
  | none =>
    obtain ⟨e1, e2, e3⟩ := rd_none hre
    rw [e1, e2, e3] at hn
    have hs := Lib.hid (readS_no hre)
    have hn' := Lib.hid hn
    obtain ⟨a, c, rfl⟩ := hr.slice
    generalize hp : strPost w b = PO at *
    have hp' := Lib.hid hp
    clear hn hr hb hl hre e1 e2 e3 hp
    generalize b.length = NB at *
    go_enter Try.func50, Try.ntmps50
    go_wp2_with (go_at_call 48; (with_reducible refine (hn'.out).mono ?_); rintro e w1 ⟨rfl, rfl⟩)
    rw [← hp'.out]
    exact ⟨Below.refl _ _, fun _ => rfl, fun L u h => by rw [hs.out] at h; cases h⟩
  | some p =>
    obtain ⟨n, u⟩ := p
    obtain ⟨e1, e2, e3⟩ := rd_some hre
    obtain ⟨hn64, hu, hul, _⟩ := readF_some hb hre
    rw [e1, e2, e3] at hn
    have hn' := Lib.hid hn
    by_cases h8 : 8 < n
    · have hs := Lib.hid (readS_many hre h8)
      obtain ⟨a, c, rfl⟩ := hr.slice
      generalize hp : strPost w b = PO at *
      have hp' := Lib.hid hp
      clear hn hr hb hl hre e1 e2 e3 hp hul hu
      generalize b.length = NB at *
      go_enter Try.func50, Try.ntmps50
      go_wp2_with (go_at_call 48; (with_reducible refine (hn'.out).mono ?_); rintro e w1 ⟨rfl, rfl⟩)
      rw [← hp'.out]
      exact ⟨Below.refl _ _, fun _ => rfl, fun L u h => by rw [hs.out] at h; cases h⟩
    · have hu1 := numL_pos n
      rw [← hu] at hu1
      rcases hr with ⟨a, c, rfl, _, rfl⟩ | ⟨bb, o, c, rfl, r1, r2, r3, r4⟩
      · simp at hul; omega
      have hrd : RdB w (.slice (some ⟨bb, o, none⟩) b.length c) b := .inr ⟨bb, o, c, rfl, r1, r2, r3, r4⟩
      have hrd' := Lib.hid hrd
      have hgone := Lib.hid (fun h => readS_gone hre h8 h)
      have hyes := Lib.hid (fun L v h => readS_yes (L := L) (v := v) hre h8 h)
      have hgo := Lib.hid (fun (k : Nat) (h : readT (b.drop u) k = none) (hk : k ≤ n) => readT_gone h n hk)
      have hbu := Lib.hid (bytes_drop b u hb)
      have hbb := Lib.hid hb
      have hback := Lib.hid (fun k L x h => readT_back (bytes_drop b u hb) k L x h)
      obtain ⟨NB, hNB⟩ : ∃ NB, b.length = NB := ⟨_, rfl⟩
      have hNB' := Lib.hid hNB
      rw [hNB] at hn' hrd' hl hul r1 ⊢
      have hmk := fun (wx : World) => run_makeLs wx .u64 n (by omega)
      have hz0 := Lib.hid (strRow_zero w.heap.size n 5 29 w)
      have hB0 := Lib.hid (below_a w (.cells (madeCells #[.slice none 0 0] n) 29))
      generalize hp : strPost w b = PO at *
      have hp' := Lib.hid hp
      have h8' : (n : Int) ≤ 8 := by omega
      clear hn hrd hb hre e1 e2 e3 hp hNB r4 hu
      unfold maxLen at r2
      go_enter Try.func50, Try.ntmps50
      go_wp2_with (go_at_call 48; (with_reducible refine (hn'.out).mono ?_); rintro e w1 ⟨rfl, rfl⟩)
      generalize hW : w.alloc (.cells (madeCells #[.slice none 0 0] n) 29) = W at *
      have hW' := Lib.hid hW
      clear hW hmk
      go_loopw [6, 29] (fun x i wr => ∃ (k v : Nat) (L : List (List Int)), k ≤ n ∧ i = .int .i64 k ∧ x = .int .i64 ((u + v : Nat) : Int) ∧ readT (b.drop u) k = some (L, v) ∧ Below w.heap.size w wr ∧ w.heap.size < wr.heap.size ∧ StrRow w.heap.size w.heap.size n k 5 29 wr L) (fun _ i _ => n - (intOf i).toNat)
      case atStart => exact ⟨0, 0, [], Nat.zero_le _, rfl, rfl, rfl, hB0.out, by rw [← hW'.out]; simp, hz0.out⟩
      case round =>
        obtain ⟨k, v, L, hk, rfl, rfl, hT, hBr, hgs, hS⟩ := hrel
        obtain ⟨b1, b2, _, b4, _⟩ := hback.out k L v hT
        rw [List.length_drop, hNB'.out] at b2
        have hBr' := Lib.hid hBr
        have hS' := Lib.hid hS
        have hT' := Lib.hid hT
        by_cases hlt : k < n
        · obtain ⟨U, hU⟩ : ∃ U, u + v = U := ⟨_, rfl⟩
          have hdd : (b.drop u).drop v = b.drop U := by rw [List.drop_drop, hU]
          have hUn : U ≤ NB := by omega
          have hrr := rdB_from (hrd'.out.mono hBr) hNB'.out U hUn
          have hbd := bytes_drop b U hbb.out
          have hdl : (b.drop U).length ≤ 1000000 := by rw [List.length_drop, hNB'.out]; omega
          have hUh := Lib.hid hU
          rw [hU]
          cases hq : readC (b.drop U) 400 1 with
          | none =>
            have hs := Lib.hid (hgone.out (hgo.out (k + 1) (readT_none hT (by rw [hdd]; exact hq)) (by omega)))
            have hno := Lib.hid (fun bv (h : RdB wr bv (b.drop U)) => readBytes_no (b.drop U) bv 400 (by decide) (by decide) wr h hbd hdl hq)
            clear hBr hS hT hq hbd hdl hdd hU b1 b2 b4 hgone hyes hgo hback
            rcases Decidable.em (c = U) with rfl | hcU
            · have hr1 := Lib.hid (hrr.1 rfl)
              clear hrr
              go_wp2_with (go_at_call 58; (with_reducible refine (hno.out _ hr1.out).mono ?_); rintro e w1 ⟨rfl, rfl⟩)
              rw [← hp'.out]
              exact ⟨hBr'.out, fun _ => rfl, fun L u h => by rw [hs.out] at h; cases h⟩
            · have hr1 := Lib.hid (hrr.2 hcU)
              clear hrr
              go_wp2_with (go_at_call 58; (with_reducible refine (hno.out _ hr1.out).mono ?_); rintro e w1 ⟨rfl, rfl⟩)
              rw [← hp'.out]
              exact ⟨hBr'.out, fun _ => rfl, fun L u h => by rw [hs.out] at h; cases h⟩
          | some q =>
            obtain ⟨m, x⟩ := q
            have hT1 := Lib.hid (readT_step hT (by rw [hdd]; exact hq))
            rw [hdd] at hT1
            obtain ⟨r1', r2', r3', r4', r5'⟩ := readC_backG hbd hq
            have hok := Lib.hid (fun bv (h : RdB wr bv (b.drop U)) => readBytes_ok (b.drop U) bv 400 (by decide) (by decide) wr h hbd hdl m x hq)
            rw [List.length_drop, hNB'.out] at r4'
            obtain ⟨V, hV⟩ : ∃ V, x + m = V := ⟨_, rfl⟩
            rw [hV] at hok hT1 r4'
            have hl1 := Lib.hid r2'
            generalize ((b.drop U).drop x).take m = l1 at *
            have hwr : IntKind.i64.wrap ((U : Int) + (V : Int)) = (U : Int) + (V : Int) := IntWalk.i64_in _ (by omega)
            have hfin := Lib.hid (show ((U : Int) + (V : Int)) = ((u + (v + V) : Nat) : Int) by omega)
            have hm4 : m ≤ 400 := by omega
            clear hBr hS hT hq hbd hdl hdd hU hgone hyes hgo hback r1' r2' r3' r5' hV b1 b2 b4
            have hnext := Lib.hid (fun (w1 : World) (h : StrRow w.heap.size w.heap.size n k 5 29 w1 L) (hr : w1.heap[wr.heap.size]? = some (.cells (u8s l1) 5 (0, 0))) => strRow_set h hlt (by decide) (ownB_row hr m hl1.out (by unfold maxLen; omega) (Nat.le_of_lt hgs)))
            rcases Decidable.em (c = U) with rfl | hcU
            · have hr1 := Lib.hid (hrr.1 rfl)
              clear hrr
              go_wp2_with (go_at_call 58; (with_reducible refine (hok.out _ hr1.out).mono ?_); rintro e w1 ⟨rfl, q1, q2⟩; have hz1 := q2.size; have hS1 := Lib.hid (strRow_kept hS'.out q2); have hB1 := Lib.hid (hBr'.out.trans (q2.mono hBr'.out.size)); have hq1 := Lib.hid q1; obtain ⟨hc1, hf1⟩ := strRow_cell hS1.out hlt; clear q1 q2)
              go_roundw
              case rel => exact ⟨k + 1, v + V, L ++ [l1], by omega, by go_num, by rw [hfin.out], hT1.out, hB1.out.setCell (Nat.le_refl _) _, by simpa [World.setCell] using Nat.lt_of_lt_of_le hgs hz1, hnext.out _ hS1.out hq1.out⟩
              case measure => simp [intOf]; omega
            · have hr1 := Lib.hid (hrr.2 hcU)
              clear hrr
              go_wp2_with (go_at_call 58; (with_reducible refine (hok.out _ hr1.out).mono ?_); rintro e w1 ⟨rfl, q1, q2⟩; have hz1 := q2.size; have hS1 := Lib.hid (strRow_kept hS'.out q2); have hB1 := Lib.hid (hBr'.out.trans (q2.mono hBr'.out.size)); have hq1 := Lib.hid q1; obtain ⟨hc1, hf1⟩ := strRow_cell hS1.out hlt; clear q1 q2)
              go_roundw
              case rel => exact ⟨k + 1, v + V, L ++ [l1], by omega, by go_num, by rw [hfin.out], hT1.out, hB1.out.setCell (Nat.le_refl _) _, by simpa [World.setCell] using Nat.lt_of_lt_of_le hgs hz1, hnext.out _ hS1.out hq1.out⟩
              case measure => simp [intOf]; omega
        · obtain rfl : k = n := by omega
          have hs := Lib.hid (hyes.out L v hT)
          have ho := Lib.hid (strRow_own hS (Nat.le_refl _) (by omega))
          go_wp2
          rw [← hp'.out]
          exact ⟨hBr'.out, (fun h => by rw [hs.out] at h; cases h), fun L' u' h => by rw [hs.out] at h; cases h; exact ⟨_, rfl, ho.out⟩⟩
end Go.Proofs.Ytegffpjhdodldaa

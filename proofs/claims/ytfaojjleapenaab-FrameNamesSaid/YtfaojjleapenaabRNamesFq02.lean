/- Texts that the row stands on, part 2. -/
import Derived.Test.YtfaojjleapenaabRNamesFq01
namespace Go.Proofs.Ytfaojjleapenaab
open Go.RowKit Go.Ytfaojjleapenaab
set_option linter.unusedVariables false
theorem ownNe {B : Nat} {E T : TypeId} {w : World} {v : Value} {l : List Int} (h : OwnB B E w v l) {g : Nat} {cs : Array Value} {fr : Nat × Nat} (hg : w.heap[g]? = some (.cells cs T fr)) (hT : T ≠ E) : some g ≠ v.ownBlock := by
  rcases h.2 with ⟨rfl, _⟩ | ⟨k, cap, cur, rfl, hb, hk, _⟩
  · intro e; cases e
  · intro e
    simp only [Value.ownBlock, Option.some.injEq] at e
    subst e
    rw [hg] at hk
    injection hk with hk
    injection hk with _ h2 _
    exact hT h2
theorem own_setCell {B : Nat} {E T : TypeId} {w : World} {v : Value} {l : List Int} (h : OwnB B E w v l) {g : Nat} {cs : Array Value} (hg : w.heap[g]? = some (.cells cs T (0, 0))) (hT : T ≠ E) (i : Nat) (x : Value) : OwnB B E (w.setCell ⟨g, i, none⟩ x) v l := by
  have hne := ownNe h hg hT
  rw [setCell_eq hg]
  refine ⟨h.1, ?_⟩
  rcases h.2 with hn | ⟨k, cap, cur, rfl, hb, hk, rest⟩
  · exact .inl hn
  · refine .inr ⟨k, cap, cur, rfl, hb, (setRow_other w g k _ ?_).trans hk, rest⟩
    intro e
    exact hne (by rw [← e]; rfl)
theorem run_makeLs (w : World) (k : IntKind) (n : Nat) (hn : n ≤ 1000) : (Instr.makeSlice 24 (.int k (n : Int)) (.int k (n : Int))).run Try.prog w = .ok (.slice (some ⟨w.heap.size, 0, none⟩) n n) (w.alloc (.cells (madeCells #[.slice none 0 0] n) 29)) := by
  obtain ⟨i, hi, hz, hs, hb⟩ := info_parts (show (Try.prog.info? 29).map (fun i => (i.zero, i.size, i.bytes)) = some (some (.slice none 0 0), 1, 24) by kernel_rfl)
  have h := run_make (P := Try.prog) w 24 29 i (.slice none 0 0) Try.underlying24 hi hz k k (n : Int) (n : Int) (by omega) (by omega) (by rw [hb]; omega) (by omega)
  rw [h, hs]
  simp only [Int.toNat_natCast, Nat.mul_one, Value.cells]
/-- The row of a slice of strings, the first k of which are there. -/
def StrRow (B g n k : Nat) (T8 TS : TypeId) (w : World) (L : List (List Int)) : Prop :=
  ∃ vs : List Value, vs.length = k ∧ L.length = k ∧ w.heap[g]? = some (.cells (vs ++ List.replicate (n - k) (Value.slice none 0 0)).toArray TS (0, 0)) ∧ ∀ i, i < k → ∃ s, vs[i]? = some s ∧ OwnB B T8 w s (nthL L i)
theorem strRow_zero (B n : Nat) (T8 TS : TypeId) (w : World) : StrRow B w.heap.size n 0 T8 TS (w.alloc (.cells (madeCells #[.slice none 0 0] n) TS)) [] := by
  refine ⟨[], rfl, rfl, ?_, fun i hi => absurd hi (Nat.not_lt_zero _)⟩
  rw [heap_alloc_new, Nat.sub_zero, List.nil_append]
  congr 2
  apply Array.ext'
  rw [toList_madeCells_one]
theorem strRow_kept {B g n k : Nat} {T8 TS : TypeId} {w w' : World} {L : List (List Int)} (h : StrRow B g n k T8 TS w L) (hb : Below w.heap.size w w') : StrRow B g n k T8 TS w' L := by
  obtain ⟨vs, h1, h2, h3, h4⟩ := h
  refine ⟨vs, h1, h2, rowB h3 hb (Array.getElem?_eq_some_iff.1 h3).1, fun i hi => ?_⟩
  obtain ⟨s, k1, k2⟩ := h4 i hi
  exact ⟨s, k1, k2.kept hb⟩
theorem strRow_set {B g n k : Nat} {T8 TS : TypeId} {w : World} {L : List (List Int)} (h : StrRow B g n k T8 TS w L) (hk : k < n) (hT : TS ≠ T8) {s : Value} {l : List Int} (hs : OwnB B T8 w s l) : StrRow B g n (k + 1) T8 TS (w.setCell ⟨g, k, none⟩ s) (L ++ [l]) := by
  obtain ⟨vs, h1, h2, h3, h4⟩ := h
  refine ⟨vs ++ [s], by simp [h1], by simp [h2], ?_, fun i hi => ?_⟩
  · rw [setCell_row h3 k s]
    congr 2
    apply Array.ext'
    rw [Array.toList_setIfInBounds, List.set_append_right _ _ (by omega), h1, Nat.sub_self, show n - k = (n - (k + 1)) + 1 by omega, List.replicate_succ, List.set_cons_zero, List.append_assoc, List.singleton_append]
  · rcases Nat.lt_or_ge i k with h5 | h5
    · obtain ⟨x, k1, k2⟩ := h4 i h5
      refine ⟨x, by rw [List.getElem?_append_left (by omega)]; exact k1, ?_⟩
      rw [nthL_pre _ _ _ (by omega)]
      exact own_setCell k2 h3 hT k s
    · obtain rfl : i = k := by omega
      refine ⟨s, by rw [← h1]; simp, ?_⟩
      rw [show nthL (L ++ [l]) i = l by rw [← h2]; exact nthL_last L l]
      exact own_setCell hs h3 hT i s
theorem strRow_own {B g n : Nat} {T8 TS : TypeId} {w : World} {L : List (List Int)} (h : StrRow B g n n T8 TS w L) (hB : B ≤ g) (hn : n ≤ 1000) : OwnL B T8 TS w (.slice (some ⟨g, 0, none⟩) n n) L := by
  obtain ⟨vs, h1, h2, h3, h4⟩ := h
  refine ⟨vs, h1.trans h2.symm, ⟨by simp, .inr ⟨g, n, _, by rw [h1], hB, h3, by omega, by unfold maxLen; omega, by simp [h1], ?_⟩⟩, fun i hi => h4 i (by omega)⟩
  rw [Nat.mul_one, Nat.sub_self, List.replicate_zero, List.append_nil, List.take_length]
theorem strRow_cell {B g n k : Nat} {T8 TS : TypeId} {w : World} {L : List (List Int)} (h : StrRow B g n k T8 TS w L) (hk : k < n) : w.cell? ⟨g, k, none⟩ = some (.slice none 0 0) ∧ w.frozen? ⟨g, k, none⟩ = false := by
  obtain ⟨vs, h1, h2, h3, h4⟩ := h
  refine ⟨?_, frozen_of_row _ _ k _ _ h3⟩
  rw [cell_of_row _ _ _ _ _ _ h3, List.getElem?_toArray, List.getElem?_append_right (by omega), List.getElem?_replicate, if_pos (by omega)]
theorem rdB_from {w : World} {b o n c : Nat} {l : List Int} (h : RdB w (.slice (some ⟨b, o, none⟩) n c) l) (hn : l.length = n) (U : Nat) (hU : U ≤ n) :
    (c = U → RdB w (.slice (some ⟨b, o, none⟩) 0 0) (l.drop U)) ∧ (¬ c = U → RdB w (.slice (some ⟨b, o + U, none⟩) (n - U) (c - U)) (l.drop U)) := by
  rcases h with ⟨a', c', e, h1, rfl⟩ | ⟨b', o', c', e, h1, h2, h3, h4⟩
  · cases e
    obtain rfl : U = 0 := by omega
    exact ⟨fun _ => .inl ⟨_, _, rfl, (fun h => by cases h), rfl⟩, fun _ => .inl ⟨_, _, rfl, (fun h => by cases h), rfl⟩⟩
  · cases e
    have hl : (l.drop U).length = l.length - U := List.length_drop
    refine ⟨fun hc => ?_, fun hc => .inr ⟨b, o + U, c - U, by rw [hl], by rw [hl]; omega, by unfold maxLen at *; omega, h3, fun i hi => ?_⟩⟩
    · subst hc
      exact .inl ⟨_, _, rfl, (fun h => by cases h), List.drop_eq_nil_of_le (by omega)⟩
    · rw [hl] at hi
      rw [ith_drop, Nat.add_assoc]
      exact h4 (U + i) (by omega)
def strPost (w : World) (b : List Int) (e : Ending) (w' : World) : Prop :=
  Below w.heap.size w w' ∧ (readS b = none → e = .returned (.tuple #[.slice none 0 0, .int .i64 0, .int .i64 12])) ∧ ∀ L u, readS b = some (L, u) → ∃ v, e = .returned (.tuple #[v, .int .i64 ((u : Nat) : Int), .int .i64 0]) ∧ OwnL w.heap.size 5 29 w' v L
theorem readS_no {b : List Int} (h : readF b = none) : readS b = none := by unfold readS; rw [h]
theorem readS_many {b : List Int} {n u : Nat} (h : readF b = some (n, u)) (h8 : 8 < n) : readS b = none := by unfold readS; rw [h]; exact if_pos h8
theorem readS_gone {b : List Int} {n u : Nat} (h : readF b = some (n, u)) (h8 : ¬ 8 < n) (ht : readT (b.drop u) n = none) : readS b = none := by
  unfold readS; rw [h]; simp only; rw [if_neg h8, ht]
theorem readS_yes {b : List Int} {n u v : Nat} {L : List (List Int)} (h : readF b = some (n, u)) (h8 : ¬ 8 < n) (ht : readT (b.drop u) n = some (L, v)) : readS b = some (L, u + v) := by
  unfold readS; rw [h]; simp only; rw [if_neg h8, ht]
set_option maxHeartbeats 2000000 in
set_option maxRecDepth 100000 in
theorem readStrings_any (b : List Int) (bv : Value) (w : World) (hr : RdB w bv b) (hb : Bytes b) (hl : b.length ≤ 100000) :
    Calls Try.prog 46 #[bv] w (strPost w b) := by
  have hn := readNumber_any b bv w hr hb
  cases hre : readF b with
  | none =>
    obtain ⟨e1, e2, e3⟩ := rd_none hre
    rw [e1, e2, e3] at hn
    have hs := Lib.hid (readS_no hre)
    have hn' := Lib.hid hn
    obtain ⟨a, c, rfl⟩ := hr.slice
    generalize hp : strPost w b = PO at *
    have hp' := Lib.hid hp
    clear hn hr hb hl hre e1 e2 e3 hp
    generalize b.length = NB at *
    go_enter Try.func46, Try.ntmps46
    go_wp2_with (go_at_call 44; (with_reducible refine (hn'.out).mono ?_); rintro e w1 ⟨rfl, rfl⟩)
    rw [← hp'.out]
    exact ⟨Below.refl _ _, fun _ => rfl, fun L u h => by rw [hs.out] at h; cases h⟩
  | some p =>
    obtain ⟨n, u⟩ := p
    obtain ⟨e1, e2, e3⟩ := rd_some hre
    obtain ⟨hn64, hu, hul, _⟩ := readF_some hb hre
    rw [e1, e2, e3] at hn
    have hn' := Lib.hid hn
    by_cases h8 : 8 < n
    · have hs := Lib.hid (readS_many hre h8)
      obtain ⟨a, c, rfl⟩ := hr.slice
      generalize hp : strPost w b = PO at *
      have hp' := Lib.hid hp
      clear hn hr hb hl hre e1 e2 e3 hp hul hu
      generalize b.length = NB at *
      go_enter Try.func46, Try.ntmps46
      go_wp2_with (go_at_call 44; (with_reducible refine (hn'.out).mono ?_); rintro e w1 ⟨rfl, rfl⟩)
      rw [← hp'.out]
      exact ⟨Below.refl _ _, fun _ => rfl, fun L u h => by rw [hs.out] at h; cases h⟩
    · have hu1 := numL_pos n
      rw [← hu] at hu1
      rcases hr with ⟨a, c, rfl, _, rfl⟩ | ⟨bb, o, c, rfl, r1, r2, r3, r4⟩
      · simp at hul; omega
      have hrd : RdB w (.slice (some ⟨bb, o, none⟩) b.length c) b := .inr ⟨bb, o, c, rfl, r1, r2, r3, r4⟩
      have hrd' := Lib.hid hrd
      have hgone := Lib.hid (fun h => readS_gone hre h8 h)
      have hyes := Lib.hid (fun L v h => readS_yes (L := L) (v := v) hre h8 h)
      have hgo := Lib.hid (fun (k : Nat) (h : readT (b.drop u) k = none) (hk : k ≤ n) => readT_gone h n hk)
      have hbu := Lib.hid (bytes_drop b u hb)
      have hbb := Lib.hid hb
      have hback := Lib.hid (fun k L x h => readT_back (bytes_drop b u hb) k L x h)
      obtain ⟨NB, hNB⟩ : ∃ NB, b.length = NB := ⟨_, rfl⟩
      have hNB' := Lib.hid hNB
      rw [hNB] at hn' hrd' hl hul r1 ⊢
      have hmk := fun (wx : World) => run_makeLs wx .u64 n (by omega)
      have hz0 := Lib.hid (strRow_zero w.heap.size n 5 29 w)
      have hB0 := Lib.hid (below_a w (.cells (madeCells #[.slice none 0 0] n) 29))
      generalize hp : strPost w b = PO at *
      have hp' := Lib.hid hp
      have h8' : (n : Int) ≤ 8 := by omega
      clear hn hrd hb hre e1 e2 e3 hp hNB r4 hu
      unfold maxLen at r2
      go_enter Try.func46, Try.ntmps46
      go_wp2_with (go_at_call 44; (with_reducible refine (hn'.out).mono ?_); rintro e w1 ⟨rfl, rfl⟩)
      generalize hW : w.alloc (.cells (madeCells #[.slice none 0 0] n) 29) = W at *
      have hW' := Lib.hid hW
      clear hW hmk
      go_loopw [6, 29] (fun x i wr => ∃ (k v : Nat) (L : List (List Int)), k ≤ n ∧ i = .int .i64 k ∧ x = .int .i64 ((u + v : Nat) : Int) ∧ readT (b.drop u) k = some (L, v) ∧ Below w.heap.size w wr ∧ w.heap.size < wr.heap.size ∧ StrRow w.heap.size w.heap.size n k 5 29 wr L) (fun _ i _ => n - (intOf i).toNat)
      case atStart => exact ⟨0, 0, [], Nat.zero_le _, rfl, rfl, rfl, hB0.out, by rw [← hW'.out]; simp, hz0.out⟩
      case round =>
        obtain ⟨k, v, L, hk, rfl, rfl, hT, hBr, hgs, hS⟩ := hrel
        obtain ⟨b1, b2, _, b4, _⟩ := hback.out k L v hT
        rw [List.length_drop, hNB'.out] at b2
        have hBr' := Lib.hid hBr
        have hS' := Lib.hid hS
        have hT' := Lib.hid hT
        by_cases hlt : k < n
        · obtain ⟨U, hU⟩ : ∃ U, u + v = U := ⟨_, rfl⟩
          have hdd : (b.drop u).drop v = b.drop U := by rw [List.drop_drop, hU]
          have hUn : U ≤ NB := by omega
          have hrr := rdB_from (hrd'.out.mono hBr) hNB'.out U hUn
          have hbd := bytes_drop b U hbb.out
          have hdl : (b.drop U).length ≤ 1000000 := by rw [List.length_drop, hNB'.out]; omega
          have hUh := Lib.hid hU
          rw [hU]
          cases hq : readC (b.drop U) 400 1 with
          | none =>
            have hs := Lib.hid (hgone.out (hgo.out (k + 1) (readT_none hT (by rw [hdd]; exact hq)) (by omega)))
            have hno := Lib.hid (fun bv (h : RdB wr bv (b.drop U)) => readBytes_no (b.drop U) bv 400 (by decide) (by decide) wr h hbd hdl hq)
            clear hBr hS hT hq hbd hdl hdd hU b1 b2 b4 hgone hyes hgo hback
            rcases Decidable.em (c = U) with rfl | hcU
            · have hr1 := Lib.hid (hrr.1 rfl)
              clear hrr
              go_wp2_with (go_at_call 51; (with_reducible refine (hno.out _ hr1.out).mono ?_); rintro e w1 ⟨rfl, rfl⟩)
              rw [← hp'.out]
              exact ⟨hBr'.out, fun _ => rfl, fun L u h => by rw [hs.out] at h; cases h⟩
            · have hr1 := Lib.hid (hrr.2 hcU)
              clear hrr
              go_wp2_with (go_at_call 51; (with_reducible refine (hno.out _ hr1.out).mono ?_); rintro e w1 ⟨rfl, rfl⟩)
              rw [← hp'.out]
              exact ⟨hBr'.out, fun _ => rfl, fun L u h => by rw [hs.out] at h; cases h⟩
          | some q =>
            obtain ⟨m, x⟩ := q
            have hT1 := Lib.hid (readT_step hT (by rw [hdd]; exact hq))
            rw [hdd] at hT1
            obtain ⟨r1', r2', r3', r4', r5'⟩ := readC_backG hbd hq
            have hok := Lib.hid (fun bv (h : RdB wr bv (b.drop U)) => readBytes_ok (b.drop U) bv 400 (by decide) (by decide) wr h hbd hdl m x hq)
            rw [List.length_drop, hNB'.out] at r4'
            obtain ⟨V, hV⟩ : ∃ V, x + m = V := ⟨_, rfl⟩
            rw [hV] at hok hT1 r4'
            have hl1 := Lib.hid r2'
            generalize ((b.drop U).drop x).take m = l1 at *
            have hwr : IntKind.i64.wrap ((U : Int) + (V : Int)) = (U : Int) + (V : Int) := IntWalk.i64_in _ (by omega)
            have hfin := Lib.hid (show ((U : Int) + (V : Int)) = ((u + (v + V) : Nat) : Int) by omega)
            have hm4 : m ≤ 400 := by omega
            clear hBr hS hT hq hbd hdl hdd hU hgone hyes hgo hback r1' r2' r3' r5' hV b1 b2 b4
            have hnext := Lib.hid (fun (w1 : World) (h : StrRow w.heap.size w.heap.size n k 5 29 w1 L) (hr : w1.heap[wr.heap.size]? = some (.cells (u8s l1) 5 (0, 0))) => strRow_set h hlt (by decide) (ownB_row hr m hl1.out (by unfold maxLen; omega) (Nat.le_of_lt hgs)))
            rcases Decidable.em (c = U) with rfl | hcU
            · have hr1 := Lib.hid (hrr.1 rfl)
              clear hrr
              go_wp2_with (go_at_call 51; (with_reducible refine (hok.out _ hr1.out).mono ?_); rintro e w1 ⟨rfl, q1, q2⟩; have hz1 := q2.size; have hS1 := Lib.hid (strRow_kept hS'.out q2); have hB1 := Lib.hid (hBr'.out.trans (q2.mono hBr'.out.size)); have hq1 := Lib.hid q1; obtain ⟨hc1, hf1⟩ := strRow_cell hS1.out hlt; clear q1 q2)
              go_roundw
              case rel => exact ⟨k + 1, v + V, L ++ [l1], by omega, by go_num, by rw [hfin.out], hT1.out, hB1.out.setCell (Nat.le_refl _) _, by simpa [World.setCell] using Nat.lt_of_lt_of_le hgs hz1, hnext.out _ hS1.out hq1.out⟩
              case measure => simp [intOf]; omega
            · have hr1 := Lib.hid (hrr.2 hcU)
              clear hrr
              go_wp2_with (go_at_call 51; (with_reducible refine (hok.out _ hr1.out).mono ?_); rintro e w1 ⟨rfl, q1, q2⟩; have hz1 := q2.size; have hS1 := Lib.hid (strRow_kept hS'.out q2); have hB1 := Lib.hid (hBr'.out.trans (q2.mono hBr'.out.size)); have hq1 := Lib.hid q1; obtain ⟨hc1, hf1⟩ := strRow_cell hS1.out hlt; clear q1 q2)
              go_roundw
              case rel => exact ⟨k + 1, v + V, L ++ [l1], by omega, by go_num, by rw [hfin.out], hT1.out, hB1.out.setCell (Nat.le_refl _) _, by simpa [World.setCell] using Nat.lt_of_lt_of_le hgs hz1, hnext.out _ hS1.out hq1.out⟩
              case measure => simp [intOf]; omega
        · obtain rfl : k = n := by omega
          have hs := Lib.hid (hyes.out L v hT)
          have ho := Lib.hid (strRow_own hS (Nat.le_refl _) (by omega))
          go_wp2
          rw [← hp'.out]
          exact ⟨hBr'.out, (fun h => by rw [hs.out] at h; cases h), fun L' u' h => by rw [hs.out] at h; cases h; exact ⟨_, rfl, ho.out⟩⟩
end Go.Proofs.Ytfaojjleapenaab
namespace Go.Proofs.Ytfaojjleapenaab
open Go.RowKit Go.Ytfaojjleapenaab
set_option linter.unusedVariables false
theorem results_row_tmp2 {P : Program} {fn : Func} {p u v : Tmp} {ty : TypeId} (h : fn.results = #[.cell p ty, .tmp u, .tmp v]) (tmps : Array Value) (w : World) (g : Nat) (t : TypeId) (cs : Array Value) (fr : Nat × Nat) (d : TypeDesc)
    (hp : tmps.getD p undef = .pointer (some ⟨g, 0, none⟩)) (hg : w.heap[g]? = some (.cells cs t fr))
    (hu : P.underlying ty = some d) (hd : (match d with | .struct _ | .array _ _ => true | _ => false) = true) (hi : (P.info? ty).map (·.size) = some cs.size) :
    (results fn tmps).run P w = .ok (.tuple #[.agg cs, tmps.getD u undef, tmps.getD v undef]) w := by
  have hc : (results fn tmps).run P w =
      ((asAddr (tmps.getD p undef)).run P w).andThen fun a w₁ => ((loadVar ty a).run P w₁).andThen fun x w₂ => .ok (.tuple #[x, tmps.getD u undef, tmps.getD v undef]) w₂ := by
    simp only [results, h]
    simp [Sem.run_bind, Result.andThen]
  rw [hc, hp]
  have hl := run_loadVar_row (P := P) w g t ty cs fr d hg hu hd hi
  simp [asAddr, hl]
/-- The frame of a kind that has nothing. -/
def kF (k : Int) : Fr := ⟨k, 0, 0, [], []⟩
theorem fr_one (f : Fr) (a a' : Option Addr) (n n' c c' : Nat) : (f.c (.slice a n c) (.slice a' n' c')).all (·.oneCell') = true := by simp [Fr.c, Value.oneCell']
theorem setN {w : World} {g : Nat} {k : Int} {iv ov : Value} (h : w.heap[g]? = some (.cells ((kF k).c iv ov) 26 (0, 0))) (N : Nat) :
    w.setCell ⟨g, 1, none⟩ (.int .u64 (N : Int)) = w.setRow g ((⟨k, N, 0, [], []⟩ : Fr).c iv ov) := setCell_eq h 1 (.int .u64 (N : Int))
theorem setI {w : World} {g : Nat} {k : Int} {iv ov : Value} (h : w.heap[g]? = some (.cells ((kF k).c iv ov) 26 (0, 0))) (x : Value) (n : Nat) (F : List Int) :
    w.setCell ⟨g, 2, none⟩ x = w.setRow g ((⟨k, 0, n, F, []⟩ : Fr).c x ov) := setCell_eq h 2 x
theorem setO {w : World} {g : Nat} {k : Int} {iv ov : Value} (h : w.heap[g]? = some (.cells ((kF k).c iv ov) 26 (0, 0))) (x : Value) (L : List (List Int)) :
    w.setCell ⟨g, 3, none⟩ x = w.setRow g ((⟨k, 0, 0, [], L⟩ : Fr).c iv x) := setCell_eq h 3 x
/-- The world has these rows: two frames, behind what was there. -/
def readPost (w : World) (k : Int) (b : List Int) (e : Ending) (w' : World) : Prop :=
  Below w.heap.size w w' ∧ (readR k b = none → e = .returned (.tuple #[.agg ((kF k).c (.slice none 0 0) (.slice none 0 0)), .int .i64 0, .int .i64 12])) ∧
    ∀ f u, readR k b = some (f, u) → ∃ iv ov, e = .returned (.tuple #[.agg (f.c iv ov), .int .i64 ((u : Nat) : Int), .int .i64 0]) ∧ HeldI w.heap.size w' iv f.n f.F ∧ HeldS w.heap.size w' ov f.L
theorem readR_num {k : Int} (h : numK k = true) (b : List Int) : readR k b = (match readF b with
    | none => none
    | some p => some (⟨k, p.1, 0, [], []⟩, p.2)) := if_pos h
theorem readR_ids {k : Int} (h : numK k = false) (h2 : idsK k = true) (b : List Int) : readR k b = (match readC b 40 32 with
    | none => none
    | some p => if riseF ((b.drop p.2).take (p.1 * 32)) p.1 = true then some (⟨k, 0, p.1, (b.drop p.2).take (p.1 * 32), []⟩, p.2 + p.1 * 32) else none) := by
  unfold readR
  rw [if_neg (by rw [h]; decide), if_pos h2]
  rfl
theorem readR_ops {k : Int} (h : numK k = false) (h2 : idsK k = false) (h5 : k = 5) (b : List Int) : readR k b = (match readS b with
    | none => none
    | some q => some (⟨k, 0, 0, [], q.1⟩, q.2)) := by
  unfold readR
  rw [if_neg (by rw [h]; decide), if_neg (by rw [h2]; decide), if_pos h5]
  rfl
theorem readR_else {k : Int} (h : numK k = false) (h2 : idsK k = false) (h5 : ¬ k = 5) (b : List Int) : readR k b = none := by
  unfold readR
  rw [if_neg (by rw [h]; decide), if_neg (by rw [h2]; decide), if_neg h5]
theorem held_setRow {B g : Nat} {w : World} {v : Value} {n : Nat} {F : List Int} (h : HeldI B w v n F) (hg : g < B) (cs : Array Value) : HeldI B (w.setRow g cs) v n F := fun wx h1 h2 =>
  h wx (fun k k1 k2 => (h1 k k1 (by simpa [World.setRow] using k2)).trans (setRow_other w g k cs (by omega))) (by simpa [World.setRow] using h2)
theorem heldS_setRow {B g : Nat} {w : World} {v : Value} {L : List (List Int)} (h : HeldS B w v L) (hg : g < B) (cs : Array Value) : HeldS B (w.setRow g cs) v L := fun wx h1 h2 =>
  h wx (fun k k1 k2 => (h1 k k1 (by simpa [World.setRow] using k2)).trans (setRow_other w g k cs (by omega))) (by simpa [World.setRow] using h2)
set_option maxHeartbeats 4000000 in
set_option maxRecDepth 100000 in
theorem read_any (k : Int) (b : List Int) (bv : Value) (w : World) (hr : RdB w bv b) (hb : Bytes b) (hl : b.length ≤ 100000) :
    Calls Try.prog 39 #[.int .u8 k, bv] w (readPost w k b) := by
  obtain ⟨W, hW⟩ : ∃ W, W = (w.alloc (.cells ((kF 0).c (.slice none 0 0) (.slice none 0 0)) 26)).alloc (.cells ((kF k).c (.slice none 0 0) (.slice none 0 0)) 26) := ⟨_, rfl⟩
  have hr0 : W.heap[w.heap.size]? = some (.cells ((kF 0).c (.slice none 0 0) (.slice none 0 0)) 26 (0, 0)) := by rw [hW]; exact rowB (heap_alloc_new w _) (below_a _ _) (by simp)
  have hr1 : W.heap[w.heap.size + 1]? = some (.cells ((kF k).c (.slice none 0 0) (.slice none 0 0)) 26 (0, 0)) := by rw [hW]; exact hn2 w _ _
  have hb0 : Below w.heap.size w W := by rw [hW]; exact ((Below.refl w.heap.size w).alloc (Nat.le_refl _) _).alloc (by simp) _
  have hsz : W.heap.size = w.heap.size + 2 := by rw [hW]; simp
  obtain ⟨ba, bc, rfl⟩ := hr.slice
  have hB := Lib.hid hb0
  have hs := Lib.hid hr0
  have hf := Lib.hid hr1
  have hrb := Lib.hid (hr.mono hb0)
  have hszh := Lib.hid hsz
  have hK := Lib.hid (fun wz => hasNumber_any k wz)
  have hD := Lib.hid (fun wz => hasIDs_any k wz)
  have hbb := Lib.hid hb
  have hlb := Lib.hid hl
  have p1 := Lib.hid (fun h => readR_num (k := k) h b)
  have p2 := Lib.hid (fun h h2 => readR_ids (k := k) h h2 b)
  have p3 := Lib.hid (fun h h2 h5 => readR_ops (k := k) h h2 h5 b)
  have p4 := Lib.hid (fun h h2 h5 => readR_else (k := k) h h2 h5 b)
  obtain ⟨NB, hNB⟩ : ∃ NB, b.length = NB := ⟨_, rfl⟩
  rw [hNB] at hrb ⊢
  clear hr0 hr1 hb0 hsz hr hb hl hNB
  cases hk : numK k
  · rw [hk] at hK
    replace p2 := Lib.hid (p2.out hk)
    replace p3 := Lib.hid (p3.out hk)
    replace p4 := Lib.hid (p4.out hk)
    cases hd : idsK k
    · rw [hd] at hD
      replace p3 := Lib.hid (p3.out hd)
      replace p4 := Lib.hid (p4.out hd)
      clear p1 p2 hk hd
      by_cases h5 : k = 5
      · subst h5
        replace p3 := p3.out rfl
        have hS := Lib.hid (readStrings_any b _ W hrb.out hbb.out hlb.out)
        cases hre : readS b with
        | none =>
          rw [hre] at p3
          have hn := Lib.hid p3
          have hS2 := Lib.hid (hS.out.mono fun e w' h => (show e = .returned (.tuple #[.slice none 0 0, .int .i64 0, .int .i64 12]) ∧ Below W.heap.size W w' from ⟨h.2.1 hre, h.1⟩))
          clear hS p3 p4 hre
          go_enter Try.func39, Try.ntmps39
          go_upto_region 2 with fail
          change Code.wp _ _ _ _ ((w.alloc (.cells ((kF 0).c (.slice none 0 0) (.slice none 0 0)) 26)).alloc (.cells ((kF 5).c (.slice none 0 0) (.slice none 0 0)) 26))
          rw [← hW]
          clear hW
          go_upto_region 9 with (first | (go_at_call 29; (with_reducible refine (hK.out _).mono ?_); rintro e w2 ⟨rfl, rfl⟩) | (go_at_call 21; (with_reducible refine (hD.out _).mono ?_); rintro e w2 ⟨rfl, rfl⟩) | (go_at_call 46; (with_reducible refine (hS2.out).mono ?_); rintro e w3 ⟨rfl, q2⟩; have z3 := q2.size; replace hs := Lib.hid (rowB hs.out q2 (Array.getElem?_eq_some_iff.1 hs.out).1); replace hf := Lib.hid (rowB hf.out q2 (Array.getElem?_eq_some_iff.1 hf.out).1); replace hB := Lib.hid (hB.out.trans (q2.mono hB.out.size)); clear q2; have f1 := frozen_of_row _ (w.heap.size + 1) 1 _ _ hf.out; have f2 := frozen_of_row _ (w.heap.size + 1) 2 _ _ hf.out; have f3 := frozen_of_row _ (w.heap.size + 1) 3 _ _ hf.out; obtain ⟨_, d1, d2, d3⟩ := cellsF hf.out))
          rw [setO hf.out (.slice none 0 0) []]
          replace hs := Lib.hid ((setRow_other _ (w.heap.size + 1) w.heap.size ((⟨5, 0, 0, [], []⟩ : Fr).c (.slice none 0 0) (.slice none 0 0)) (by omega)).trans hs.out)
          replace hf := Lib.hid (setRow_heap _ (w.heap.size + 1) _ ((⟨5, 0, 0, [], []⟩ : Fr).c (.slice none 0 0) (.slice none 0 0)) _ _ hf.out)
          replace hB := Lib.hid (below_setRow' hB.out (Nat.le_succ w.heap.size) ((⟨5, 0, 0, [], []⟩ : Fr).c (.slice none 0 0) (.slice none 0 0)))
          clear f1 f2 f3 d1 d2 d3
          go_wp2_with (first
            | (refine wpList_load_row_g rfl 26 _ rfl (w.heap.size + 1) rfl 26 ((⟨5, 0, 0, [], []⟩ : Fr).c (.slice none 0 0) (.slice none 0 0)) (0, 0) _ hf.out Try.underlying26 rfl info_frame ?_)
            | (refine wpList_store_row rfl 26 _ _ rfl w.heap.size ((⟨5, 0, 0, [], []⟩ : Fr).c (.slice none 0 0) (.slice none 0 0)) rfl rfl 26 _ hs.out info_frame rfl (fr_one _ _ _ _ _ _ _) ?_))
          refine bodyPost_ret (results_row_tmp2 rfl _ _ w.heap.size 26 _ _ _ rfl (setRow_heap _ _ _ _ _ _ hs.out) Try.underlying26 rfl info_frame) rfl ?_
          exact ⟨below_setRow' hB.out (Nat.le_refl _) _, fun _ => rfl, fun f u h => by rw [hn.out] at h; cases h⟩
        | some q =>
          obtain ⟨L, u⟩ := q
          rw [hre] at p3
          have hn := Lib.hid p3
          have hS2 := Lib.hid (hS.out.mono fun e w' h => (show ∃ v, e = .returned (.tuple #[v, .int .i64 ((u : Nat) : Int), .int .i64 0]) ∧ HeldS W.heap.size w' v L ∧ Below W.heap.size W w' from by obtain ⟨v, h1, h2⟩ := h.2.2 L u hre; exact ⟨v, h1, h2.held, h.1⟩))
          clear hS p3 p4 hre
          obtain ⟨M, hM⟩ : ∃ M, L.length = M := ⟨_, rfl⟩
          have hMh := Lib.hid hM
          clear hM
          go_enter Try.func39, Try.ntmps39
          go_upto_region 2 with fail
          change Code.wp _ _ _ _ ((w.alloc (.cells ((kF 0).c (.slice none 0 0) (.slice none 0 0)) 26)).alloc (.cells ((kF 5).c (.slice none 0 0) (.slice none 0 0)) 26))
          rw [← hW]
          clear hW
          go_upto_region 9 with (first | (go_at_call 29; (with_reducible refine (hK.out _).mono ?_); rintro e w2 ⟨rfl, rfl⟩) | (go_at_call 21; (with_reducible refine (hD.out _).mono ?_); rintro e w2 ⟨rfl, rfl⟩) | (go_at_call 46; (with_reducible refine (hS2.out).mono ?_); rintro e w3 ⟨v, rfl, q1, q2⟩; have hH := Lib.hid q1; obtain ⟨va, vc, hv⟩ := (heldS_rd q1).slice; subst hv; have z3 := q2.size; replace hs := Lib.hid (rowB hs.out q2 (Array.getElem?_eq_some_iff.1 hs.out).1); replace hf := Lib.hid (rowB hf.out q2 (Array.getElem?_eq_some_iff.1 hf.out).1); replace hB := Lib.hid (hB.out.trans (q2.mono hB.out.size)); clear q2; have f1 := frozen_of_row _ (w.heap.size + 1) 1 _ _ hf.out; have f2 := frozen_of_row _ (w.heap.size + 1) 2 _ _ hf.out; have f3 := frozen_of_row _ (w.heap.size + 1) 3 _ _ hf.out; obtain ⟨_, d1, d2, d3⟩ := cellsF hf.out; clear q1))
          rw [setO hf.out (.slice va L.length vc) L]
          replace hs := Lib.hid ((setRow_other _ (w.heap.size + 1) w.heap.size ((⟨5, 0, 0, [], L⟩ : Fr).c (.slice none 0 0) (.slice va L.length vc)) (by omega)).trans hs.out)
          replace hf := Lib.hid (setRow_heap _ (w.heap.size + 1) _ ((⟨5, 0, 0, [], L⟩ : Fr).c (.slice none 0 0) (.slice va L.length vc)) _ _ hf.out)
          replace hB := Lib.hid (below_setRow' hB.out (Nat.le_succ w.heap.size) ((⟨5, 0, 0, [], L⟩ : Fr).c (.slice none 0 0) (.slice va L.length vc)))
          clear f1 f2 f3 d1 d2 d3
          go_wp2_with (first
            | (refine wpList_load_row_g rfl 26 _ rfl (w.heap.size + 1) rfl 26 ((⟨5, 0, 0, [], L⟩ : Fr).c (.slice none 0 0) (.slice va L.length vc)) (0, 0) _ hf.out Try.underlying26 rfl info_frame ?_)
            | (refine wpList_store_row rfl 26 _ _ rfl w.heap.size ((⟨5, 0, 0, [], L⟩ : Fr).c (.slice none 0 0) (.slice va L.length vc)) rfl rfl 26 _ hs.out info_frame rfl (fr_one _ _ _ _ _ _ _) ?_))
          refine bodyPost_ret (results_row_tmp2 rfl _ _ w.heap.size 26 _ _ _ rfl (setRow_heap _ _ _ _ _ _ hs.out) Try.underlying26 rfl info_frame) rfl ?_
          exact ⟨below_setRow' hB.out (Nat.le_refl _) _, (fun h => by rw [hn.out] at h; cases h), fun f u' h => by
            rw [hn.out] at h
            obtain ⟨e1, e2⟩ := Prod.mk.inj (Option.some.inj h)
            subst e1 e2
            exact ⟨_, _, rfl, heldI_nil _ _, heldS_lower (heldS_setRow (heldS_setRow hH.out (by have := hszh.out; omega) _) (by have := hszh.out; omega) _) (by have := hszh.out; omega)⟩⟩
      · have hn := Lib.hid (p4.out h5)
        clear p3 p4
        go_enter Try.func39, Try.ntmps39
        go_upto_region 2 with fail
        change Code.wp _ _ _ _ ((w.alloc (.cells ((kF 0).c (.slice none 0 0) (.slice none 0 0)) 26)).alloc (.cells ((kF k).c (.slice none 0 0) (.slice none 0 0)) 26))
        rw [← hW]
        clear hW
        go_upto_region 9 with (first | (go_at_call 29; (with_reducible refine (hK.out _).mono ?_); rintro e w2 ⟨rfl, rfl⟩) | (go_at_call 21; (with_reducible refine (hD.out _).mono ?_); rintro e w2 ⟨rfl, rfl⟩))
        go_wp2_with (first
          | (refine wpList_load_row_g rfl 26 _ rfl (w.heap.size + 1) rfl 26 ((kF k).c (.slice none 0 0) (.slice none 0 0)) (0, 0) _ hf.out Try.underlying26 rfl info_frame ?_)
          | (refine wpList_store_row rfl 26 _ _ rfl w.heap.size ((kF k).c (.slice none 0 0) (.slice none 0 0)) rfl rfl 26 _ hs.out info_frame rfl (fr_one _ _ _ _ _ _ _) ?_))
        refine bodyPost_ret (results_row_tmp2 rfl _ _ w.heap.size 26 _ _ _ rfl (setRow_heap _ _ _ _ _ _ hs.out) Try.underlying26 rfl info_frame) rfl ?_
        exact ⟨below_setRow' hB.out (Nat.le_refl _) _, fun _ => rfl, fun f u h => by rw [hn.out] at h; cases h⟩
    · rw [hd] at hD
      replace p2 := p2.out hd
      clear p1 p3 p4 hk hd
      cases hre : readC b 40 32 with
      | none =>
        rw [hre] at p2
        have hn := Lib.hid p2
        have hS2 := Lib.hid (readIDs_no b _ 40 (by decide) (by decide) W hrb.out hbb.out (by have := hlb.out; omega) hre)
        clear p2 hre
        go_enter Try.func39, Try.ntmps39
        go_upto_region 2 with fail
        change Code.wp _ _ _ _ ((w.alloc (.cells ((kF 0).c (.slice none 0 0) (.slice none 0 0)) 26)).alloc (.cells ((kF k).c (.slice none 0 0) (.slice none 0 0)) 26))
        rw [← hW]
        clear hW
        go_upto_region 9 with (first | (go_at_call 29; (with_reducible refine (hK.out _).mono ?_); rintro e w2 ⟨rfl, rfl⟩) | (go_at_call 21; (with_reducible refine (hD.out _).mono ?_); rintro e w2 ⟨rfl, rfl⟩) | (go_at_call 45; (with_reducible refine (hS2.out).mono ?_); rintro e w3 ⟨rfl, rfl⟩; have f1 := frozen_of_row _ (w.heap.size + 1) 1 _ _ hf.out; have f2 := frozen_of_row _ (w.heap.size + 1) 2 _ _ hf.out; have f3 := frozen_of_row _ (w.heap.size + 1) 3 _ _ hf.out; obtain ⟨_, d1, d2, d3⟩ := cellsF hf.out))
        rw [setI hf.out (.slice none 0 0) 0 []]
        replace hs := Lib.hid ((setRow_other _ (w.heap.size + 1) w.heap.size ((⟨k, 0, 0, [], []⟩ : Fr).c (.slice none 0 0) (.slice none 0 0)) (by omega)).trans hs.out)
        replace hf := Lib.hid (setRow_heap _ (w.heap.size + 1) _ ((⟨k, 0, 0, [], []⟩ : Fr).c (.slice none 0 0) (.slice none 0 0)) _ _ hf.out)
        replace hB := Lib.hid (below_setRow' hB.out (Nat.le_succ w.heap.size) ((⟨k, 0, 0, [], []⟩ : Fr).c (.slice none 0 0) (.slice none 0 0)))
        clear f1 f2 f3 d1 d2 d3
        go_wp2_with (first
          | (refine wpList_load_row_g rfl 26 _ rfl (w.heap.size + 1) rfl 26 ((⟨k, 0, 0, [], []⟩ : Fr).c (.slice none 0 0) (.slice none 0 0)) (0, 0) _ hf.out Try.underlying26 rfl info_frame ?_)
          | (refine wpList_store_row rfl 26 _ _ rfl w.heap.size ((⟨k, 0, 0, [], []⟩ : Fr).c (.slice none 0 0) (.slice none 0 0)) rfl rfl 26 _ hs.out info_frame rfl (fr_one _ _ _ _ _ _ _) ?_))
        refine bodyPost_ret (results_row_tmp2 rfl _ _ w.heap.size 26 _ _ _ rfl (setRow_heap _ _ _ _ _ _ hs.out) Try.underlying26 rfl info_frame) rfl ?_
        exact ⟨below_setRow' hB.out (Nat.le_refl _) _, fun _ => rfl, fun f u h => by rw [hn.out] at h; cases h⟩
      | some q =>
        obtain ⟨n, x⟩ := q
        rw [hre] at p2
        simp only at p2
        have hS := Lib.hid (readIDs_ok b _ 40 (by decide) (by decide) W hrb.out hbb.out (by have := hlb.out; omega) n x hre)
        obtain ⟨c1, c2, c3⟩ := readC_some hre
        obtain ⟨a1, a2, a3, a4⟩ := readF_some hbb.out c1
        have hlF := Lib.hid (show ((b.drop x).take (n * 32)).length = 32 * n by rw [List.length_take, List.length_drop]; omega)
        have hn40 : n ≤ 1000000 := by omega
        clear hre c1 c2 c3 a1 a2 a3 a4
        generalize (b.drop x).take (n * 32) = F at *
        generalize x + n * 32 = u at *
        cases hri : riseF F n
        · rw [hri, if_neg (by decide)] at p2
          have hn := Lib.hid p2
          have hS2 := Lib.hid (hS.out.mono fun e w' h => (show e = .returned (.tuple #[.slice none 0 0, .int .i64 0, .int .i64 12]) ∧ Below W.heap.size W w' from ⟨by have h2 := h.2; rw [hri, if_neg (by decide)] at h2; exact h2, h.1⟩))
          clear hS p2 hri
          go_enter Try.func39, Try.ntmps39
          go_upto_region 2 with fail
          change Code.wp _ _ _ _ ((w.alloc (.cells ((kF 0).c (.slice none 0 0) (.slice none 0 0)) 26)).alloc (.cells ((kF k).c (.slice none 0 0) (.slice none 0 0)) 26))
          rw [← hW]
          clear hW
          go_upto_region 9 with (first | (go_at_call 29; (with_reducible refine (hK.out _).mono ?_); rintro e w2 ⟨rfl, rfl⟩) | (go_at_call 21; (with_reducible refine (hD.out _).mono ?_); rintro e w2 ⟨rfl, rfl⟩) | (go_at_call 45; (with_reducible refine (hS2.out).mono ?_); rintro e w3 ⟨rfl, q2⟩; have z3 := q2.size; replace hs := Lib.hid (rowB hs.out q2 (Array.getElem?_eq_some_iff.1 hs.out).1); replace hf := Lib.hid (rowB hf.out q2 (Array.getElem?_eq_some_iff.1 hf.out).1); replace hB := Lib.hid (hB.out.trans (q2.mono hB.out.size)); clear q2; have f1 := frozen_of_row _ (w.heap.size + 1) 1 _ _ hf.out; have f2 := frozen_of_row _ (w.heap.size + 1) 2 _ _ hf.out; have f3 := frozen_of_row _ (w.heap.size + 1) 3 _ _ hf.out; obtain ⟨_, d1, d2, d3⟩ := cellsF hf.out))
          rw [setI hf.out (.slice none 0 0) 0 []]
          replace hs := Lib.hid ((setRow_other _ (w.heap.size + 1) w.heap.size ((⟨k, 0, 0, [], []⟩ : Fr).c (.slice none 0 0) (.slice none 0 0)) (by omega)).trans hs.out)
          replace hf := Lib.hid (setRow_heap _ (w.heap.size + 1) _ ((⟨k, 0, 0, [], []⟩ : Fr).c (.slice none 0 0) (.slice none 0 0)) _ _ hf.out)
          replace hB := Lib.hid (below_setRow' hB.out (Nat.le_succ w.heap.size) ((⟨k, 0, 0, [], []⟩ : Fr).c (.slice none 0 0) (.slice none 0 0)))
          clear f1 f2 f3 d1 d2 d3
          go_wp2_with (first
            | (refine wpList_load_row_g rfl 26 _ rfl (w.heap.size + 1) rfl 26 ((⟨k, 0, 0, [], []⟩ : Fr).c (.slice none 0 0) (.slice none 0 0)) (0, 0) _ hf.out Try.underlying26 rfl info_frame ?_)
            | (refine wpList_store_row rfl 26 _ _ rfl w.heap.size ((⟨k, 0, 0, [], []⟩ : Fr).c (.slice none 0 0) (.slice none 0 0)) rfl rfl 26 _ hs.out info_frame rfl (fr_one _ _ _ _ _ _ _) ?_))
          refine bodyPost_ret (results_row_tmp2 rfl _ _ w.heap.size 26 _ _ _ rfl (setRow_heap _ _ _ _ _ _ hs.out) Try.underlying26 rfl info_frame) rfl ?_
          exact ⟨below_setRow' hB.out (Nat.le_refl _) _, fun _ => rfl, fun f u h => by rw [hn.out] at h; cases h⟩
        · rw [hri, if_pos rfl] at p2
          have hn := Lib.hid p2
          have hS2 := Lib.hid (hS.out.mono fun e w' h => (show ∃ va vc, e = .returned (.tuple #[.slice va n vc, .int .i64 ((u : Nat) : Int), .int .i64 0]) ∧ HeldI W.heap.size w' (.slice va n vc) n F ∧ Below W.heap.size W w' from by have h2 := h.2; rw [hri, if_pos rfl] at h2; exact ⟨_, _, h2.1, heldI_row h2.2 n hlF.out hn40 (Nat.le_refl _), h.1⟩))
          clear hS p2 hri
          go_enter Try.func39, Try.ntmps39
          go_upto_region 2 with fail
          change Code.wp _ _ _ _ ((w.alloc (.cells ((kF 0).c (.slice none 0 0) (.slice none 0 0)) 26)).alloc (.cells ((kF k).c (.slice none 0 0) (.slice none 0 0)) 26))
          rw [← hW]
          clear hW
          go_upto_region 9 with (first | (go_at_call 29; (with_reducible refine (hK.out _).mono ?_); rintro e w2 ⟨rfl, rfl⟩) | (go_at_call 21; (with_reducible refine (hD.out _).mono ?_); rintro e w2 ⟨rfl, rfl⟩) | (go_at_call 45; (with_reducible refine (hS2.out).mono ?_); rintro e w3 ⟨va, vc, rfl, q1, q2⟩; have hH := Lib.hid q1; have z3 := q2.size; replace hs := Lib.hid (rowB hs.out q2 (Array.getElem?_eq_some_iff.1 hs.out).1); replace hf := Lib.hid (rowB hf.out q2 (Array.getElem?_eq_some_iff.1 hf.out).1); replace hB := Lib.hid (hB.out.trans (q2.mono hB.out.size)); clear q2; have f1 := frozen_of_row _ (w.heap.size + 1) 1 _ _ hf.out; have f2 := frozen_of_row _ (w.heap.size + 1) 2 _ _ hf.out; have f3 := frozen_of_row _ (w.heap.size + 1) 3 _ _ hf.out; obtain ⟨_, d1, d2, d3⟩ := cellsF hf.out; clear q1))
          rw [setI hf.out (.slice va n vc) n F]
          replace hs := Lib.hid ((setRow_other _ (w.heap.size + 1) w.heap.size ((⟨k, 0, n, F, []⟩ : Fr).c (.slice va n vc) (.slice none 0 0)) (by omega)).trans hs.out)
          replace hf := Lib.hid (setRow_heap _ (w.heap.size + 1) _ ((⟨k, 0, n, F, []⟩ : Fr).c (.slice va n vc) (.slice none 0 0)) _ _ hf.out)
          replace hB := Lib.hid (below_setRow' hB.out (Nat.le_succ w.heap.size) ((⟨k, 0, n, F, []⟩ : Fr).c (.slice va n vc) (.slice none 0 0)))
          clear f1 f2 f3 d1 d2 d3
          go_wp2_with (first
            | (refine wpList_load_row_g rfl 26 _ rfl (w.heap.size + 1) rfl 26 ((⟨k, 0, n, F, []⟩ : Fr).c (.slice va n vc) (.slice none 0 0)) (0, 0) _ hf.out Try.underlying26 rfl info_frame ?_)
            | (refine wpList_store_row rfl 26 _ _ rfl w.heap.size ((⟨k, 0, n, F, []⟩ : Fr).c (.slice va n vc) (.slice none 0 0)) rfl rfl 26 _ hs.out info_frame rfl (fr_one _ _ _ _ _ _ _) ?_))
          refine bodyPost_ret (results_row_tmp2 rfl _ _ w.heap.size 26 _ _ _ rfl (setRow_heap _ _ _ _ _ _ hs.out) Try.underlying26 rfl info_frame) rfl ?_
          exact ⟨below_setRow' hB.out (Nat.le_refl _) _, (fun h => by rw [hn.out] at h; cases h), fun f u' h => by
            rw [hn.out] at h
            obtain ⟨e1, e2⟩ := Prod.mk.inj (Option.some.inj h)
            subst e1 e2
            exact ⟨_, _, rfl, heldI_lower (held_setRow (held_setRow hH.out (by have := hszh.out; omega) _) (by have := hszh.out; omega) _) (by have := hszh.out; omega), heldS_nil _ _⟩⟩
  · rw [hk] at hK
    replace p1 := p1.out hk
    clear p2 p3 p4 hk
    have hS := Lib.hid (readNumber_any b _ W hrb.out hbb.out)
    cases hre : readF b with
    | none =>
      rw [hre] at p1
      have hn := Lib.hid p1
      obtain ⟨e1, e2, e3⟩ := rd_none hre
      have hS2 := Lib.hid (hS.out.mono fun e w' h => (show e = .returned (.tuple #[.int .u64 ((0 : Nat) : Int), .int .i64 0, .int .i64 12]) ∧ W = w' from ⟨by rw [h.1, e1, e2, e3]; rfl, h.2⟩))
      clear hS p1 hre e1 e2 e3
      go_enter Try.func39, Try.ntmps39
      go_upto_region 2 with fail
      change Code.wp _ _ _ _ ((w.alloc (.cells ((kF 0).c (.slice none 0 0) (.slice none 0 0)) 26)).alloc (.cells ((kF k).c (.slice none 0 0) (.slice none 0 0)) 26))
      rw [← hW]
      clear hW
      go_upto_region 9 with (first | (go_at_call 29; (with_reducible refine (hK.out _).mono ?_); rintro e w2 ⟨rfl, rfl⟩) | (go_at_call 44; (with_reducible refine (hS2.out).mono ?_); rintro e w3 ⟨rfl, rfl⟩; have f1 := frozen_of_row _ (w.heap.size + 1) 1 _ _ hf.out; have f2 := frozen_of_row _ (w.heap.size + 1) 2 _ _ hf.out; have f3 := frozen_of_row _ (w.heap.size + 1) 3 _ _ hf.out; obtain ⟨_, d1, d2, d3⟩ := cellsF hf.out))
      rw [(show W.setCell ⟨w.heap.size + 1, 1, none⟩ (.int .u64 0) = W.setRow (w.heap.size + 1) ((⟨k, 0, 0, [], []⟩ : Fr).c (.slice none 0 0) (.slice none 0 0)) from setN hf.out 0)]
      replace hs := Lib.hid ((setRow_other _ (w.heap.size + 1) w.heap.size ((⟨k, 0, 0, [], []⟩ : Fr).c (.slice none 0 0) (.slice none 0 0)) (by omega)).trans hs.out)
      replace hf := Lib.hid (setRow_heap _ (w.heap.size + 1) _ ((⟨k, 0, 0, [], []⟩ : Fr).c (.slice none 0 0) (.slice none 0 0)) _ _ hf.out)
      replace hB := Lib.hid (below_setRow' hB.out (Nat.le_succ w.heap.size) ((⟨k, 0, 0, [], []⟩ : Fr).c (.slice none 0 0) (.slice none 0 0)))
      clear f1 f2 f3 d1 d2 d3
      go_wp2_with (first
        | (refine wpList_load_row_g rfl 26 _ rfl (w.heap.size + 1) rfl 26 ((⟨k, 0, 0, [], []⟩ : Fr).c (.slice none 0 0) (.slice none 0 0)) (0, 0) _ hf.out Try.underlying26 rfl info_frame ?_)
        | (refine wpList_store_row rfl 26 _ _ rfl w.heap.size ((⟨k, 0, 0, [], []⟩ : Fr).c (.slice none 0 0) (.slice none 0 0)) rfl rfl 26 _ hs.out info_frame rfl (fr_one _ _ _ _ _ _ _) ?_))
      refine bodyPost_ret (results_row_tmp2 rfl _ _ w.heap.size 26 _ _ _ rfl (setRow_heap _ _ _ _ _ _ hs.out) Try.underlying26 rfl info_frame) rfl ?_
      exact ⟨below_setRow' hB.out (Nat.le_refl _) _, fun _ => rfl, fun f u h => by rw [hn.out] at h; cases h⟩
    | some q =>
      obtain ⟨N, u⟩ := q
      rw [hre] at p1
      have hn := Lib.hid p1
      obtain ⟨e1, e2, e3⟩ := rd_some hre
      have hS2 := Lib.hid (hS.out.mono fun e w' h => (show e = .returned (.tuple #[.int .u64 ((N : Nat) : Int), .int .i64 ((u : Nat) : Int), .int .i64 0]) ∧ W = w' from ⟨by rw [h.1, e1, e2, e3], h.2⟩))
      clear hS p1 hre e1 e2 e3
      go_enter Try.func39, Try.ntmps39
      go_upto_region 2 with fail
      change Code.wp _ _ _ _ ((w.alloc (.cells ((kF 0).c (.slice none 0 0) (.slice none 0 0)) 26)).alloc (.cells ((kF k).c (.slice none 0 0) (.slice none 0 0)) 26))
      rw [← hW]
      clear hW
      go_upto_region 9 with (first | (go_at_call 29; (with_reducible refine (hK.out _).mono ?_); rintro e w2 ⟨rfl, rfl⟩) | (go_at_call 44; (with_reducible refine (hS2.out).mono ?_); rintro e w3 ⟨rfl, rfl⟩; have f1 := frozen_of_row _ (w.heap.size + 1) 1 _ _ hf.out; have f2 := frozen_of_row _ (w.heap.size + 1) 2 _ _ hf.out; have f3 := frozen_of_row _ (w.heap.size + 1) 3 _ _ hf.out; obtain ⟨_, d1, d2, d3⟩ := cellsF hf.out))
      rw [setN hf.out N]
      replace hs := Lib.hid ((setRow_other _ (w.heap.size + 1) w.heap.size ((⟨k, N, 0, [], []⟩ : Fr).c (.slice none 0 0) (.slice none 0 0)) (by omega)).trans hs.out)
      replace hf := Lib.hid (setRow_heap _ (w.heap.size + 1) _ ((⟨k, N, 0, [], []⟩ : Fr).c (.slice none 0 0) (.slice none 0 0)) _ _ hf.out)
      replace hB := Lib.hid (below_setRow' hB.out (Nat.le_succ w.heap.size) ((⟨k, N, 0, [], []⟩ : Fr).c (.slice none 0 0) (.slice none 0 0)))
      clear f1 f2 f3 d1 d2 d3
      go_wp2_with (first
        | (refine wpList_load_row_g rfl 26 _ rfl (w.heap.size + 1) rfl 26 ((⟨k, N, 0, [], []⟩ : Fr).c (.slice none 0 0) (.slice none 0 0)) (0, 0) _ hf.out Try.underlying26 rfl info_frame ?_)
        | (refine wpList_store_row rfl 26 _ _ rfl w.heap.size ((⟨k, N, 0, [], []⟩ : Fr).c (.slice none 0 0) (.slice none 0 0)) rfl rfl 26 _ hs.out info_frame rfl (fr_one _ _ _ _ _ _ _) ?_))
      refine bodyPost_ret (results_row_tmp2 rfl _ _ w.heap.size 26 _ _ _ rfl (setRow_heap _ _ _ _ _ _ hs.out) Try.underlying26 rfl info_frame) rfl ?_
      exact ⟨below_setRow' hB.out (Nat.le_refl _) _, (fun h => by rw [hn.out] at h; cases h), fun f u' h => by
        rw [hn.out] at h
        obtain ⟨e1, e2⟩ := Prod.mk.inj (Option.some.inj h)
        subst e1 e2
        exact ⟨_, _, rfl, heldI_nil _ _, heldS_nil _ _⟩⟩
end Go.Proofs.Ytfaojjleapenaab
namespace Go.Proofs.Ytfaojjleapenaab
open Go.RowKit Go.Ytfaojjleapenaab
set_option linter.unusedVariables false
theorem quiet_cell {P : Program} {C : World → Prop} {o : Oper} {a : Act} (ty : TypeId) (x : Operand) (ho : o.op = .load ty x) (g k : Nat) (hx : a.eval x = .pointer (some ⟨g, k, none⟩)) (v : Value)
    (hC : ∀ w, C w → w.cell? ⟨g, k, none⟩ = some v) (hu : ∀ w, (isAgg ty).run P w = .ok false w) : ∀ w, C w → o.quietAt P a C w v := by
  intro w hw
  have hc := hC w hw
  unfold Oper.quietAt execOp
  generalize a.eval = ev at *
  simp only [ho]
  simp [go_sem, hx, hu, hc]
theorem parse_short {l : List Int} (h : l.length = 0 ∨ 2000 < l.length) : parseF l = none := if_pos h
theorem parse_none {l : List Int} (h : ¬ (l.length = 0 ∨ 2000 < l.length)) (h2 : readR (ith l 0) (l.drop 1) = none) : parseF l = none := by
  unfold parseF
  rw [if_neg h, h2]
theorem parse_not {l : List Int} (h : ¬ (l.length = 0 ∨ 2000 < l.length)) {f : Fr} {u : Nat} (h2 : readR (ith l 0) (l.drop 1) = some (f, u)) (h3 : u ≠ l.length - 1) : parseF l = none := by
  unfold parseF
  rw [if_neg h, h2]
  exact if_neg h3
theorem parse_some {l : List Int} (h : ¬ (l.length = 0 ∨ 2000 < l.length)) {f : Fr} {u : Nat} (h2 : readR (ith l 0) (l.drop 1) = some (f, u)) (h3 : u = l.length - 1) : parseF l = some f := by
  unfold parseF
  rw [if_neg h, h2]
  exact if_pos h3
def parsePost (w : World) (b : List Int) (e : Ending) (w' : World) : Prop :=
  Below w.heap.size w w' ∧ (parseF b = none → e = .returned (.tuple #[.agg ((kF 0).c (.slice none 0 0) (.slice none 0 0)), .int .i64 12])) ∧
    ∀ f, parseF b = some f → ∃ iv ov, e = .returned (.tuple #[.agg (f.c iv ov), .int .i64 0]) ∧ HeldI w.heap.size w' iv f.n f.F ∧ HeldS w.heap.size w' ov f.L
set_option maxHeartbeats 4000000 in
set_option maxRecDepth 100000 in
theorem parse_any (b : List Int) (bv : Value) (w : World) (hr : RdB w bv b) (hb : Bytes b) :
    Calls Try.prog 28 #[bv] w (parsePost w b) := by
  obtain ⟨W, hW⟩ : ∃ W, W = w.alloc (.cells ((kF 0).c (.slice none 0 0) (.slice none 0 0)) 26) := ⟨_, rfl⟩
  have hr0 : W.heap[w.heap.size]? = some (.cells ((kF 0).c (.slice none 0 0) (.slice none 0 0)) 26 (0, 0)) := by rw [hW]; exact heap_alloc_new w _
  have hb0 : Below w.heap.size w W := by rw [hW]; exact (Below.refl w.heap.size w).alloc (Nat.le_refl _) _
  have hsz : W.heap.size = w.heap.size + 1 := by rw [hW]; simp
  obtain ⟨ba, bc, rfl⟩ := hr.slice
  have hB := Lib.hid hb0
  have hs := Lib.hid hr0
  have hrb := Lib.hid (hr.mono hb0)
  have hszh := Lib.hid hsz
  have hbb := Lib.hid hb
  obtain ⟨NB, hNB⟩ : ∃ NB, b.length = NB := ⟨_, rfl⟩
  have hNBh := Lib.hid hNB
  rw [hNB] at hrb ⊢
  clear hr0 hb0 hsz hr hb
  by_cases hg : NB = 0 ∨ 2000 < NB
  · have hn := Lib.hid (parse_short (l := b) (by rw [hNB]; exact hg))
    clear hNB
    rcases hg with rfl | hg
    all_goals
      go_enter Try.func28, Try.ntmps28
      go_upto_region 1 with fail
      change Code.wp _ _ _ _ (w.alloc (.cells ((kF 0).c (.slice none 0 0) (.slice none 0 0)) 26))
      rw [← hW]
      clear hW
      go_wp2_with (refine wpList_store_row rfl 26 _ _ rfl w.heap.size ((kF 0).c (.slice none 0 0) (.slice none 0 0)) rfl rfl 26 _ hs.out info_frame rfl (fr_one _ _ _ _ _ _ _) ?_)
      refine bodyPost_ret (results_row_tmp rfl _ _ w.heap.size 26 _ _ _ rfl (setRow_heap _ _ _ _ _ _ hs.out) Try.underlying26 rfl info_frame) rfl ?_
      exact ⟨below_setRow' hB.out (Nat.le_refl _) _, (fun _ => rfl), fun f h => by rw [hn.out] at h; cases h⟩
  · have hgn : ¬ (b.length = 0 ∨ 2000 < b.length) := by rw [hNB]; exact hg
    have n1 : ¬ NB = 0 := fun h => hg (.inl h)
    have n2 : ¬ 2000 < NB := fun h => hg (.inr h)
    have d1 : ((NB : Int) == 0) = false := by simpa using n1
    have d2 : decide ((2000 : Int) < (NB : Int)) = false := decide_eq_false (by omega)
    have d3 : ¬ ((2000 : Int) < (NB : Int)) := by omega
    clear hg
    rcases hrb.out with ⟨_, _, hx, _, _⟩ | ⟨bb, o, c, hx, r1, r2, r3, r4⟩
    · obtain ⟨_, e2, _⟩ := Value.slice.inj hx
      exact absurd e2 n1
    obtain ⟨e1, e2, e3⟩ := Value.slice.inj hx
    clear e2 hx
    subst e1 e3
    have hc0 := Lib.hid (r4 0 (by omega))
    rw [Nat.add_zero] at hc0
    have hlen := Lib.hid r1
    have hbd := bytes_drop b 1 hbb.out
    have hrd := rdB_from hrb.out hNB 1 (by omega)
    have hx0 := hbb.out 0
    have hl1 : (b.drop 1).length ≤ 100000 := by rw [List.length_drop]; omega
    have hR := Lib.hid (fun bv wz (h : RdB wz bv (b.drop 1)) => read_any (ith b 0) (b.drop 1) bv wz h hbd hl1)
    have hpn := Lib.hid (fun h => parse_none (l := b) hgn h)
    have hpx := Lib.hid (fun f u h h2 => parse_not (l := b) hgn (f := f) (u := u) h h2)
    have hpy := Lib.hid (fun f u h h2 => parse_some (l := b) hgn (f := f) (u := u) h h2)
    rw [hNB] at hpx hpy
    rw [hNB] at hlen
    have hbu := Lib.hid (fun f u h => (readR_back hx0 hbd hl1 (f := f) (u := u) h).2.2.2.1)
    clear r4 r1 r2 hgn hbd hl1 hNB
    generalize ith b 0 = k at *
    rcases Decidable.em (bc = 1) with rfl | hc1
    · have hr1 := Lib.hid (show RdB W (.slice (some ⟨bb, o, none⟩) (NB - 1) 0) (b.drop 1) by rw [show NB - 1 = 0 by have := hlen.out; omega]; exact hrd.1 rfl)
      go_enter Try.func28, Try.ntmps28
      go_upto_region 1 with fail
      change Code.wp _ _ _ _ (w.alloc (.cells ((kF 0).c (.slice none 0 0) (.slice none 0 0)) 26))
      rw [← hW]
      clear hW
      go_upto_region 3 with fail
      refine wp_region_quiet (C := fun w' => Below W.heap.size W w') (by kernel_rfl) (by kernel_rfl) ((Below.refl _ _).drew) ?_
      simp only []
      (go_big_quiet_want; go_big_quiet_op; first | go_big_quiet_on | (refine ⟨_, fun _ _ => rfl, ?_⟩; go_big_quiet_on))
      (go_big_quiet_want; go_big_quiet_op; first | go_big_quiet_on | (refine ⟨_, fun _ _ => rfl, ?_⟩; go_big_quiet_on))
      refine wpq (.int .u8 k) rfl (quiet_cell 5 _ rfl bb o rfl (.int .u8 k) (fun w h => (h.cell (p := (⟨bb, o, none⟩ : Addr)) r3).trans hc0.out) Try.isAgg5) rfl (fun K hK => ?_); go_simp; refine hK _ ?_; clear hK K
      (go_big_quiet_want; go_big_quiet_op; first | go_big_quiet_on | (refine ⟨_, fun _ _ => rfl, ?_⟩; go_big_quiet_on))
      (go_big_quiet_want; go_big_quiet_op; first | go_big_quiet_on | (refine ⟨_, fun _ _ => rfl, ?_⟩; go_big_quiet_on))
      (go_big_quiet_want; go_big_quiet_op; first | go_big_quiet_on | (refine ⟨_, fun _ _ => rfl, ?_⟩; go_big_quiet_on))
      (go_big_quiet_want; go_big_quiet_op; first | go_big_quiet_on | (refine ⟨_, fun _ _ => rfl, ?_⟩; go_big_quiet_on))
      refine wpQuiet_nil ?_
      intro w2 h2
      replace hs := Lib.hid (rowB hs.out h2 (Array.getElem?_eq_some_iff.1 hs.out).1)
      have hz2 := Lib.hid h2.size
      have hP := Lib.hid (hR.out _ _ (hr1.out.mono h2))
      replace hB := Lib.hid (hB.out.trans (h2.mono hB.out.size))
      clear h2 hr1 hc0 hR hrd
      generalize hD : NB - 1 = D at *
      cases hre : readR k (b.drop 1) with
      | none =>
        have hn := Lib.hid (hpn.out hre)
        have hP2 := Lib.hid (hP.out.mono fun e w' h => (show e = .returned (.tuple #[.agg ((kF k).c (.slice none 0 0) (.slice none 0 0)), .int .i64 0, .int .i64 12]) ∧ Below w2.heap.size w2 w' from ⟨h.2.1 hre, h.1⟩))
        clear hP hpn hpx hpy hbu hre
        go_upto_region 5 with (go_at_call 39; (with_reducible refine (hP2.out).mono ?_); rintro e w3 ⟨rfl, q2⟩; replace hs := Lib.hid (rowB hs.out q2 (Array.getElem?_eq_some_iff.1 hs.out).1); replace hB := Lib.hid (hB.out.trans (q2.mono hB.out.size)); clear q2)
        have q5 := below_a w3 (.cells ((kF k).c (.slice none 0 0) (.slice none 0 0)) 26)
        have hf := Lib.hid (heap_alloc_new w3 (.cells ((kF k).c (.slice none 0 0) (.slice none 0 0)) 26))
        replace hs := Lib.hid (rowB hs.out q5 (Array.getElem?_eq_some_iff.1 hs.out).1)
        replace hB := Lib.hid (hB.out.trans (q5.mono hB.out.size))
        clear q5
        change Code.wp _ _ _ _ (w3.alloc (.cells ((kF k).c (.slice none 0 0) (.slice none 0 0)) 26))
        generalize w3.alloc (.cells ((kF k).c (.slice none 0 0) (.slice none 0 0)) 26) = w4 at *
        generalize w3.heap.size = g4 at *
        go_wp2_with (refine wpList_store_row rfl 26 _ _ rfl w.heap.size ((kF 0).c (.slice none 0 0) (.slice none 0 0)) rfl rfl 26 _ hs.out info_frame rfl (fr_one _ _ _ _ _ _ _) ?_)
        refine bodyPost_ret (results_row_tmp rfl _ _ w.heap.size 26 _ _ _ rfl (setRow_heap _ _ _ _ _ _ hs.out) Try.underlying26 rfl info_frame) rfl ?_
        exact ⟨below_setRow' hB.out (Nat.le_refl _) _, (fun _ => rfl), fun f h => by rw [hn.out] at h; cases h⟩
      | some q =>
        obtain ⟨f, u⟩ := q
        have hP2 := Lib.hid (hP.out.mono fun e w' h => (show ∃ va vc oa oc, e = .returned (.tuple #[.agg (f.c (.slice va f.n vc) (.slice oa f.L.length oc)), .int .i64 ((u : Nat) : Int), .int .i64 0]) ∧ HeldI w2.heap.size w' (.slice va f.n vc) f.n f.F ∧ HeldS w2.heap.size w' (.slice oa f.L.length oc) f.L ∧ Below w2.heap.size w2 w' from by
          obtain ⟨iv, ov, h1, h2, h3⟩ := h.2.2 f u hre
          obtain ⟨va, vc, rfl⟩ := (heldI_rd h2).slice
          obtain ⟨oa, oc, rfl⟩ := (heldS_rd h3).slice
          exact ⟨va, vc, oa, oc, h1, h2, h3, h.1⟩))
        have hx := Lib.hid (hpx.out f u hre)
        have hy := Lib.hid (hpy.out f u hre)
        clear hP hpn hpx hpy hbu hre
        go_upto_region 5 with (go_at_call 39; (with_reducible refine (hP2.out).mono ?_); rintro e w3 ⟨va, vc, oa, oc, rfl, q3, q4, q2⟩; replace hs := Lib.hid (rowB hs.out q2 (Array.getElem?_eq_some_iff.1 hs.out).1); have hz3 := Lib.hid hB.out.size; replace hB := Lib.hid (hB.out.trans (q2.mono hB.out.size)); have hI := Lib.hid q3; have hO := Lib.hid q4; clear q2 q3 q4)
        have q5 := below_a w3 (.cells (f.c (.slice va f.n vc) (.slice oa f.L.length oc)) 26)
        have hf := Lib.hid (heap_alloc_new w3 (.cells (f.c (.slice va f.n vc) (.slice oa f.L.length oc)) 26))
        replace hs := Lib.hid (rowB hs.out q5 (Array.getElem?_eq_some_iff.1 hs.out).1)
        replace hB := Lib.hid (hB.out.trans (q5.mono hB.out.size))
        replace hI := Lib.hid (heldI_mono hI.out q5)
        replace hO := Lib.hid (heldS_mono hO.out q5)
        clear q5
        change Code.wp _ _ _ _ (w3.alloc (.cells (f.c (.slice va f.n vc) (.slice oa f.L.length oc)) 26))
        generalize w3.alloc (.cells (f.c (.slice va f.n vc) (.slice oa f.L.length oc)) 26) = w4 at *
        generalize w3.heap.size = g4 at *
        by_cases hu : u = D
        · subst hu
          have hn := Lib.hid (hy.out rfl)
          clear hx hy
          have d5 : ((u : Int) != (u : Int)) = false := by simp
          go_wp2_with (first
            | (refine wpList_load_row_g rfl 26 _ rfl g4 rfl 26 (f.c (.slice va f.n vc) (.slice oa f.L.length oc)) (0, 0) _ hf.out Try.underlying26 rfl info_frame ?_)
            | (refine wpList_store_row rfl 26 _ _ rfl w.heap.size (f.c (.slice va f.n vc) (.slice oa f.L.length oc)) rfl rfl 26 _ hs.out info_frame rfl (fr_one _ _ _ _ _ _ _) ?_))
          refine bodyPost_ret (results_row_tmp rfl _ _ w.heap.size 26 _ _ _ rfl (setRow_heap _ _ _ _ _ _ hs.out) Try.underlying26 rfl info_frame) rfl ?_
          exact ⟨below_setRow' hB.out (Nat.le_refl _) _, (fun h => by rw [hn.out] at h; cases h), fun f' h => by
            rw [hn.out] at h
            obtain rfl := Option.some.inj h
            exact ⟨_, _, rfl, heldI_lower (held_setRow hI.out (by have := hszh.out; have := hz2.out; omega) _) hz3.out, heldS_lower (heldS_setRow hO.out (by have := hszh.out; have := hz2.out; omega) _) hz3.out⟩⟩
        · have hn := Lib.hid (hx.out hu)
          clear hx hy
          have d5 : ((u : Int) != (D : Int)) = true := by simp only [bne_iff_ne, ne_eq]; omega
          go_wp2_with (refine wpList_store_row rfl 26 _ _ rfl w.heap.size ((kF 0).c (.slice none 0 0) (.slice none 0 0)) rfl rfl 26 _ hs.out info_frame rfl (fr_one _ _ _ _ _ _ _) ?_)
          refine bodyPost_ret (results_row_tmp rfl _ _ w.heap.size 26 _ _ _ rfl (setRow_heap _ _ _ _ _ _ hs.out) Try.underlying26 rfl info_frame) rfl ?_
          exact ⟨below_setRow' hB.out (Nat.le_refl _) _, (fun _ => rfl), fun f h => by rw [hn.out] at h; cases h⟩
    · have hr1 := Lib.hid (hrd.2 hc1)
      go_enter Try.func28, Try.ntmps28
      go_upto_region 1 with fail
      change Code.wp _ _ _ _ (w.alloc (.cells ((kF 0).c (.slice none 0 0) (.slice none 0 0)) 26))
      rw [← hW]
      clear hW
      go_upto_region 3 with fail
      refine wp_region_quiet (C := fun w' => Below W.heap.size W w') (by kernel_rfl) (by kernel_rfl) ((Below.refl _ _).drew) ?_
      simp only []
      (go_big_quiet_want; go_big_quiet_op; first | go_big_quiet_on | (refine ⟨_, fun _ _ => rfl, ?_⟩; go_big_quiet_on))
      (go_big_quiet_want; go_big_quiet_op; first | go_big_quiet_on | (refine ⟨_, fun _ _ => rfl, ?_⟩; go_big_quiet_on))
      refine wpq (.int .u8 k) rfl (quiet_cell 5 _ rfl bb o rfl (.int .u8 k) (fun w h => (h.cell (p := (⟨bb, o, none⟩ : Addr)) r3).trans hc0.out) Try.isAgg5) rfl (fun K hK => ?_); go_simp; refine hK _ ?_; clear hK K
      (go_big_quiet_want; go_big_quiet_op; first | go_big_quiet_on | (refine ⟨_, fun _ _ => rfl, ?_⟩; go_big_quiet_on))
      (go_big_quiet_want; go_big_quiet_op; first | go_big_quiet_on | (refine ⟨_, fun _ _ => rfl, ?_⟩; go_big_quiet_on))
      (go_big_quiet_want; go_big_quiet_op; first | go_big_quiet_on | (refine ⟨_, fun _ _ => rfl, ?_⟩; go_big_quiet_on))
      (go_big_quiet_want; go_big_quiet_op; first | go_big_quiet_on | (refine ⟨_, fun _ _ => rfl, ?_⟩; go_big_quiet_on))
      refine wpQuiet_nil ?_
      intro w2 h2
      replace hs := Lib.hid (rowB hs.out h2 (Array.getElem?_eq_some_iff.1 hs.out).1)
      have hz2 := Lib.hid h2.size
      have hP := Lib.hid (hR.out _ _ (hr1.out.mono h2))
      replace hB := Lib.hid (hB.out.trans (h2.mono hB.out.size))
      clear h2 hr1 hc0 hR hrd
      generalize hD : NB - 1 = D at *
      cases hre : readR k (b.drop 1) with
      | none =>
        have hn := Lib.hid (hpn.out hre)
        have hP2 := Lib.hid (hP.out.mono fun e w' h => (show e = .returned (.tuple #[.agg ((kF k).c (.slice none 0 0) (.slice none 0 0)), .int .i64 0, .int .i64 12]) ∧ Below w2.heap.size w2 w' from ⟨h.2.1 hre, h.1⟩))
        clear hP hpn hpx hpy hbu hre
        go_upto_region 5 with (go_at_call 39; (with_reducible refine (hP2.out).mono ?_); rintro e w3 ⟨rfl, q2⟩; replace hs := Lib.hid (rowB hs.out q2 (Array.getElem?_eq_some_iff.1 hs.out).1); replace hB := Lib.hid (hB.out.trans (q2.mono hB.out.size)); clear q2)
        have q5 := below_a w3 (.cells ((kF k).c (.slice none 0 0) (.slice none 0 0)) 26)
        have hf := Lib.hid (heap_alloc_new w3 (.cells ((kF k).c (.slice none 0 0) (.slice none 0 0)) 26))
        replace hs := Lib.hid (rowB hs.out q5 (Array.getElem?_eq_some_iff.1 hs.out).1)
        replace hB := Lib.hid (hB.out.trans (q5.mono hB.out.size))
        clear q5
        change Code.wp _ _ _ _ (w3.alloc (.cells ((kF k).c (.slice none 0 0) (.slice none 0 0)) 26))
        generalize w3.alloc (.cells ((kF k).c (.slice none 0 0) (.slice none 0 0)) 26) = w4 at *
        generalize w3.heap.size = g4 at *
        go_wp2_with (refine wpList_store_row rfl 26 _ _ rfl w.heap.size ((kF 0).c (.slice none 0 0) (.slice none 0 0)) rfl rfl 26 _ hs.out info_frame rfl (fr_one _ _ _ _ _ _ _) ?_)
        refine bodyPost_ret (results_row_tmp rfl _ _ w.heap.size 26 _ _ _ rfl (setRow_heap _ _ _ _ _ _ hs.out) Try.underlying26 rfl info_frame) rfl ?_
        exact ⟨below_setRow' hB.out (Nat.le_refl _) _, (fun _ => rfl), fun f h => by rw [hn.out] at h; cases h⟩
      | some q =>
        obtain ⟨f, u⟩ := q
        have hP2 := Lib.hid (hP.out.mono fun e w' h => (show ∃ va vc oa oc, e = .returned (.tuple #[.agg (f.c (.slice va f.n vc) (.slice oa f.L.length oc)), .int .i64 ((u : Nat) : Int), .int .i64 0]) ∧ HeldI w2.heap.size w' (.slice va f.n vc) f.n f.F ∧ HeldS w2.heap.size w' (.slice oa f.L.length oc) f.L ∧ Below w2.heap.size w2 w' from by
          obtain ⟨iv, ov, h1, h2, h3⟩ := h.2.2 f u hre
          obtain ⟨va, vc, rfl⟩ := (heldI_rd h2).slice
          obtain ⟨oa, oc, rfl⟩ := (heldS_rd h3).slice
          exact ⟨va, vc, oa, oc, h1, h2, h3, h.1⟩))
        have hx := Lib.hid (hpx.out f u hre)
        have hy := Lib.hid (hpy.out f u hre)
        clear hP hpn hpx hpy hbu hre
        go_upto_region 5 with (go_at_call 39; (with_reducible refine (hP2.out).mono ?_); rintro e w3 ⟨va, vc, oa, oc, rfl, q3, q4, q2⟩; replace hs := Lib.hid (rowB hs.out q2 (Array.getElem?_eq_some_iff.1 hs.out).1); have hz3 := Lib.hid hB.out.size; replace hB := Lib.hid (hB.out.trans (q2.mono hB.out.size)); have hI := Lib.hid q3; have hO := Lib.hid q4; clear q2 q3 q4)
        have q5 := below_a w3 (.cells (f.c (.slice va f.n vc) (.slice oa f.L.length oc)) 26)
        have hf := Lib.hid (heap_alloc_new w3 (.cells (f.c (.slice va f.n vc) (.slice oa f.L.length oc)) 26))
        replace hs := Lib.hid (rowB hs.out q5 (Array.getElem?_eq_some_iff.1 hs.out).1)
        replace hB := Lib.hid (hB.out.trans (q5.mono hB.out.size))
        replace hI := Lib.hid (heldI_mono hI.out q5)
        replace hO := Lib.hid (heldS_mono hO.out q5)
        clear q5
        change Code.wp _ _ _ _ (w3.alloc (.cells (f.c (.slice va f.n vc) (.slice oa f.L.length oc)) 26))
        generalize w3.alloc (.cells (f.c (.slice va f.n vc) (.slice oa f.L.length oc)) 26) = w4 at *
        generalize w3.heap.size = g4 at *
        by_cases hu : u = D
        · subst hu
          have hn := Lib.hid (hy.out rfl)
          clear hx hy
          have d5 : ((u : Int) != (u : Int)) = false := by simp
          go_wp2_with (first
            | (refine wpList_load_row_g rfl 26 _ rfl g4 rfl 26 (f.c (.slice va f.n vc) (.slice oa f.L.length oc)) (0, 0) _ hf.out Try.underlying26 rfl info_frame ?_)
            | (refine wpList_store_row rfl 26 _ _ rfl w.heap.size (f.c (.slice va f.n vc) (.slice oa f.L.length oc)) rfl rfl 26 _ hs.out info_frame rfl (fr_one _ _ _ _ _ _ _) ?_))
          refine bodyPost_ret (results_row_tmp rfl _ _ w.heap.size 26 _ _ _ rfl (setRow_heap _ _ _ _ _ _ hs.out) Try.underlying26 rfl info_frame) rfl ?_
          exact ⟨below_setRow' hB.out (Nat.le_refl _) _, (fun h => by rw [hn.out] at h; cases h), fun f' h => by
            rw [hn.out] at h
            obtain rfl := Option.some.inj h
            exact ⟨_, _, rfl, heldI_lower (held_setRow hI.out (by have := hszh.out; have := hz2.out; omega) _) hz3.out, heldS_lower (heldS_setRow hO.out (by have := hszh.out; have := hz2.out; omega) _) hz3.out⟩⟩
        · have hn := Lib.hid (hx.out hu)
          clear hx hy
          have d5 : ((u : Int) != (D : Int)) = true := by simp only [bne_iff_ne, ne_eq]; omega
          go_wp2_with (refine wpList_store_row rfl 26 _ _ rfl w.heap.size ((kF 0).c (.slice none 0 0) (.slice none 0 0)) rfl rfl 26 _ hs.out info_frame rfl (fr_one _ _ _ _ _ _ _) ?_)
          refine bodyPost_ret (results_row_tmp rfl _ _ w.heap.size 26 _ _ _ rfl (setRow_heap _ _ _ _ _ _ hs.out) Try.underlying26 rfl info_frame) rfl ?_
          exact ⟨below_setRow' hB.out (Nat.le_refl _) _, (fun _ => rfl), fun f h => by rw [hn.out] at h; cases h⟩
end Go.Proofs.Ytfaojjleapenaab
namespace Go.Proofs.Ytfaojjleapenaab
open Go.RowKit Go.Ytfaojjleapenaab
set_option linter.unusedVariables false
def sameL (L M : List (List Int)) : Bool := decide (L = M)
def sameFr (f g : Fr) : Bool := decide (f.k = g.k) && (decide (f.N = g.N) && (sameF f.F g.F && sameL f.L g.L))
theorem sameFr_k {f g : Fr} (h : ¬ f.k = g.k) : sameFr f g = false := by unfold sameFr; rw [decide_eq_false h]; rfl
theorem sameFr_N {f g : Fr} (h : ¬ f.N = g.N) : sameFr f g = false := by unfold sameFr; rw [decide_eq_false h, Bool.false_and, Bool.and_false]
theorem sameFr_F {f g : Fr} (h : sameF f.F g.F = false) : sameFr f g = false := by unfold sameFr; rw [h, Bool.false_and, Bool.and_false, Bool.and_false]
theorem sameFr_L {f g : Fr} (h : ¬ f.L = g.L) : sameFr f g = false := by unfold sameFr sameL; rw [decide_eq_false h, Bool.and_false, Bool.and_false, Bool.and_false]
theorem sameFr_all {f g : Fr} (h1 : f.k = g.k) (h2 : f.N = g.N) (h3 : sameF f.F g.F = true) (h4 : f.L = g.L) : sameFr f g = true := by unfold sameFr sameL; rw [decide_eq_true h1, decide_eq_true h2, h3, decide_eq_true h4]; rfl
theorem nthL_ext {L M : List (List Int)} (hl : L.length = M.length) (h : ∀ i, i < L.length → nthL L i = nthL M i) : L = M := by
  apply List.ext_getElem hl
  intro i h1 h2
  have := h i h1
  unfold nthL at this
  rw [List.getElem?_eq_getElem h1, List.getElem?_eq_getElem h2] at this
  exact this
set_option maxHeartbeats 4000000 in
set_option maxRecDepth 100000 in
theorem sameFr_any (f g : Fr) (ff : f.n ≤ 100000) (fl : f.L.length ≤ 100000) (fs : ∀ i, (nthL f.L i).length ≤ 1000000) (iv ov jv pv : Value) (w : World) (hi : RdI w iv f.n f.F) (ho : RdS w ov f.L) (hj : RdI w jv g.n g.F) (hp : RdS w pv g.L) :
    Calls Try.prog 14 #[.agg (f.c iv ov), .agg (g.c jv pv)] w fun e w' => e = .returned (.bool (sameFr f g)) ∧ Below w.heap.size w w' := by
  obtain ⟨W, hW⟩ : ∃ W, W = (w.alloc (.cells (f.c iv ov) 26)).alloc (.cells (g.c jv pv) 26) := ⟨_, rfl⟩
  have hr0 : W.heap[w.heap.size]? = some (.cells (f.c iv ov) 26 (0, 0)) := by rw [hW]; exact rowB (heap_alloc_new w _) (below_a _ _) (by simp)
  have hr1 : W.heap[w.heap.size + 1]? = some (.cells (g.c jv pv) 26 (0, 0)) := by rw [hW]; exact hn2 w _ _
  have hb0 : Below w.heap.size w W := by rw [hW]; exact ((Below.refl w.heap.size w).alloc (Nat.le_refl _) _).alloc (by simp) _
  obtain ⟨ia, ic, rfl⟩ := hi.slice
  obtain ⟨oa, oc, rfl⟩ := ho.slice
  obtain ⟨ja, jc, rfl⟩ := hj.slice
  obtain ⟨pa, pc, rfl⟩ := hp.slice
  have hb1 := Lib.hid hb0
  have hlt := Lib.hid (Array.getElem?_eq_some_iff.1 hr0).1
  have hlt1 := Lib.hid (Array.getElem?_eq_some_iff.1 hr1).1
  have hrows := Lib.hid (fun (wz : World) (h : Below W.heap.size W wz) => cellsF (rowB hr0 h hlt.out))
  have hress := Lib.hid (fun (wz : World) (h : Below W.heap.size W wz) => cellsF (rowB hr1 h hlt1.out))
  obtain ⟨c0, c1, c2, c3⟩ := cellsF hr0
  obtain ⟨d0, d1, d2, d3⟩ := cellsF hr1
  have hI := Lib.hid (sameIDs_any f.n g.n f.F g.F _ _ W ff (hi.mono hb0) (hj.mono hb0))
  have hoW := Lib.hid (ho.mono hb0)
  have hpW := Lib.hid (hp.mono hb0)
  have hB := Lib.hid (Below.refl W.heap.size W)
  have hs' := Lib.hid fs
  have hl' := Lib.hid fl
  clear hr0 hr1 hb0 hi ho hj hp ff fs fl
  by_cases hk : f.k = g.k
  · by_cases hN : f.N = g.N
    · cases hF : sameF f.F g.F
      · have e := Lib.hid (sameFr_F hF)
        rw [hF] at hI
        clear hF
        generalize sameFr f g = R at *
        have k1 : (f.k != g.k) = false := by simpa using hk
        have k2 : ((f.N : Int) != (g.N : Int)) = false := by rw [hN]; simp
        clear hk hN
        go_enter Try.func14, Try.ntmps14
        go_upto_region 1 with fail
        rw [← hW]
        clear hW
        go_wp2_with (first
          | (go_at_call 27; (with_reducible refine (hI.out).mono ?_); rintro e w3 ⟨rfl, h3⟩; replace hB := Lib.hid (h3.below hB.out); clear h3 c0 c1 c2 c3 d0 d1 d2 d3; obtain ⟨c0, c1, c2, c3⟩ := hrows.out _ hB.out; obtain ⟨d0, d1, d2, d3⟩ := hress.out _ hB.out))
        go_ret
        exact ⟨ret_bool e.out.symm, hb1.out.trans (hB.out.mono hb1.out.size)⟩
      · rw [hF] at hI
        by_cases hm : f.L.length = g.L.length
        · have hyes := Lib.hid (fun h => sameFr_all hk hN hF (nthL_ext hm h))
          have hno := Lib.hid (fun h => sameFr_L (f := f) (g := g) h)
          clear hF
          generalize sameFr f g = R at *
          have k1 : (f.k != g.k) = false := by simpa using hk
          have k2 : ((f.N : Int) != (g.N : Int)) = false := by rw [hN]; simp
          clear hk hN
          generalize hm1 : f.L.length = m at *
          rw [← hm] at hpW hress d3 hW ⊢
          have hm1' := Lib.hid hm1
          have hm' := Lib.hid hm
          clear hm1 hm
          have k3 : ((m : Int) != (m : Int)) = false := by simp
          go_enter Try.func14, Try.ntmps14
          go_upto_region 1 with fail
          rw [← hW]
          clear hW
          go_upto_region 3 with (first
  | (go_at_call 27; (with_reducible refine (hI.out).mono ?_); rintro e w3 ⟨rfl, h3⟩; replace hB := Lib.hid (h3.below hB.out); clear h3 c0 c1 c2 c3 d0 d1 d2 d3; obtain ⟨c0, c1, c2, c3⟩ := hrows.out _ hB.out; obtain ⟨d0, d1, d2, d3⟩ := hress.out _ hB.out))
          have hz1 := Lib.hid hB.out.size
          have hm5 := hl'.out
          go_wp2
          go_loopw [5] (fun i wr => ∃ k : Nat, k ≤ m ∧ i = .int .i64 k ∧ Below W.heap.size W wr ∧ ∀ j, j < k → nthL f.L j = nthL g.L j) (fun i _ => m - (intOf i).toNat)
          case atStart => exact ⟨0, Nat.zero_le _, rfl, hB.out, fun j hj => absurd hj (Nat.not_lt_zero _)⟩
          case round =>
            obtain ⟨k, hk, rfl, hb, he⟩ := hrel
            have hBr := Lib.hid hb
            have he' := Lib.hid he
            obtain ⟨a0, a1, a2, a3⟩ := hrows.out _ hb
            clear hb he
            by_cases hlt2 : k < m
            · obtain ⟨xb, xo, rfl, xlt, s, hcx, hsx⟩ := (hoW.out.mono hBr.out).at k (by rw [hm1'.out]; exact hlt2)
              obtain ⟨yb, yo, rfl, ylt, s2, hcy, hsy⟩ := (hpW.out.mono hBr.out).at k (by rw [← hm'.out]; exact hlt2)
              obtain ⟨qa, qc, rfl⟩ := hsx.slice
              obtain ⟨ra, rc, rfl⟩ := hsy.slice
              replace xlt := Lib.hid xlt
              replace ylt := Lib.hid ylt
              replace hcx := Lib.hid hcx
              replace hcy := Lib.hid hcy
              have hSB := Lib.hid (fun (wz : World) (h : Below wr.heap.size wr wz) => (same_any _ _ (nthL f.L k) (nthL g.L k) wz (Nat.le_trans (hs'.out k) (by decide)) (hsx.mono h) (hsy.mono h)).mono fun e w' ⟨h1, h2⟩ => (show e = Ending.returned (.bool (sameF (nthL f.L k) (nthL g.L k))) ∧ Below wz.heap.size wz w' from ⟨h1, h2.below (Below.refl _ _)⟩))
              clear hsx hsy
              obtain ⟨RB, hRB⟩ : ∃ RB, sameF (nthL f.L k) (nthL g.L k) = RB := ⟨_, rfl⟩
              rw [hRB] at hSB
              have hRB' := Lib.hid hRB
              clear hRB
              have hBr' := hBr
              go_upto_region 6 with fail
              refine wp_region_quiet (C := fun w' => Below wr.heap.size wr w') (by kernel_rfl) (by kernel_rfl) ((Below.refl _ _).drew) ?_
              simp only []
              (go_big_quiet_want; go_big_quiet_op; first | go_big_quiet_on | (refine ⟨_, fun _ _ => rfl, ?_⟩; go_big_quiet_on))
              refine wpq (.slice (some ⟨xb, xo, none⟩) m oc) rfl (quiet_cell 24 _ rfl w.heap.size 3 rfl (.slice (some ⟨xb, xo, none⟩) m oc) (fun wz h => (hrows.out wz (hBr'.out.trans (h.mono hBr'.out.size))).2.2.2) Try.isAgg24) rfl (fun K hK => ?_); go_simp; refine hK _ ?_; clear hK K
              (go_big_quiet_want; go_big_quiet_op; first | go_big_quiet_on | (refine ⟨_, fun _ _ => rfl, ?_⟩; go_big_quiet_on))
              (go_big_quiet_want; go_big_quiet_op; first | go_big_quiet_on | (refine ⟨_, fun _ _ => rfl, ?_⟩; go_big_quiet_on))
              refine wpq (.slice qa (nthL f.L k).length qc) rfl (quiet_cell 29 _ rfl xb (xo + k) rfl (.slice qa (nthL f.L k).length qc) (fun wz h => (h.cell (p := (⟨xb, xo + k, none⟩ : Addr)) xlt.out).trans hcx.out) Try.isAgg29) rfl (fun K hK => ?_); go_simp; refine hK _ ?_; clear hK K
              (go_big_quiet_want; go_big_quiet_op; first | go_big_quiet_on | (refine ⟨_, fun _ _ => rfl, ?_⟩; go_big_quiet_on))
              refine wpq (.slice (some ⟨yb, yo, none⟩) m pc) rfl (quiet_cell 24 _ rfl (w.heap.size + 1) 3 rfl (.slice (some ⟨yb, yo, none⟩) m pc) (fun wz h => (hress.out wz (hBr'.out.trans (h.mono hBr'.out.size))).2.2.2) Try.isAgg24) rfl (fun K hK => ?_); go_simp; refine hK _ ?_; clear hK K
              (go_big_quiet_want; go_big_quiet_op; first | go_big_quiet_on | (refine ⟨_, fun _ _ => rfl, ?_⟩; go_big_quiet_on))
              (go_big_quiet_want; go_big_quiet_op; first | go_big_quiet_on | (refine ⟨_, fun _ _ => rfl, ?_⟩; go_big_quiet_on))
              refine wpq (.slice ra (nthL g.L k).length rc) rfl (quiet_cell 29 _ rfl yb (yo + k) rfl (.slice ra (nthL g.L k).length rc) (fun wz h => (h.cell (p := (⟨yb, yo + k, none⟩ : Addr)) ylt.out).trans hcy.out) Try.isAgg29) rfl (fun K hK => ?_); go_simp; refine hK _ ?_; clear hK K
              refine wpq (.bool RB) rfl (quiet_call2 rfl Try.func13 (by kernel_rfl) rfl (.slice qa (nthL f.L k).length qc) (.slice ra (nthL g.L k).length rc) (.bool RB) rfl rfl rfl (fun w h => (hSB.out w h).mono fun e w' ⟨he, hb⟩ => ⟨he, h.trans (hb.mono h.size)⟩)) rfl (fun K hK => ?_); go_simp; refine hK _ ?_; clear hK K
              (go_big_quiet_want; go_big_quiet_op; first | go_big_quiet_on | (refine ⟨_, fun _ _ => rfl, ?_⟩; go_big_quiet_on))
              refine wpQuiet_nil ?_
              intro w9 h9
              have hB9 := Lib.hid (hBr.out.trans (h9.mono hBr.out.size))
              clear h9
              cases RB
              · have hh := Lib.hid (hno.out (fun h => by have h2 := hRB'.out; rw [h, sameF_self] at h2; cases h2))
                go_wp2
                go_ret
                exact ⟨ret_bool hh.out.symm, hb1.out.trans (hB9.out.mono hb1.out.size)⟩
              · have hh := Lib.hid (show ∀ j, j < k + 1 → nthL f.L j = nthL g.L j from fun j hj => by
                  rcases Nat.lt_or_ge j k with h1 | h1
                  · exact he'.out j h1
                  · obtain rfl : j = k := by omega
                    exact of_decide_eq_true hRB'.out)
                go_wp2
                go_roundw
                case rel => exact ⟨k + 1, by omega, by go_num, hB9.out, hh.out⟩
                case measure => simp [intOf]; omega
            · have hh := Lib.hid (hyes.out (fun i hi => he'.out i (by omega)))
              go_wp2
              go_ret
              exact ⟨ret_bool hh.out.symm, hb1.out.trans (hBr.out.mono hb1.out.size)⟩
        · have e := Lib.hid (sameFr_L (f := f) (g := g) (fun h => hm (by rw [h])))
          clear hF
          generalize sameFr f g = R at *
          have k1 : (f.k != g.k) = false := by simpa using hk
          have k2 : ((f.N : Int) != (g.N : Int)) = false := by rw [hN]; simp
          clear hk hN
          generalize f.L.length = m at *
          generalize g.L.length = m' at *
          have k3 : ((m : Int) != (m' : Int)) = true := by simp only [bne_iff_ne, ne_eq]; omega
          clear hm
          go_enter Try.func14, Try.ntmps14
          go_upto_region 1 with fail
          rw [← hW]
          clear hW
          go_wp2_with (first
            | (go_at_call 27; (with_reducible refine (hI.out).mono ?_); rintro e w3 ⟨rfl, h3⟩; replace hB := Lib.hid (h3.below hB.out); clear h3 c0 c1 c2 c3 d0 d1 d2 d3; obtain ⟨c0, c1, c2, c3⟩ := hrows.out _ hB.out; obtain ⟨d0, d1, d2, d3⟩ := hress.out _ hB.out))
          go_ret
          exact ⟨ret_bool e.out.symm, hb1.out.trans (hB.out.mono hb1.out.size)⟩
    · have e := Lib.hid (sameFr_N (f := f) (g := g) hN)
      generalize sameFr f g = R at *
      have k1 : (f.k != g.k) = false := by simpa using hk
      have k2 : ((f.N : Int) != (g.N : Int)) = true := by simp only [bne_iff_ne, ne_eq]; omega
      clear hk hN
      go_enter Try.func14, Try.ntmps14
      go_upto_region 1 with fail
      rw [← hW]
      clear hW
      go_wp2_with (first
        | (go_at_call 27; (with_reducible refine (hI.out).mono ?_); rintro e w3 ⟨rfl, h3⟩; replace hB := Lib.hid (h3.below hB.out); clear h3 c0 c1 c2 c3 d0 d1 d2 d3; obtain ⟨c0, c1, c2, c3⟩ := hrows.out _ hB.out; obtain ⟨d0, d1, d2, d3⟩ := hress.out _ hB.out))
      go_ret
      exact ⟨ret_bool e.out.symm, hb1.out.trans (hB.out.mono hb1.out.size)⟩
  · have e := Lib.hid (sameFr_k (f := f) (g := g) hk)
    generalize sameFr f g = R at *
    have k1 : (f.k != g.k) = true := by simpa using hk
    clear hk
    go_enter Try.func14, Try.ntmps14
    go_upto_region 1 with fail
    rw [← hW]
    clear hW
    go_wp2_with (first
      | (go_at_call 27; (with_reducible refine (hI.out).mono ?_); rintro e w3 ⟨rfl, h3⟩; replace hB := Lib.hid (h3.below hB.out); clear h3 c0 c1 c2 c3 d0 d1 d2 d3; obtain ⟨c0, c1, c2, c3⟩ := hrows.out _ hB.out; obtain ⟨d0, d1, d2, d3⟩ := hress.out _ hB.out))
    go_ret
    exact ⟨ret_bool e.out.symm, hb1.out.trans (hB.out.mono hb1.out.size)⟩
end Go.Proofs.Ytfaojjleapenaab
namespace Go.Proofs.Ytfaojjleapenaab
open Go.RowKit Go.Ytfaojjleapenaab
set_option linter.unusedVariables false
theorem rdI_first {w : World} {a : Option Addr} {n c : Nat} {F : List Int} (h : RdI w (.slice a n c) n F) (k : Nat) (hk : k ≤ n) : RdI w (.slice a k c) k (F.take (32 * k)) := by
  rcases h with ⟨a', c', e, h1, rfl, rfl⟩ | ⟨b, o, c', e, h1, h2, h3, h4, h5⟩
  · cases e
    obtain rfl : k = 0 := by omega
    exact .inl ⟨_, _, rfl, h1, rfl, rfl⟩
  · cases e
    have hl : (F.take (32 * k)).length = 32 * k := by rw [List.length_take, h4]; omega
    refine .inr ⟨b, o, c, rfl, by omega, h2, h3, hl, fun i hi => ?_⟩
    rw [hl] at hi
    rw [ith_take _ _ _ hi]
    exact h5 i (by omega)
theorem rdI_last {w : World} {b o n c : Nat} {F : List Int} (h : RdI w (.slice (some ⟨b, o, none⟩) n c) n F) (k : Nat) (hk : k < n) : RdI w (.slice (some ⟨b, o + k * 32, none⟩) (n - k) (c - k)) (n - k) (F.drop (32 * k)) := by
  rcases h with ⟨a', c', e, h1, h0, rfl⟩ | ⟨b', o', c', e, h1, h2, h3, h4, h5⟩
  · omega
  · cases e
    have hl : (F.drop (32 * k)).length = 32 * (n - k) := by rw [List.length_drop, h4]; omega
    refine .inr ⟨b, o + k * 32, c - k, rfl, by omega, by unfold maxLen at *; omega, h3, hl, fun i hi => ?_⟩
    rw [hl] at hi
    rw [ith_drop, show o + k * 32 + i = o + (32 * k + i) by omega]
    exact h5 _ (by omega)
theorem rdI_some {w : World} {a : Option Addr} {n c : Nat} {F : List Int} (h : RdI w (.slice a n c) n F) (hn : 0 < n) : ∃ b o, a = some ⟨b, o, none⟩ ∧ n ≤ c := by
  rcases h with ⟨a', c', e, h1, h0, rfl⟩ | ⟨b', o', c', e, h1, _⟩
  · omega
  · cases e
    exact ⟨b', o', rfl, h1⟩
theorem run_appendIs {P : Program} (w : World) (base : Nat) (t ty e : TypeId) (ht : P.underlying t = some (.slice e)) (hinfo : (P.info? e).map (fun i => (i.zero, i.size, i.bytes)) = some (some (.agg (u8s (zerosB 32))), 32, 32))
    (v : Value) (n : Nat) (F : List Int) (hown : OwnI base e w v n F) (sv : Value) (m : Nat) (G : List Int) (hr : RdI w sv m G) (hlen : n + m ≤ 1000000) (hbase : base ≤ w.heap.size) :
    ∃ v' w', (Builtin.append_ #[t, t] ty #[v, sv]).run P w = .ok v' w' ∧ OwnI base e w' v' (n + m) (F ++ G) ∧ w.grownBy w' v.ownBlock := by
  obtain ⟨i, hi, hz, hs, hb⟩ := info_parts hinfo
  have hlG := hr.len
  rcases hr with ⟨sa, sc, rfl, hsn, rfl, rfl⟩ | ⟨b, o, c, rfl, h1, h2, h3, h4, h5⟩
  · cases sa with
    | some sa =>
      obtain ⟨v', w', hrun, ho, hg, _⟩ := run_append_own (P := P) w base t ty e i (.agg (u8s (zerosB 32))) 32 32 ht hi hz hs hb (by simp [Value.cells, u8s_size, zerosB_length]) (by omega) v n (u8v F) hown sa 0 sc (u8v [])
        (by rw [u8v_length]; rfl) (fun k x hx => by cases hx) (u8v_one []) (by unfold maxLen; omega) (by omega) hbase
      refine ⟨v', w', hrun, ?_, hg⟩
      unfold OwnI
      rw [List.append_nil]
      simpa [u8v] using ho
    | none =>
      obtain rfl := hsn rfl
      refine ⟨v, w, run_append_owned_none (P := P) (w := w) base t ty e i 32 ht hi v n (u8v F) hown, ?_, ⟨rfl, rfl, rfl, Nat.le_refl _, fun _ _ _ => rfl⟩⟩
      rw [List.append_nil]; exact hown
  · obtain ⟨v', w', hrun, ho, hg, _⟩ := run_append_own (P := P) w base t ty e i (.agg (u8s (zerosB 32))) 32 32 ht hi hz hs hb (by simp [Value.cells, u8s_size, zerosB_length]) (by omega) v n (u8v F) hown ⟨b, o, none⟩ m c (u8v G)
      (by rw [u8v_length]; omega) (RdB.src h5) (u8v_one G) (by unfold maxLen; omega) (by omega) hbase
    refine ⟨v', w', hrun, ?_, hg⟩
    unfold OwnI
    rw [u8v_append]; exact ho
theorem appendIs {P : Program} {ops : Array Oper} {rest : List Oper} {o : Oper} {a : Act} {w : World} {Q : Exit → Act → World → Prop} (hgd : o.guard = none) (s x : Operand) (t : TypeId)
    (ho : o.op = .call { callee := .builtin .append, args := #[s, x], argTypes := #[t, t] })
    (base : Nat) (e : TypeId) (ht : P.underlying t = some (.slice e)) (hinfo : (P.info? e).map (fun i => (i.zero, i.size, i.bytes)) = some (some (.agg (u8s (zerosB 32))), 32, 32))
    (v : Value) (hs : a.eval s = v) (n : Nat) (F : List Int) (hown : OwnI base e w v n F) (sv : Value) (hx : a.eval x = sv) (m : Nat) (G : List Int) (hr : RdI w sv m G) (hlen : n + m ≤ 1000000) (hbase : base ≤ w.heap.size)
    (h : ∀ v' w', OwnI base e w' v' (n + m) (F ++ G) → w.grownBy w' v.ownBlock → Stop (wpList P ops Q rest (a.put o.dst v') w')) : wpList P ops Q (o :: rest) a w := by
  refine wpList_plain hgd fun K hK => ?_
  obtain ⟨v', w', hrun, h2, h3⟩ := run_appendIs (P := P) w base t o.type e ht hinfo v n F hown sv m G hr hlen hbase
  unfold Oper.wp execOp
  simp only [ho, resolve, invoke, builtin, Sem.run_bind, Sem.run_pure, Result.andThen_ok, List.map_toArray, List.map_cons, List.map_nil, hs, hx, hrun]
  exact hK _ _ (h v' w' h2 h3).out
theorem ownI_setRow {base : Nat} {E : TypeId} {w : World} {v : Value} {n : Nat} {F : List Int} (h : OwnI base E w v n F) {g : Nat} (hg : g < base) (cs : Array Value) : OwnI base E (w.setRow g cs) v n F := by
  refine ⟨h.1, ?_⟩
  rcases h.2 with hn | ⟨k, cap, cur, rfl, hbg, hk, rest⟩
  · exact .inl hn
  · exact .inr ⟨k, cap, cur, rfl, hbg, (setRow_other w g k cs (by omega)).trans hk, rest⟩
set_option maxHeartbeats 4000000 in
set_option maxRecDepth 100000 in
theorem frameOf_any (k : Int) (n : Nat) (hn : n ≤ 1000) (F : List Int) (v : Value) (w : World) (hr : RdI w v n F) :
    Calls Try.prog 23 #[.int .u8 k, v] w fun e w' => ∃ qa qc, e = .returned (.agg ((⟨k, 0, n, F, []⟩ : Fr).c (.slice qa n qc) (.slice none 0 0))) ∧ OwnI w.heap.size 47 w' (.slice qa n qc) n F ∧ Below w.heap.size w w' := by
  obtain ⟨W, hW⟩ : ∃ W, W = w.alloc (.cells ((kF 0).c (.slice none 0 0) (.slice none 0 0)) 26) := ⟨_, rfl⟩
  have hs := Lib.hid (show W.heap[w.heap.size]? = some (.cells ((kF 0).c (.slice none 0 0) (.slice none 0 0)) 26 (0, 0)) by rw [hW]; exact heap_alloc_new w _)
  have hB := Lib.hid (show Below w.heap.size w W by rw [hW]; exact (Below.refl w.heap.size w).alloc (Nat.le_refl _) _)
  have hsz := Lib.hid (show W.heap.size = w.heap.size + 1 by rw [hW]; simp)
  have hrW := Lib.hid (hr.mono hB.out)
  obtain ⟨a, c, rfl⟩ := hr.slice
  clear hr
  go_enter Try.func23, Try.ntmps23
  go_upto_region 1 with fail
  change Code.wp _ _ _ _ (w.alloc (.cells ((kF 0).c (.slice none 0 0) (.slice none 0 0)) 26))
  rw [← hW]
  clear hW
  go_wp2_with (refine appendIs rfl _ _ 23 rfl W.heap.size 47 Try.underlying23 (by kernel_rfl) _ rfl 0 [] (OwnI.nil W W.heap.size 47) _ rfl n F hrW.out (by omega) (Nat.le_refl _) ?_)
  intro v2 w2 h1 h2
  have hB2 := (OwnI.nil W W.heap.size 47).below h2 (Nat.le_refl _)
  obtain ⟨qa, qc, rfl⟩ := h1.rd.slice
  replace hs := Lib.hid (rowB hs.out hB2 (Array.getElem?_eq_some_iff.1 hs.out).1)
  replace hB := Lib.hid (hB.out.trans (hB2.mono hB.out.size))
  have hH := Lib.hid h1
  clear h1 h2 hB2 hrW
  refine Stop.go ?_
  go_wp2_with (refine wpList_store_row rfl 26 _ _ rfl w.heap.size ((⟨k, 0, n, F, []⟩ : Fr).c (.slice qa n qc) (.slice none 0 0)) rfl rfl 26 _ hs.out info_frame rfl (fr_one _ _ _ _ _ _ _) ?_)
  exact bodyPost_ret (results_cell_row rfl _ _ w.heap.size 26 _ _ _ rfl (setRow_heap _ _ _ _ _ _ hs.out) Try.underlying26 rfl info_frame) rfl ⟨qa, qc, rfl, (ownI_setRow hH.out (by have := hsz.out; omega) _).mono (by have := hsz.out; omega), below_setRow' hB.out (Nat.le_refl _) _⟩
end Go.Proofs.Ytfaojjleapenaab
namespace Go.Proofs.Ytfaojjleapenaab
open Go.RowKit Go.Ytfaojjleapenaab
set_option linter.unusedVariables false
theorem heldI_own_kept {B : Nat} {w w' : World} {v s : Value} {n m S : Nat} {F : List Int} {e : TypeId} {xs : List Value} (h : OwnI B 47 w v n F) (ho : w.ownsRow B e S s m xs) (hne : 47 ≠ e) (hg : w.grownBy w' s.ownBlock) : OwnI B 47 w' v n F :=
  World.ownsRow.kept h hg (owns_ne h ho hne)
/-- A slice of one frame of one's own. -/
def OneF (B : Nat) (w : World) (v : Value) (f : Fr) : Prop := ∃ xa xc, w.ownsRow B 26 4 v 1 (f.c (.slice xa f.n xc) (.slice none 0 0)).toList ∧ OwnI B 47 w (.slice xa f.n xc) f.n f.F
def TwoF (B : Nat) (w : World) (v : Value) (f g : Fr) : Prop := ∃ xa xc ya yc, w.ownsRow B 26 4 v 2 ((f.c (.slice xa f.n xc) (.slice none 0 0)).toList ++ (g.c (.slice ya g.n yc) (.slice none 0 0)).toList) ∧ OwnI B 47 w (.slice xa f.n xc) f.n f.F ∧ OwnI B 47 w (.slice ya g.n yc) g.n g.F
/-- What Split answers. -/
def splitPost (k : Int) (n : Nat) (F : List Int) (w : World) (e : Ending) (w' : World) : Prop :=
  Below w.heap.size w w' ∧ (if idsK k = true then (if n ≤ 60 then (if riseF F n = true then
      (∃ v, e = .returned (.tuple #[v, .int .i64 0]) ∧ ((n ≤ 40 ∧ OneF w.heap.size w' v ⟨k, 0, n, F, []⟩) ∨ (40 < n ∧ TwoF w.heap.size w' v ⟨k, 0, 40, F.take (32 * 40), []⟩ ⟨k, 0, n - 40, F.drop (32 * 40), []⟩)))
    else e = .returned (.tuple #[.slice none 0 0, .int .i64 32])) else e = .returned (.tuple #[.slice none 0 0, .int .i64 4])) else e = .returned (.tuple #[.slice none 0 0, .int .i64 2]))
set_option maxHeartbeats 4000000 in
set_option maxRecDepth 100000 in
theorem split_any (k : Int) (n : Nat) (hn : n ≤ 100000) (F : List Int) (hF : Bytes F) (v : Value) (w : World) (hr : RdI w v n F) :
    Calls Try.prog 9 #[v, .int .u8 k] w (splitPost k n F w) := by
  have hp : ∀ e w', splitPost k n F w e w' = (Below w.heap.size w w' ∧ (if idsK k = true then (if n ≤ 60 then (if riseF F n = true then
      (∃ v, e = .returned (.tuple #[v, .int .i64 0]) ∧ ((n ≤ 40 ∧ OneF w.heap.size w' v ⟨k, 0, n, F, []⟩) ∨ (40 < n ∧ TwoF w.heap.size w' v ⟨k, 0, 40, F.take (32 * 40), []⟩ ⟨k, 0, n - 40, F.drop (32 * 40), []⟩)))
    else e = .returned (.tuple #[.slice none 0 0, .int .i64 32])) else e = .returned (.tuple #[.slice none 0 0, .int .i64 4])) else e = .returned (.tuple #[.slice none 0 0, .int .i64 2]))) := fun _ _ => rfl
  generalize splitPost k n F w = PO at *
  have hD := Lib.hid (fun wz => hasIDs_any k wz)
  obtain ⟨a, c, rfl⟩ := hr.slice
  cases hk : idsK k
  · rw [hk] at hD
    have hp' := Lib.hid hp
    clear hr hp hn
    go_enter Try.func9, Try.ntmps9
    go_wp2_with (go_at_call 21; (with_reducible refine (hD.out _).mono ?_); rintro e w2 ⟨rfl, rfl⟩)
    rw [hp'.out]
    exact ⟨Below.refl _ _, by rw [if_neg (by rw [hk]; decide)]; rfl⟩
  rw [hk] at hD
  by_cases h60 : n ≤ 60
  · have hI := Lib.hid (frIncrease_any F n _ w hr hF hn)
    cases hri : riseF F n
    · rw [hri] at hI
      have hp' := Lib.hid hp
      clear hr hp hn
      go_enter Try.func9, Try.ntmps9
      go_wp2_with (first | (go_at_call 21; (with_reducible refine (hD.out _).mono ?_); rintro e w2 ⟨rfl, rfl⟩) | (go_at_call 22; (with_reducible refine (hI.out).mono ?_); rintro e w3 ⟨rfl, h3⟩; have hB := Lib.hid h3; clear h3))
      rw [hp'.out]
      exact ⟨hB.out, by rw [if_pos hk, if_pos h60, if_neg (by rw [hri]; decide)]; rfl⟩
    · rw [hri] at hI
      have hp' := Lib.hid hp
      have hrw := Lib.hid hr
      clear hp hn
      by_cases h40 : n ≤ 40
      · have hfo := Lib.hid (fun (wz : World) (h : Below w.heap.size w wz) => frameOf_any k n (by omega) F _ wz (hr.mono h))
        clear hr
        go_enter Try.func9, Try.ntmps9
        go_upto_region 7 with (first | (go_at_call 21; (with_reducible refine (hD.out _).mono ?_); rintro e w2 ⟨rfl, rfl⟩) | (go_at_call 22; (with_reducible refine (hI.out).mono ?_); rintro e w3 ⟨rfl, h3⟩; have hB := Lib.hid h3; clear h3))
        go_wp2
        go_loopw [0, 6] (fun x y wr => x = .slice a n c ∧ y = .slice none 0 0 ∧ w3 = wr) (fun _ _ _ => 0)
        case atStart => exact ⟨rfl, rfl, rfl⟩
        case round =>
          obtain ⟨rfl, rfl, rfl⟩ := hrel
          go_wp2_with (first
            | (go_at_call 23; (with_reducible refine (hfo.out _ hB.out).mono ?_); rintro e w4 ⟨x1, y1, rfl, q1, q2⟩; have hq2 := Lib.hid q2; have hB4 := Lib.hid (hB.out.trans (q2.mono hB.out.size)); have ho1 := Lib.hid (q1.mono hB.out.size); clear q1 q2)
            | (refine appendG rfl _ _ 35 rfl w.heap.size 26 4 64 (.agg #[.int .u8 0, .int .u64 0, .slice none 0 0, .slice none 0 0]) Try.underlying35 (by kernel_rfl) rfl (by decide) (by decide) _ rfl 0 [] (owns_kept (World.ownsRow_nil w4 w.heap.size 26 4) (below_a w4 (.cells ((⟨k, 0, n, F, []⟩ : Fr).c (.slice x1 n y1) (.slice none 0 0)) 26))) w4.heap.size 1 1 rfl ((⟨k, 0, n, F, []⟩ : Fr).c (.slice x1 n y1) (.slice none 0 0)) rfl 26 (heap_alloc_new w4 _) (fr_one _ _ _ _ _ _ _) (by decide) (by have := hB4.out.size; simp; omega) ?_))
          intro v6 w6 h1 h2 h3
          have hB6 := Lib.hid ((hB4.out.alloc hB4.out.size (.cells ((⟨k, 0, n, F, []⟩ : Fr).c (.slice x1 n y1) (.slice none 0 0)) 26)).trans h3)
          have ho6 := Lib.hid (heldI_own_kept (ho1.out.kept (below_a w4 (.cells ((⟨k, 0, n, F, []⟩ : Fr).c (.slice x1 n y1) (.slice none 0 0)) 26))) (World.ownsRow_nil _ w.heap.size 26 4) (by decide) h2)
          have hn6 := Lib.hid h1
          clear h1 h2 h3
          refine Stop.go ?_
          go_wp2
          rw [hp'.out]
          refine ⟨hB6.out, ?_⟩
          rw [if_pos hk, if_pos h60, if_pos hri]
          exact ⟨_, rfl, .inl ⟨h40, x1, y1, hn6.out, ho6.out⟩⟩
      · have h41 : 40 < n := by omega
        obtain ⟨b, o, rfl, hcap⟩ := rdI_some hr (by omega)
        obtain ⟨D, hD'⟩ : ∃ D, n - 40 = D := ⟨_, rfl⟩
        have hDn : D ≤ 20 := by omega
        have hcap2 : ¬ c = 40 := by omega
        have hcap3 : 40 ≤ c := by omega
        have hDh := Lib.hid hD'
        have hl1 := rdI_last hr 40 h41
        rw [hD'] at hl1
        have hfo := Lib.hid (fun (wz : World) (h : Below w.heap.size w wz) => frameOf_any k 40 (by decide) (F.take (32 * 40)) _ wz ((rdI_first hr 40 (by omega)).mono h))
        have hfl := Lib.hid (fun (wz : World) (h : Below w.heap.size w wz) => frameOf_any k D (by omega) (F.drop (32 * 40)) _ wz (hl1.mono h))
        clear hr hl1
        go_enter Try.func9, Try.ntmps9
        go_upto_region 7 with (first | (go_at_call 21; (with_reducible refine (hD.out _).mono ?_); rintro e w2 ⟨rfl, rfl⟩) | (go_at_call 22; (with_reducible refine (hI.out).mono ?_); rintro e w3 ⟨rfl, h3⟩; have hB := Lib.hid h3; clear h3))
        go_wp2
        go_loopw [0, 6] (fun x y wr => (x = .slice (some ⟨b, o, none⟩) n c ∧ y = .slice none 0 0 ∧ w3 = wr) ∨ (x = .slice (some ⟨b, o + 40 * 32, none⟩) D (c - 40) ∧ Below w.heap.size w wr ∧ OneF w.heap.size wr y ⟨k, 0, 40, F.take (32 * 40), []⟩)) (fun x _ _ => match x with | .slice _ m _ => m | _ => 0)
        case atStart => exact .inl ⟨rfl, rfl, rfl⟩
        case round =>
          rcases hrel with ⟨rfl, rfl, rfl⟩ | ⟨rfl, hb6, hf6⟩
          · go_wp2_with (first
              | (go_at_call 23; (with_reducible refine (hfo.out _ hB.out).mono ?_); rintro e w4 ⟨x1, y1, rfl, q1, q2⟩; have hq2 := Lib.hid q2; have hB4 := Lib.hid (hB.out.trans (q2.mono hB.out.size)); have ho1 := Lib.hid (q1.mono hB.out.size); clear q1 q2)
              | (refine appendG rfl _ _ 35 rfl w.heap.size 26 4 64 (.agg #[.int .u8 0, .int .u64 0, .slice none 0 0, .slice none 0 0]) Try.underlying35 (by kernel_rfl) rfl (by decide) (by decide) _ rfl 0 [] (owns_kept (World.ownsRow_nil w4 w.heap.size 26 4) (below_a w4 (.cells ((⟨k, 0, 40, F.take (32 * 40), []⟩ : Fr).c (.slice x1 40 y1) (.slice none 0 0)) 26))) w4.heap.size 1 1 rfl ((⟨k, 0, 40, F.take (32 * 40), []⟩ : Fr).c (.slice x1 40 y1) (.slice none 0 0)) rfl 26 (heap_alloc_new w4 _) (fr_one _ _ _ _ _ _ _) (by decide) (by have := hB4.out.size; simp; omega) ?_))
            intro v6 w6 h1 h2 h3
            have hB6 := Lib.hid ((hB4.out.alloc hB4.out.size (.cells ((⟨k, 0, 40, F.take (32 * 40), []⟩ : Fr).c (.slice x1 40 y1) (.slice none 0 0)) 26)).trans h3)
            have ho6 := Lib.hid (heldI_own_kept (ho1.out.kept (below_a w4 (.cells ((⟨k, 0, 40, F.take (32 * 40), []⟩ : Fr).c (.slice x1 40 y1) (.slice none 0 0)) 26))) (World.ownsRow_nil _ w.heap.size 26 4) (by decide) h2)
            have hn6 := Lib.hid h1
            clear h1 h2 h3
            refine Stop.go ?_
            go_wp2
            exact ⟨.inr ⟨rfl, hB6.out, x1, y1, hn6.out, ho6.out⟩, by simp only; omega⟩
          · obtain ⟨x1, y1, hn0, hi0⟩ := hf6
            have hB := Lib.hid hb6
            have hn1 := Lib.hid hn0
            have hi1 := Lib.hid hi0
            clear hb6 hn0 hi0
            dsimp only at hn1 hi1
            go_wp2_with (first
              | (go_at_call 23; (with_reducible refine (hfl.out _ hB.out).mono ?_); rintro e w4 ⟨x2, y2, rfl, q1, q2⟩; have hB4 := Lib.hid (hB.out.trans (q2.mono hB.out.size)); have ho1 := Lib.hid (q1.mono hB.out.size); have hi2 := Lib.hid (hi1.out.kept q2); have hn2 := Lib.hid (owns_kept hn1.out q2); clear q1 q2)
              | (refine appendG rfl _ _ 35 rfl w.heap.size 26 4 64 (.agg #[.int .u8 0, .int .u64 0, .slice none 0 0, .slice none 0 0]) Try.underlying35 (by kernel_rfl) rfl (by decide) (by decide) _ rfl 1 (((⟨k, 0, 40, F.take (32 * 40), []⟩ : Fr).c (.slice x1 40 y1) (.slice none 0 0))).toList (owns_kept hn2.out (below_a w4 (.cells ((⟨k, 0, D, F.drop (32 * 40), []⟩ : Fr).c (.slice x2 D y2) (.slice none 0 0)) 26))) w4.heap.size 1 1 rfl ((⟨k, 0, D, F.drop (32 * 40), []⟩ : Fr).c (.slice x2 D y2) (.slice none 0 0)) rfl 26 (heap_alloc_new w4 _) (fr_one _ _ _ _ _ _ _) (by decide) (by have := hB4.out.size; simp; omega) ?_))
            intro v6 w6 h1 h2 h3
            have hB6 := Lib.hid ((hB4.out.alloc hB4.out.size (.cells ((⟨k, 0, D, F.drop (32 * 40), []⟩ : Fr).c (.slice x2 D y2) (.slice none 0 0)) 26)).trans h3)
            have ho6 := Lib.hid (heldI_own_kept (ho1.out.kept (below_a w4 (.cells ((⟨k, 0, D, F.drop (32 * 40), []⟩ : Fr).c (.slice x2 D y2) (.slice none 0 0)) 26))) (owns_kept hn2.out (below_a w4 (.cells ((⟨k, 0, D, F.drop (32 * 40), []⟩ : Fr).c (.slice x2 D y2) (.slice none 0 0)) 26))) (by decide) h2)
            have hi6 := Lib.hid (heldI_own_kept (hi2.out.kept (below_a w4 (.cells ((⟨k, 0, D, F.drop (32 * 40), []⟩ : Fr).c (.slice x2 D y2) (.slice none 0 0)) 26))) (owns_kept hn2.out (below_a w4 (.cells ((⟨k, 0, D, F.drop (32 * 40), []⟩ : Fr).c (.slice x2 D y2) (.slice none 0 0)) 26))) (by decide) h2)
            have hn6 := Lib.hid h1
            clear h1 h2 h3
            refine Stop.go ?_
            go_wp2
            rw [hp'.out]
            refine ⟨hB6.out, ?_⟩
            rw [if_pos hk, if_pos h60, if_pos hri, hDh.out]
            exact ⟨_, rfl, .inr ⟨h41, x1, y1, x2, y2, hn6.out, hi6.out, ho6.out⟩⟩
  · have hp' := Lib.hid hp
    clear hr hp
    go_enter Try.func9, Try.ntmps9
    go_wp2_with (go_at_call 21; (with_reducible refine (hD.out _).mono ?_); rintro e w2 ⟨rfl, rfl⟩)
    rw [hp'.out]
    exact ⟨Below.refl _ _, by rw [if_pos hk, if_neg h60]; rfl⟩
end Go.Proofs.Ytfaojjleapenaab

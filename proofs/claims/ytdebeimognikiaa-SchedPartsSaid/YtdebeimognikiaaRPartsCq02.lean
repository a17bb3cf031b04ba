/- Texts that the row stands on, part 2. -/
import Derived.Test.YtdebeimognikiaaRPartsCq01
namespace Go.Proofs.Ytdebeimognikiaa.con
open Go.RowKit Go.Ytdebeimognikiaa
set_option linter.unusedVariables false
/-- The value 'v' is a slice of slices of bytes that reads as' 'L'. -/
def RdM (w : World) (v : Value) (L : List (List Int)) : Prop :=
  (∃ a c, v = .slice a 0 c ∧ (a = none → c = 0) ∧ L = []) ∨ ∃ b o c, v = .slice (some ⟨b, o, none⟩) L.length c ∧ L.length ≤ c ∧ c ≤ maxLen ∧ b < w.heap.size ∧ ∀ i, i < L.length → ∃ s, w.cell? ⟨b, o + i, none⟩ = some s ∧ RdN w s (nthL L i)
theorem RdM.mono {w w' : World} {v : Value} {L : List (List Int)} (h : RdM w v L) (hb : Below w.heap.size w w') : RdM w' v L := by
  rcases h with h | ⟨b, o, c, hv, h1, h2, h3, h4⟩
  · exact .inl h
  · refine .inr ⟨b, o, c, hv, h1, h2, Nat.lt_of_lt_of_le h3 hb.size, fun i hi => ?_⟩
    obtain ⟨s, hs, hr⟩ := h4 i hi
    exact ⟨s, (hb.cell (p := (⟨b, o + i, none⟩ : Addr)) h3).trans hs, hr.mono hb⟩
theorem RdM.slice {w : World} {v : Value} {L : List (List Int)} (h : RdM w v L) : ∃ a c, v = .slice a L.length c := by
  rcases h with ⟨a, c, rfl, _, rfl⟩ | ⟨b, o, c, hv, _⟩
  · exact ⟨a, c, rfl⟩
  · exact ⟨_, c, hv⟩
theorem RdM.at {w : World} {a : Option Addr} {n c : Nat} {L : List (List Int)} (h : RdM w (.slice a n c) L) (i : Nat) (hi : i < L.length) : ∃ b o, a = some ⟨b, o, none⟩ ∧ b < w.heap.size ∧ ∃ s, w.cell? ⟨b, o + i, none⟩ = some s ∧ RdN w s (nthL L i) := by
  rcases h with ⟨_, _, _, _, rfl⟩ | ⟨b, o, c', hv, h1, h2, h3, h4⟩
  · exact absurd hi (Nat.not_lt_zero _)
  · cases hv
    exact ⟨b, o, rfl, h3, h4 i hi⟩
theorem RdM.nil (w : World) : RdM w (.slice none 0 0) [] := .inl ⟨none, 0, rfl, fun _ => rfl, rfl⟩
theorem owns_keptM {base : Nat} {e : TypeId} {size : Nat} {w w' : World} {v : Value} {n : Nat} {xs : List Value} (h : w.ownsRow base e size v n xs) (hb : Below w.heap.size w w') : w'.ownsRow base e size v n xs := by
  refine ⟨h.1, ?_⟩
  rcases h.2 with hn | ⟨g, cap, cur, rfl, hbg, hg, rest⟩
  · exact .inl hn
  · exact .inr ⟨g, cap, cur, rfl, hbg, (hb.block g (Array.getElem?_eq_some_iff.1 hg).1).trans hg, rest⟩
theorem owns_sameM {base : Nat} {e : TypeId} {size : Nat} {w w' : World} {v : Value} {n : Nat} {xs : List Value} (h : w.ownsRow base e size v n xs) (h1 : ∀ k, base ≤ k → k < w.heap.size → w'.heap[k]? = w.heap[k]?) : w'.ownsRow base e size v n xs := by
  refine ⟨h.1, ?_⟩
  rcases h.2 with hn | ⟨g, cap, cur, rfl, hbg, hg, rest⟩
  · exact .inl hn
  · exact .inr ⟨g, cap, cur, rfl, hbg, (h1 g hbg (Array.getElem?_eq_some_iff.1 hg).1).trans hg, rest⟩
/-- A slice of strings that is the call's own, each string too. -/
def OwnM (B : Nat) (T8 TS : TypeId) (w : World) (v : Value) (L : List (List Int)) : Prop :=
  ∃ vs : List Value, vs.length = L.length ∧ w.ownsRow B TS 1 v vs.length vs ∧ ∀ i, i < L.length → ∃ s, vs[i]? = some s ∧ OwnN B T8 w s (nthL L i)
theorem OwnM.nil (w : World) (B : Nat) (T8 TS : TypeId) : OwnM B T8 TS w (.slice none 0 0) [] := ⟨[], rfl, World.ownsRow_nil w B TS 1, fun i hi => absurd hi (Nat.not_lt_zero _)⟩
theorem OwnM.rd {B : Nat} {T8 TS : TypeId} {w : World} {v : Value} {L : List (List Int)} (h : OwnM B T8 TS w v L) : RdM w v L := by
  obtain ⟨vs, hl, ho, hs⟩ := h
  rcases ho.2 with ⟨rfl, h0⟩ | ⟨g, cap, cur, rfl, hb, hg, hn, hm, hz, ht⟩
  · exact .inl ⟨none, 0, rfl, fun _ => rfl, List.eq_nil_of_length_eq_zero (hl.symm.trans h0)⟩
  · refine .inr ⟨g, 0, cap, by rw [hl], by omega, hm, (Array.getElem?_eq_some_iff.1 hg).1, fun i hi => ?_⟩
    obtain ⟨s, h1, h2⟩ := hs i hi
    have hcell := World.ownsRow.cells (g := g) ho rfl i s h1
    rw [addr_add] at hcell
    exact ⟨s, hcell, h2.rd⟩
theorem OwnM.kept {B : Nat} {T8 TS : TypeId} {w w' : World} {v : Value} {L : List (List Int)} (h : OwnM B T8 TS w v L) (hb : Below w.heap.size w w') : OwnM B T8 TS w' v L := by
  obtain ⟨vs, hl, ho, hs⟩ := h
  refine ⟨vs, hl, owns_keptM ho hb, fun i hi => ?_⟩
  obtain ⟨s, h1, h2⟩ := hs i hi
  exact ⟨s, h1, h2.kept hb⟩
theorem OwnM.mono {B B' : Nat} {T8 TS : TypeId} {w : World} {v : Value} {L : List (List Int)} (h : OwnM B T8 TS w v L) (hB : B' ≤ B) : OwnM B' T8 TS w v L := by
  obtain ⟨vs, hl, ho, hs⟩ := h
  refine ⟨vs, hl, ⟨ho.1, ?_⟩, fun i hi => ?_⟩
  · rcases ho.2 with hn | ⟨g, cap, cur, rfl, hbg, rest⟩
    · exact .inl hn
    · exact .inr ⟨g, cap, cur, rfl, Nat.le_trans hB hbg, rest⟩
  · obtain ⟨s, h1, h2⟩ := hs i hi
    exact ⟨s, h1, h2.mono hB⟩
theorem OwnM.below {B : Nat} {T8 TS : TypeId} {w w' : World} {v : Value} {L : List (List Int)} (h : OwnM B T8 TS w v L) (hg : w.grownBy w' v.ownBlock) (hb : B ≤ w.heap.size) : Below B w w' := by
  obtain ⟨vs, hl, ho, hs⟩ := h
  exact Below.grown (Below.refl B w) hg hb (fun k hk => (World.ownsRow.lt ho k hk).1)
theorem OwnM.slice {B : Nat} {T8 TS : TypeId} {w : World} {v : Value} {L : List (List Int)} (h : OwnM B T8 TS w v L) : ∃ a c, v = .slice a L.length c := h.rd.slice
theorem OwnM.els {B g : Nat} {T8 TS : TypeId} {w w' : World} {v : Value} {L : List (List Int)} (h : OwnM B T8 TS w v L) (he : ElsN g w w') (hg : g < B) : OwnM B T8 TS w' v L := by
  obtain ⟨vs, hl, ho, hs⟩ := h
  have hn : ∀ k, B ≤ k → k < w.heap.size → w'.heap[k]? = w.heap[k]? := fun k h1 h2 => he.row (by omega) h2
  refine ⟨vs, hl, owns_sameM ho hn, fun i hi => ?_⟩
  obtain ⟨s, h1, h2⟩ := hs i hi
  exact ⟨s, h1, h2.els he hg⟩
theorem OwnM.low {base : Nat} {T8 TS : TypeId} {w w' : World} {v : Value} {L : List (List Int)} (h : OwnM base T8 TS w v L) (hg : w.grownBy w' v.ownBlock) {j : Nat} (hj : j < base) (hl : j < w.heap.size) : w'.heap[j]? = w.heap[j]? := by
  obtain ⟨vs, _, ho, _⟩ := h
  exact hg.block j hl (fun e => by have := (World.ownsRow.lt ho j e.symm).1; omega)
/-- A slice that is cut. -/
theorem slicedN {w : World} {a : Option Addr} {n c : Nat} {l : List Int} (h : RdN w (.slice a n c) l) (hn : l.length = n) (lo hi : Nat) (h1 : lo ≤ hi) (h2 : hi ≤ n) :
    ∃ a' c', sliced a lo hi c 1 = .slice a' (hi - lo) c' ∧ RdN w (.slice a' (hi - lo) c') ((l.take hi).drop lo) := by
  have hl : ((l.take hi).drop lo).length = hi - lo := by simp; omega
  unfold sliced
  rcases h with ⟨a0, c0, hv, h0, rfl⟩ | ⟨b, o, c0, hv, h4, h5, h6, h7⟩
  · injection hv with e1 e2 e3
    subst e1 e3
    have hhi : hi = 0 := by simp at hn; omega
    have hlo : lo = 0 := by omega
    subst hhi hlo
    refine ⟨_, _, rfl, .inl ⟨_, _, rfl, fun e => ?_, by simp⟩⟩
    cases a with
    | none => rw [h0 rfl]
    | some x => split at e <;> cases e
  · injection hv with e1 e2 e3
    subst e1 e3
    by_cases hc : c = lo
    · rw [if_pos hc]
      have he : (l.take hi).drop lo = [] := List.eq_nil_of_length_eq_zero (by rw [hl]; omega)
      rw [he, show hi - lo = 0 by omega]
      exact ⟨_, _, rfl, .inl ⟨_, _, rfl, (fun e => by cases e), rfl⟩⟩
    · rw [if_neg hc]
      refine ⟨_, _, rfl, .inr ⟨b, o + lo, c - lo, ?_, by rw [hl]; omega, by omega, h6, fun i hi2 => ?_⟩⟩
      · rw [hl]; simp [Addr.add]
      · rw [hl] at hi2
        rw [ith_drop, ith_take l hi (lo + i) (by omega), ← h7 (lo + i) (by omega), Nat.add_assoc]
theorem sizeOf_one {P : Program} {w : World} {t : TypeId} (hs : (P.info? t).map (·.size) = some 1) : (sizeOf t).run P w = .ok 1 w := by
  cases hi : P.info? t with
  | none => rw [hi] at hs; cases hs
  | some i =>
    rw [hi] at hs
    have : i.size = 1 := by simpa using hs
    simp [sizeOf, typeInfo, hi, this]
end Go.Proofs.Ytdebeimognikiaa.con
namespace Go.Proofs.Ytdebeimognikiaa.con
open Go.RowKit Go.Ytdebeimognikiaa
set_option linter.unusedVariables false
theorem RunI.els {w : World} {B5 g h bx rs q : Nat} {bc rc : Array Value} {A St : List Int} {wr w' : World} (i : RunI w B5 g h bx rs bc rc A St wr) (he : ElsN q wr w') (hq : w.heap.size ≤ q) (h1 : g ≠ q) (h2 : h ≠ q) (h3 : bx ≠ q) (h4 : rs ≠ q) : RunI w B5 g h bx rs bc rc A St w' :=
  ⟨he.to i.b i.b.size hq, Nat.le_trans i.s he.size, i.row.to (he.row h1 i.row.lt), i.aft.to (he.row h2 i.aft.lt), he.ob i.box h3, he.ob i.res h4⟩
/-- The waits, those below i already of one pick more. -/
def Wts (L A Q : List Int) (n k i : Nat) (l : List Int) : Prop := l.length = n ∧ ∀ j, j < n → ith l j = if j < i then (wt L A Q (k + 1) j : Int) else (wt L A Q k j : Int)
theorem wts_zero (L A Q : List Int) (n : Nat) : Wts L A Q n 0 0 (zerosN n) := ⟨zerosN_length n, fun j _ => by rw [if_neg (Nat.not_lt_zero _), ith_zerosN]; rfl⟩
theorem wts_at {L A Q : List Int} {n k i : Nat} {l : List Int} (h : Wts L A Q n k i l) (hi : i < n) : ith l i = (wt L A Q k i : Int) := by rw [h.2 i hi, if_neg (Nat.lt_irrefl _)]
theorem wts_set {L A Q : List Int} {n k i : Nat} {l : List Int} (h : Wts L A Q n k i l) (hi : i < n) : Wts L A Q n k (i + 1) (l.set i (wt L A Q (k + 1) i : Int)) := by
  refine ⟨by rw [List.length_set]; exact h.1, fun j hj => ?_⟩
  rw [ith_set]
  by_cases e : i = j
  · subst e
    rw [if_pos ⟨rfl, by rw [h.1]; exact hj⟩, if_pos (by omega)]
  · rw [if_neg (fun g => e g.1), h.2 j hj]
    by_cases g : j < i
    · rw [if_pos g, if_pos (by omega)]
    · rw [if_neg g, if_neg (by omega)]
theorem wts_next {L A Q : List Int} {n k : Nat} {l : List Int} (h : Wts L A Q n k n l) : Wts L A Q n (k + 1) 0 l := ⟨h.1, fun j hj => by rw [h.2 j hj, if_pos hj, if_neg (Nat.not_lt_zero _)]⟩
theorem stay_no {L A Q : List Int} {k i : Nat} (h : stay L A Q i k = false) : wt L A Q (k + 1) i = 0 := by rw [wt_step, h]; rfl
theorem stay_yes {L A Q : List Int} {k i : Nat} (h : stay L A Q i k = true) : wt L A Q (k + 1) i = wt L A Q k i + 1 := by rw [wt_step, if_pos h]
set_option maxHeartbeats 4000000 in
set_option maxRecDepth 100000 in
theorem longestWait_any (L A Q : List Int) (lv av pv : Value) (w : World) (hL : RdN w lv L) (hA : RdN w av A) (hQ : RdN w pv Q) (hO : OkP L A Q) :
    Calls Try.prog 40 #[.agg (tkC lv av), pv] w fun e w' => ∃ M : Nat, e = .returned (.int .i64 (M : Int)) ∧ Longest L A Q L.length Q.length 0 M ∧ Below w.heap.size w w' := by
  obtain ⟨pa, pc, rfl⟩ := hQ.slice
  obtain ⟨m, hm⟩ : ∃ m, Q.length = m := ⟨_, rfl⟩
  have hm' := Lib.hid hm
  obtain ⟨n, hn⟩ : ∃ n, L.length = n := ⟨_, rfl⟩
  have hn' := Lib.hid hn
  have n12 := hO.t.hi
  have n1 := hO.t.lo
  have nA := hO.t.na
  have m300 := hO.many
  have hO' := Lib.hid hO
  rw [hm] at hQ m300 ⊢
  rw [hn] at n12 n1 nA ⊢
  have nA' := Lib.hid nA
  obtain ⟨W, hW⟩ : ∃ W, W = w.alloc (.cells (tkC lv av) 24) := ⟨_, rfl⟩
  have hS := Lib.hid (show Below w.heap.size w W by rw [hW]; exact below_a _ _)
  have r0 := Lib.hid (show W.heap[w.heap.size]? = some (.cells (tkC lv av) 24 (0, 0)) by rw [hW]; exact heap_alloc_new w _)
  have hsz := Lib.hid (show W.heap.size = w.heap.size + 1 by rw [hW]; simp)
  have hT9 := Lib.hid (copied_any L A lv av W (hL.mono hS.out) (hA.mono hS.out) (by omega) (by omega))
  have hQ' := Lib.hid hQ
  have hmk := Lib.hid (fun wz : World => run_makeN (P := Try.prog) wz 22 3 Try.underlying22 (by kernel_rfl) n (by omega))
  clear hL hA hQ hm hn nA hO
  go_enter Try.func40, Try.ntmps40
  go_upto_region 1 with fail
  rw [← hW]
  clear hW
  go_upto_region 2 with (first
    | (refine wpList_load_row_g rfl 24 _ rfl w.heap.size rfl 24 (tkC lv av) (0, 0) _ r0.out Try.underlying24 rfl info_tk ?_)
    | (go_at_call 33; (with_reducible refine hT9.out.mono ?_); rintro e8 w8 ⟨xv, yv, rfl, hTw, q8⟩; have hTw' := Lib.hid hTw; have q8' := Lib.hid q8; have one8 := Lib.hid (tk_one xv yv (own_one hTw.x) (own_one hTw.y)); have r4 := Lib.hid (rowK r0.out q8); clear hTw q8)
    | (refine wpList_store_row rfl 24 _ _ rfl w.heap.size (tkC xv yv) rfl rfl 24 _ r4.out info_tk rfl one8.out ?_))
  obtain ⟨g, c, rfl, hg0, hc1, hc2, hig⟩ := (hTw'.out.x.mono (Nat.le_refl _)).row (by rw [hn'.out]; omega)
  obtain ⟨h, c2, rfl, hh0, hd1, hd2, hih⟩ := (hTw'.out.y.mono (Nat.le_refl _)).row (by rw [nA'.out]; omega)
  have hgh : h ≠ g := fun e => hTw'.out.ne g rfl (by rw [← e]; rfl)
  rw [hn'.out] at hc1 ⊢
  rw [nA'.out] at hd1 ⊢
  obtain ⟨w5, hw5⟩ : ∃ w5, w5 = w8.setRow w.heap.size (tkC (.slice (some ⟨g, 0, none⟩) n c) (.slice (some ⟨h, 0, none⟩) n c2)) := ⟨_, rfl⟩
  have hsz5 := Lib.hid (show w5.heap.size = w8.heap.size by rw [hw5, size_setRow])
  have hW8 := Lib.hid (show w.heap.size + 1 ≤ w8.heap.size by rw [← hsz.out]; exact q8'.out.size)
  have hi0 := Lib.hid (show RunI w w8.heap.size g h w.heap.size w.heap.size (tkC (.slice (some ⟨g, 0, none⟩) n c) (.slice (some ⟨h, 0, none⟩) n c2)) (tkC (.slice (some ⟨g, 0, none⟩) n c) (.slice (some ⟨h, 0, none⟩) n c2)) A (runN L A Q 0) w5 from by
    rw [hw5]
    exact ⟨below_setRow' (hS.out.trans (q8'.out.mono hS.out.size)) (Nat.le_refl _) _, by rw [size_setRow]; exact Nat.le_refl _, hig.to (setRow_other _ _ _ _ (by have := hsz.out; omega)), hih.to (setRow_other _ _ _ _ (by have := hsz.out; omega)), setRow_heap _ _ _ _ _ _ r4.out, setRow_heap _ _ _ _ _ _ r4.out⟩)
  have hG := Lib.hid (show RunG w w8.heap.size g h w.heap.size w.heap.size from ⟨by have := hsz.out; omega, by have := hsz.out; omega, hig.lt, hih.lt, hgh, by have := hig.lt; have := hsz.out; omega, by have := hsz.out; omega, by have := hig.lt; have := hsz.out; omega, by have := hsz.out; omega, by have := hsz.out; omega⟩)
  have hc1' := Lib.hid hc1; have hc2' := Lib.hid hc2; have hd1' := Lib.hid hd1; have hd2' := Lib.hid hd2
  rw [← hw5]
  obtain ⟨B5, hB5⟩ : ∃ B5, B5 = w8.heap.size := ⟨_, rfl⟩
  rw [← hB5] at hi0 hG hsz5 hW8
  clear hTw' q8' one8 r4 r0 hT9 hg0 hh0 hig hih hgh hc1 hc2 hd1 hd2 hsz hw5 hB5
  have hXa := Lib.hid (below_a w5 (.cells (iV (zerosN n)).toArray 3))
  have hi1 := Lib.hid (hi0.out.below hXa.out)
  have hq1 := Lib.hid (show IRow 3 (w5.alloc (.cells (iV (zerosN n)).toArray 3)) B5 (zerosN n) from ⟨[], by rw [List.append_nil, ← hsz5.out]; exact heap_alloc_new w5 _⟩)
  have hmk5 := hmk.out w5
  rw [hsz5.out] at hmk5
  have c0 : w5.cell? ⟨w.heap.size, 0, none⟩ = some (.slice (some ⟨g, 0, none⟩) n c) := by rw [cell_of_row _ _ _ _ _ _ hi0.out.box]; rfl
  go_upto_region 4 with fail
  clear c0 hmk5 hmk hi0
  generalize w5.alloc (.cells (iV (zerosN n)).toArray 3) = w6 at *
  go_wp2
  go_loopw [5, 18] (fun v i wr => ∃ (k M : Nat) (l : List Int), k ≤ m ∧ i = .int .i64 (k : Int) ∧ v = .int .i64 (M : Int) ∧ M ≤ 300 ∧ RunI w B5 g h w.heap.size w.heap.size (tkC (.slice (some ⟨g, 0, none⟩) n c) (.slice (some ⟨h, 0, none⟩) n c2)) (tkC (.slice (some ⟨g, 0, none⟩) n c) (.slice (some ⟨h, 0, none⟩) n c2)) A (runN L A Q k) wr ∧ IRow 3 wr B5 l ∧ Wts L A Q n k 0 l ∧ Longest L A Q n k 0 M) (fun _ i _ => m - (intOf i).toNat)
  case atStart => exact ⟨0, 0, _, Nat.zero_le _, rfl, rfl, Nat.zero_le _, hi1.out, hq1.out, wts_zero L A Q n, longest_zero L A Q n⟩
  case round =>
    obtain ⟨k, M, l, hk, rfl, rfl, hM, hI0, hq0, hW0, hL0⟩ := hrel
    have hI := Lib.hid hI0; have hq := Lib.hid hq0; have hWt := Lib.hid hW0; have hLg := Lib.hid hL0
    clear hI0 hq0 hW0 hL0
    by_cases hlt : k < m
    · obtain ⟨b, o, rfl, hbw, q1⟩ := rdN_at hQ'.out k (by rw [hm'.out]; exact hlt)
      have d0 := q1 _ hI.out.b
      have hkI : (k : Int) < (m : Int) := by omega
      have hel := hO'.out.el k (by rw [hm'.out]; exact hlt)
      obtain ⟨p, hp⟩ : ∃ p : Nat, ith Q k = (p : Int) := ⟨(ith Q k).toNat, by omega⟩
      have hpk := Lib.hid (show pk Q k = p by unfold pk; rw [hp, Int.toNat_natCast])
      have hpn : p < n := by have := hn'.out; omega
      have hst := runN_step L A Q k
      rw [hpk.out] at hst
      have hst' := Lib.hid hst
      rw [hp] at d0
      have hOk := Lib.hid (runN_ok hO'.out.t k (P := Q))
      have hlk := Lib.hid (show (runN L A Q k).length = n by rw [runN_length, hn'.out])
      have hstay := Lib.hid (show ∀ i, stay L A Q i k = (can (runN L A Q k) A i && !decide (p = i)) from fun i => by unfold stay; rw [hpk.out])
      clear q1 hel hp hst
      generalize hSt : runN L A Q k = St at *
      clear hSt
      go_wp2
      clear d0
      go_loopw [5, 24] (fun v i wr => ∃ (i' M' : Nat) (l' : List Int), i' ≤ n ∧ i = .int .i64 (i' : Int) ∧ v = .int .i64 (M' : Int) ∧ M' ≤ 301 ∧ RunI w B5 g h w.heap.size w.heap.size (tkC (.slice (some ⟨g, 0, none⟩) n c) (.slice (some ⟨h, 0, none⟩) n c2)) (tkC (.slice (some ⟨g, 0, none⟩) n c) (.slice (some ⟨h, 0, none⟩) n c2)) A St wr ∧ IRow 3 wr B5 l' ∧ Wts L A Q n k i' l' ∧ Longest L A Q n k i' M') (fun _ i _ => n - (intOf i).toNat)
      case atStart => exact ⟨0, M, l, Nat.zero_le _, rfl, rfl, by omega, hI.out, hq.out, hWt.out, hLg.out⟩
      case round =>
        obtain ⟨i, M1, l1, hi, rfl, rfl, hM1, hI0, hq0, hW0, hL0⟩ := hrel
        clear hI hq hWt hLg
        have hI := Lib.hid hI0; have hq := Lib.hid hq0; have hWt := Lib.hid hW0; have hLg := Lib.hid hL0
        clear hI0 hq0 hW0 hL0
        by_cases hin : i < n
        · have hinI : (i : Int) < (n : Int) := by omega
          have hAh := Lib.hid (show HeldN g wr (.slice (some ⟨h, 0, none⟩) n c2) A from by
            have e := heldN_row (hI.out.aft) hG.out.gh (by rw [nA'.out]; exact hd1'.out) hd2'.out
            rwa [nA'.out] at e)
          have hRn := Lib.hid (show Calls Try.prog 34 #[.agg (tkC (.slice (some ⟨g, 0, none⟩) n c) (.slice (some ⟨h, 0, none⟩) n c2)), .int .i64 (i : Int)] wr fun e w' => e = .returned (.bool (can St A i)) ∧ Below wr.heap.size wr w' from by
            have e := hI.out.row.rd2 (by rw [hlk.out]; exact hc1'.out) hc2'.out
            rw [hlk.out] at e
            exact runnable_any St A (.slice (some ⟨g, 0, none⟩) n c) (.slice (some ⟨h, 0, none⟩) n c2) i wr e hAh.out.now hOk.out (by rw [hlk.out]; exact hin))
          have hstI := Lib.hid (hstay.out i)
          have hno := Lib.hid (fun h : stay L A Q i k = false => stay_no h)
          have hyes := Lib.hid (fun h : stay L A Q i k = true => stay_yes h)
          have hset := Lib.hid (wts_set hWt.out hin)
          have hstep := Lib.hid (longest_step hLg.out hin)
          have hat := Lib.hid (wts_at hWt.out hin)
          have hll := Lib.hid hWt.out.1
          have hwle := wt_le L A Q k i
          have hneq : B5 ≠ g ∧ B5 ≠ h ∧ B5 ≠ w.heap.size := by have := hG.out.g5; have := hG.out.h5; have := hG.out.b5; omega
          generalize wt L A Q (k + 1) i = W1 at *
          generalize wt L A Q k i = W0 at *
          have fin0 := Lib.hid (show ∀ wz, Below wr.heap.size wr wz → RunI w B5 g h w.heap.size w.heap.size (tkC (.slice (some ⟨g, 0, none⟩) n c) (.slice (some ⟨h, 0, none⟩) n c2)) (tkC (.slice (some ⟨g, 0, none⟩) n c) (.slice (some ⟨h, 0, none⟩) n c2)) A St wz ∧ IRow 3 wz B5 l1 from fun wz h => ⟨hI.out.below h, hq.out.below h⟩)
          have fin1 := Lib.hid (show ∀ wz x, Below wr.heap.size wr wz → RunI w B5 g h w.heap.size w.heap.size (tkC (.slice (some ⟨g, 0, none⟩) n c) (.slice (some ⟨h, 0, none⟩) n c2)) (tkC (.slice (some ⟨g, 0, none⟩) n c) (.slice (some ⟨h, 0, none⟩) n c2)) A St (wz.setCell ⟨B5, i, none⟩ (.int .i64 x)) ∧ IRow 3 (wz.setCell ⟨B5, i, none⟩ (.int .i64 x)) B5 (l1.set i x) from fun wz x h =>
            ⟨(hI.out.below h).els (elsN_set B5 i wz (.int .i64 x)) (by have := hW8.out; omega) (Ne.symm hneq.1) (Ne.symm hneq.2.1) (Ne.symm hneq.2.2) (Ne.symm hneq.2.2), (hq.out.below h).set i (by rw [hll.out]; exact hin) x⟩)
          by_cases hip : i = p
          · have h0 := hno.out (by rw [hstI.out, decide_eq_true hip.symm]; simp)
            subst h0
            have f0 := hq.out.frozen i
            have d0 := hq.out.cell i (by rw [hll.out]; exact hin)
            have hfx := Lib.hid (fin1.out wr 0 (Below.refl _ _))
            rw [Nat.max_eq_left (Nat.zero_le _)] at hstep
            subst hip
            clear hno hyes hneq fin0 fin1 hRn hat
            generalize ith l1 i = y at *
            go_wp2
            go_roundw
            case rel => exact ⟨i + 1, M1, _, by omega, by go_num, rfl, hM1, hfx.out.1, hfx.out.2, hset.out, hstep.out⟩
            case measure => simp [intOf]; omega
          · have hipI : ((i : Int) == (p : Int)) = false := by rw [beq_eq_false_iff_ne]; omega
            cases hB : can St A i with
            | false =>
              have h0 := hno.out (by rw [hstI.out, hB]; rfl)
              subst h0
              rw [Nat.max_eq_left (Nat.zero_le _)] at hstep
              rw [hB] at hRn
              clear hno hyes hneq hat hB hstI
              go_upto_region 11 with (first
                | (refine wpList_load_row_g rfl 24 _ rfl w.heap.size rfl 24 (tkC (.slice (some ⟨g, 0, none⟩) n c) (.slice (some ⟨h, 0, none⟩) n c2)) (0, 0) _ hI.out.box Try.underlying24 rfl info_tk ?_)
                | (go_at_call 34; (with_reducible refine hRn.out.mono ?_); rintro e9 w9 ⟨rfl, q9⟩; have q9' := Lib.hid q9; clear q9))
              have hq9 := Lib.hid (fin0.out _ q9'.out).2
              have f0 := hq9.out.frozen i
              have d0 := hq9.out.cell i (by rw [hll.out]; exact hin)
              have hfx := Lib.hid (fin1.out w9 0 q9'.out)
              clear fin0 fin1 hRn hq9 hI hq
              generalize ith l1 i = y at *
              go_wp2
              go_roundw
              case rel => exact ⟨i + 1, M1, _, by omega, by go_num, rfl, hM1, hfx.out.1, hfx.out.2, hset.out, hstep.out⟩
              case measure => simp [intOf]; omega
            | true =>
              have h0 := hyes.out (by rw [hstI.out, hB, decide_eq_false (fun e => hip e.symm)]; rfl)
              subst h0
              rw [hB] at hRn
              clear hno hyes hneq hB hstI
              go_upto_region 12 with (first
                | (refine wpList_load_row_g rfl 24 _ rfl w.heap.size rfl 24 (tkC (.slice (some ⟨g, 0, none⟩) n c) (.slice (some ⟨h, 0, none⟩) n c2)) (0, 0) _ hI.out.box Try.underlying24 rfl info_tk ?_)
                | (go_at_call 34; (with_reducible refine hRn.out.mono ?_); rintro e9 w9 ⟨rfl, q9⟩; have q9' := Lib.hid q9; clear q9))
              have hq9 := Lib.hid (fin0.out _ q9'.out).2
              have f0 := hq9.out.frozen i
              have d0 : w9.cell? ⟨B5, i, none⟩ = some (.int .i64 (W0 : Int)) := by rw [hq9.out.cell i (by rw [hll.out]; exact hin), hat.out]
              have hw1 : IntKind.i64.wrap ((W0 : Int) + 1) = (W0 : Int) + 1 := IntWalk.i64_in _ (by omega)
              have hset' := Lib.hid (show Wts L A Q n k (i + 1) (l1.set i ((W0 : Int) + 1)) from hset.out)
              have hfx := Lib.hid (fin1.out w9 ((W0 : Int) + 1) q9'.out)
              obtain ⟨w7, hw7⟩ : ∃ w7, w7 = w9.setCell ⟨B5, i, none⟩ (.int .i64 ((W0 : Int) + 1)) := ⟨_, rfl⟩
              rw [← hw7] at hfx
              have d7 : w7.cell? ⟨B5, i, none⟩ = some (.int .i64 ((W0 : Int) + 1)) := by
                have e := hfx.out.2.cell i (by rw [List.length_set, hll.out]; exact hin)
                rwa [ith_set, if_pos ⟨rfl, by rw [hll.out]; exact hin⟩] at e
              have hw7' := Lib.hid hw7
              clear hset hw7 hat
              go_upto_region 13 with fail
              rw [← hw7'.out]
              clear hw7' d0 f0 fin0 fin1 hRn hq9 hI hq
              have hmx : (if (M1 : Int) < (W0 : Int) + 1 then (W0 : Int) + 1 else (M1 : Int)) = ((max M1 (W0 + 1) : Nat) : Int) := by split <;> omega
              have hmx' := Lib.hid hmx
              clear hmx
              go_upto_region 14 with fail
              rw [hmx'.out]
              have hm2 : max M1 (W0 + 1) ≤ 301 := by omega
              generalize max M1 (W0 + 1) = M2 at *
              clear hmx'
              go_wp2
              go_roundw
              case rel => exact ⟨i + 1, M2, _, by omega, by go_num, rfl, hm2, hfx.out.1, hfx.out.2, hset'.out, hstep.out⟩
              case measure => simp [intOf]; omega
        · obtain rfl : i = n := by omega
          have hAh := Lib.hid (show HeldN g wr (.slice (some ⟨h, 0, none⟩) i c2) A from by
            have e := heldN_row (hI.out.aft) hG.out.gh (by rw [nA'.out]; exact hd1'.out) hd2'.out
            rwa [nA'.out] at e)
          have hStp := Lib.hid (show Calls Try.prog 37 #[.agg (tkC (.slice (some ⟨g, 0, none⟩) i c) (.slice (some ⟨h, 0, none⟩) i c2)), .int .i64 (p : Int)] wr fun e w' => e = .returned (.bool (can St A p)) ∧ IRow 3 w' g (stepL St A p) ∧ ElsN g wr w' from by
            have e := step_any St A g c (.slice (some ⟨h, 0, none⟩) i c2) p wr hI.out.row hAh.out hOk.out (by rw [hlk.out]; exact hpn) (by rw [hlk.out]; exact hc1'.out) hc2'.out
            rwa [hlk.out] at e)
          have hnext := Lib.hid (longest_next hLg.out)
          have hwn := Lib.hid (wts_next hWt.out)
          have hMM := Lib.hid (show M1 ≤ 300 from by
            rcases hLg.out.at' with h0 | ⟨k', i', h1, h2, h3⟩
            · omega
            · have := wt_le L A Q k' i'
              omega)
          have hBg : B5 ≠ g := by have := hG.out.g5; omega
          generalize can St A p = cb at *
          go_wp2_with (first
            | (refine wpList_load_row_g rfl 24 _ rfl w.heap.size rfl 24 (tkC (.slice (some ⟨g, 0, none⟩) i c) (.slice (some ⟨h, 0, none⟩) i c2)) (0, 0) _ hI.out.box Try.underlying24 rfl info_tk ?_)
            | (go_at_call 37; (with_reducible refine hStp.out.mono ?_); rintro e9 w9 ⟨rfl, q9, q10⟩; have hI9 := Lib.hid (hI.out.step hG.out q10 q9); have hq9 := Lib.hid (hq.out.to (q10.row hBg hq.out.lt)); clear q9 q10))
          go_roundw
          case rel => exact ⟨k + 1, M1, _, by omega, by go_num, rfl, hMM.out, by rw [hst'.out]; exact hI9.out, hq9.out, hwn.out, hnext.out⟩
          case measure => simp [intOf]; omega
    · obtain rfl : k = m := by omega
      go_wp2
      go_ret
      exact ⟨M, rfl, hLg.out, hI.out.b⟩
end Go.Proofs.Ytdebeimognikiaa.con
namespace Go.Proofs.Ytdebeimognikiaa.con
open Go.RowKit Go.Ytdebeimognikiaa
set_option linter.unusedVariables false
set_option maxHeartbeats 4000000 in
set_option maxRecDepth 100000 in
theorem sRunnable_any (L A : List Int) (lv av : Value) (w : World) (hL : RdN w lv L) (hA : RdN w av A) (hO : OkT L A) :
    Calls Try.prog 13 #[.agg (tkC lv av)] w fun e w' => ∃ v, e = .returned (.tuple #[v, .int .i64 0]) ∧ OwnN w.heap.size 3 w' v (allN L A L.length) ∧ Below w.heap.size w w' := by
  have h2 := hO.hi
  obtain ⟨la, lc, rfl⟩ := hL.slice
  obtain ⟨n, hn⟩ : ∃ n, L.length = n := ⟨_, rfl⟩
  rw [hn] at hL h2 ⊢
  obtain ⟨W, hW⟩ : ∃ W, W = w.alloc (.cells (tkC (.slice la n lc) av) 24) := ⟨_, rfl⟩
  have hS := Lib.hid (show Below w.heap.size w W by rw [hW]; exact below_a _ _)
  have r0 := Lib.hid (show W.heap[w.heap.size]? = some (.cells (tkC (.slice la n lc) av) 24 (0, 0)) by rw [hW]; exact heap_alloc_new w _)
  have hsz := Lib.hid (show W.heap.size = w.heap.size + 1 by rw [hW]; simp)
  have hX := Lib.hid (Below.refl W.heap.size W)
  have hrow := Lib.hid (fun (wz : World) (h : Below W.heap.size W wz) => rowB r0.out h (Array.getElem?_eq_some_iff.1 r0.out).1)
  have hD := Lib.hid (fun (j : Nat) (hj : j < n) (wz : World) (h : Below W.heap.size W wz) => runnable_any L A (.slice la n lc) av j wz (hL.mono (hS.out.trans (h.mono hS.out.size))) (hA.mono (hS.out.trans (h.mono hS.out.size))) hO (by rw [hn]; exact hj))
  have c0 : W.cell? ⟨w.heap.size, 0, none⟩ = some (.slice la n lc) := by rw [cell_of_row _ _ _ _ _ _ r0.out]; rfl
  have hC := Lib.hid (sCheck_any L A (.slice la n lc) av W (hL.mono hS.out) (hA.mono hS.out))
  have hC0 : chkT L A = 0 := chkT_ok hO
  have hC' := Lib.hid (show Calls Try.prog 21 #[.agg (tkC (.slice la n lc) av)] W fun e w' => e = .returned (.int .i64 0) ∧ Below W.heap.size W w' from by have := hC.out; rwa [hC0] at this)
  clear hC hC0
  clear hL hA hO hn
  go_enter Try.func13, Try.ntmps13
  go_upto_region 1 with fail
  rw [← hW]
  clear hW
  go_upto_region 5 with (first
      | (refine wpList_load_row_g rfl 24 _ rfl w.heap.size rfl 24 (tkC (.slice la n lc) av) (0, 0) _ (hrow.out _ hX.out) Try.underlying24 rfl info_tk ?_)
      | (go_at_call 21; (with_reducible refine (hC'.out).mono ?_); rintro e9 w9 ⟨rfl, q9⟩; replace hX := Lib.hid (hX.out.trans (Below.mono q9 hX.out.size)); clear q9))
  have c9 : w9.cell? ⟨w.heap.size, 0, none⟩ = some (.slice la n lc) := by rw [cell_of_row _ _ _ _ _ _ (hrow.out _ hX.out)]; rfl
  go_wp2
  clear c9 c0 hC'
  go_loopw [5, 15] (fun v i wr => ∃ k : Nat, k ≤ n ∧ i = .int .i64 (k : Int) ∧ Below W.heap.size W wr ∧ OwnN W.heap.size 3 wr v (allN L A k)) (fun _ i _ => n - (intOf i).toNat)
  case atStart => exact ⟨0, Nat.zero_le _, rfl, hX.out, OwnN.nil _ _ _⟩
  case round =>
    obtain ⟨k, hk, rfl, hb, ho⟩ := hrel
    have hX := Lib.hid hb
    have c0 : wr.cell? ⟨w.heap.size, 0, none⟩ = some (.slice la n lc) := by rw [cell_of_row _ _ _ _ _ _ (hrow.out _ hb)]; rfl
    have hlen := allN_length L A k
    have ho' := Lib.hid ho
    obtain ⟨va, vc, rfl⟩ := ho.slice
    clear hb ho
    by_cases hlt : k < n
    · have hkI : (k : Int) < (n : Int) := by omega
      have hDj := Lib.hid (hD.out k hlt)
      have hy := Lib.hid (fun h : can L A k = true => (show allN L A (k + 1) = allN L A k ++ [(k : Int)] by rw [allN, if_pos h]))
      have hn2 := Lib.hid (fun h : can L A k = false => (show allN L A (k + 1) = allN L A k by rw [allN, h]; rfl))
      generalize can L A k = B at *
      generalize allN L A k = N0 at *
      have hlen' := Lib.hid hlen
      obtain ⟨m, hm⟩ : ∃ m, N0.length = m := ⟨_, rfl⟩
      have hm' := Lib.hid hm
      rw [hm] at ho' ⊢
      clear hm hlen
      cases B with
      | true =>
        have hN1 := Lib.hid (hy.out rfl)
        go_upto_region 9 with (first
            | (refine wpList_load_row_g rfl 24 _ rfl w.heap.size rfl 24 (tkC (.slice la n lc) av) (0, 0) _ (hrow.out _ hX.out) Try.underlying24 rfl info_tk ?_)
            | (go_at_call 34; (with_reducible refine (hDj.out _ hX.out).mono ?_); rintro e9 w9 ⟨rfl, q9⟩; replace hX := Lib.hid (hX.out.trans (Below.mono q9 hX.out.size)); replace ho' := Lib.hid (ho'.out.kept q9); clear q9))
        have hXb := Lib.hid (below_a w9 (.cells #[.int .i64 (k : Int)] 3))
        have hXr := Lib.hid (rdN_one (c := 1) (heap_alloc_new w9 (.cells #[.int .i64 (k : Int)] 3)) (by decide) (by decide))
        go_wp2_with (refine appendN rfl _ _ 22 rfl W.heap.size 3 Try.underlying22 (by kernel_rfl) _ rfl N0 (ho'.out.kept hXb.out) _ rfl [(k : Int)] hXr.out (by have := hlen'.out; have := hm'.out; simp; omega) (Nat.le_trans hX.out.size hXb.out.size) ?_)
        intro v' w6 y1 y2
        have hB6 := Lib.hid (hX.out.trans ((hXb.out.mono hX.out.size).trans ((ho'.out.kept hXb.out).below y2 (Nat.le_trans hX.out.size hXb.out.size))))
        have y1' := Lib.hid y1
        clear y1 y2 c0
        refine Stop.go ?_
        go_wp2
        go_roundw
        case rel => exact ⟨k + 1, by omega, by go_num, hB6.out, by rw [hN1.out]; exact y1'.out⟩
        case measure => simp [intOf]; omega
      | false =>
        have hN1 := Lib.hid (hn2.out rfl)
        go_wp2_with (first
            | (refine wpList_load_row_g rfl 24 _ rfl w.heap.size rfl 24 (tkC (.slice la n lc) av) (0, 0) _ (hrow.out _ hX.out) Try.underlying24 rfl info_tk ?_)
            | (go_at_call 34; (with_reducible refine (hDj.out _ hX.out).mono ?_); rintro e9 w9 ⟨rfl, q9⟩; replace hX := Lib.hid (hX.out.trans (Below.mono q9 hX.out.size)); replace ho' := Lib.hid (ho'.out.kept q9); clear q9))
        go_roundw
        case rel => exact ⟨k + 1, by omega, by go_num, hX.out, by rw [hN1.out]; exact ho'.out⟩
        case measure => simp [intOf]; omega
    · obtain rfl : k = n := by omega
      go_wp2
      go_ret2
      exact ⟨_, rfl, ho'.out.mono hS.out.size, hS.out.trans (hX.out.mono hS.out.size)⟩
end Go.Proofs.Ytdebeimognikiaa.con
namespace Go.Proofs.Ytdebeimognikiaa.con
open Go.RowKit Go.Ytdebeimognikiaa
set_option linter.unusedVariables false
def fairE (L A Q : List Int) (x : Int) : Int := if pckE L A Q = 0 then (if x < 1 then 2 else 0) else pckE L A Q
def fairV (L A Q : List Int) (x : Int) : Bool := if pckE L A Q = 0 then (if x < 1 then false else fairB L A Q x.toNat) else false
theorem fair_bad {L A Q : List Int} (h : pckE L A Q ≠ 0) (x : Int) : fairE L A Q x = pckE L A Q ∧ fairV L A Q x = false := by unfold fairE fairV; rw [if_neg h, if_neg h]; exact ⟨rfl, rfl⟩
theorem fair_arg {L A Q : List Int} (h : pckE L A Q = 0) {x : Int} (hx : x < 1) : fairE L A Q x = 2 ∧ fairV L A Q x = false := by unfold fairE fairV; rw [if_pos h, if_pos h, if_pos hx, if_pos hx]; exact ⟨rfl, rfl⟩
theorem fair_fine {L A Q : List Int} (h : pckE L A Q = 0) {x : Int} (hx : ¬ x < 1) : fairE L A Q x = 0 ∧ fairV L A Q x = fairB L A Q x.toNat := by unfold fairE fairV; rw [if_pos h, if_pos h, if_neg hx, if_neg hx]; exact ⟨rfl, rfl⟩
set_option maxHeartbeats 4000000 in
set_option maxRecDepth 100000 in
theorem sFair_any (L A Q : List Int) (lv av pv : Value) (x : Int) (w : World) (hL : RdN w lv L) (hA : RdN w av A) (hQ : RdN w pv Q) :
    Calls Try.prog 25 #[.agg (tkC lv av), pv, .int .i64 x] w fun e w' => e = .returned (.tuple #[.bool (fairV L A Q x), .int .i64 (fairE L A Q x)]) ∧ Below w.heap.size w w' := by
  obtain ⟨W, hW⟩ : ∃ W, W = w.alloc (.cells (tkC lv av) 24) := ⟨_, rfl⟩
  have hS := Lib.hid (show Below w.heap.size w W by rw [hW]; exact below_a _ _)
  have r0 := Lib.hid (show W.heap[w.heap.size]? = some (.cells (tkC lv av) 24 (0, 0)) by rw [hW]; exact heap_alloc_new w _)
  have hsz := Lib.hid (show W.heap.size = w.heap.size + 1 by rw [hW]; simp)
  have hX := Lib.hid (Below.refl W.heap.size W)
  have hrow := Lib.hid (fun (wz : World) (h : Below W.heap.size W wz) => rowB r0.out h (Array.getElem?_eq_some_iff.1 r0.out).1)
  have hC0 := Lib.hid (fun (wz : World) (h : Below W.heap.size W wz) => sPicks_any L A Q lv av pv wz (hL.mono (hS.out.trans (h.mono hS.out.size))) (hA.mono (hS.out.trans (h.mono hS.out.size))) (hQ.mono (hS.out.trans (h.mono hS.out.size))))
  have hW0 := Lib.hid (fun (wz : World) (h : Below W.heap.size W wz) (hO : OkP L A Q) => longestWait_any L A Q lv av pv wz (hL.mono (hS.out.trans (h.mono hS.out.size))) (hA.mono (hS.out.trans (h.mono hS.out.size))) (hQ.mono (hS.out.trans (h.mono hS.out.size))) hO)
  clear hL hA hQ
  by_cases h0 : pckE L A Q = 0
  case neg =>
    obtain ⟨e1, e2⟩ := fair_bad h0 x
    rw [e1, e2]
    have hC := hC0
    clear e1 e2 hC0 hW0
    generalize pckE L A Q = R at *
    go_enter Try.func25, Try.ntmps25
    go_upto_region 1 with fail
    rw [← hW]
    clear hW
    go_wp2_with (first
        | (refine wpList_load_row_g rfl 24 _ rfl w.heap.size rfl 24 (tkC lv av) (0, 0) _ (hrow.out _ hX.out) Try.underlying24 rfl info_tk ?_)
        | (go_at_call 36; (with_reducible refine (hC.out _ hX.out).mono ?_); rintro e9 w9 ⟨rfl, q9⟩; replace hX := Lib.hid (hX.out.trans (Below.mono q9 hX.out.size)); clear q9))
    go_ret2
    exact ⟨rfl, hS.out.trans (hX.out.mono hS.out.size)⟩
  case pos =>
    have hO := pckE_zero h0
    rw [h0] at hC0
    have hC := hC0
    by_cases g1 : x < 1
    · obtain ⟨e1, e2⟩ := fair_arg h0 g1
      rw [e1, e2]
      clear e1 e2 hC0 hW0 hO h0
      go_enter Try.func25, Try.ntmps25
      go_upto_region 1 with fail
      rw [← hW]
      clear hW
      go_wp2_with (first
          | (refine wpList_load_row_g rfl 24 _ rfl w.heap.size rfl 24 (tkC lv av) (0, 0) _ (hrow.out _ hX.out) Try.underlying24 rfl info_tk ?_)
          | (go_at_call 36; (with_reducible refine (hC.out _ hX.out).mono ?_); rintro e9 w9 ⟨rfl, q9⟩; replace hX := Lib.hid (hX.out.trans (Below.mono q9 hX.out.size)); clear q9))
      go_ret2
      exact ⟨rfl, hS.out.trans (hX.out.mono hS.out.size)⟩
    obtain ⟨e1, e2⟩ := fair_fine h0 g1
    have hlf := Lib.hid (fun M (h : Longest L A Q L.length Q.length 0 M) => longest_fair (w := x.toNat) h (by omega))
    rw [e1, e2]
    have hLW := Lib.hid (fun wz h => hW0.out wz h hO)
    clear e1 e2 hC0 hW0 hO h0
    go_enter Try.func25, Try.ntmps25
    go_upto_region 1 with fail
    rw [← hW]
    clear hW
    go_wp2_with (first
        | (refine wpList_load_row_g rfl 24 _ rfl w.heap.size rfl 24 (tkC lv av) (0, 0) _ (hrow.out _ hX.out) Try.underlying24 rfl info_tk ?_)
        | (go_at_call 36; (with_reducible refine (hC.out _ hX.out).mono ?_); rintro e9 w9 ⟨rfl, q9⟩; replace hX := Lib.hid (hX.out.trans (Below.mono q9 hX.out.size)); clear q9)
        | (go_at_call 40; (with_reducible refine (hLW.out _ hX.out).mono ?_); rintro e9 w9 ⟨M, rfl, hM, q9⟩; replace hX := Lib.hid (hX.out.trans (Below.mono q9 hX.out.size)); have hM' := Lib.hid (hlf.out M hM); clear q9 hM))
    go_ret2
    refine ⟨?_, hS.out.trans (hX.out.mono hS.out.size)⟩
    rw [hM'.out]
    have e : decide ((M : Int) < x) = decide (M < x.toNat) := by rw [Bool.eq_iff_iff, decide_eq_true_iff, decide_eq_true_iff]; omega
    rw [← e]
    rfl
def allR (L A : List Int) : List Int := if okT L A then allN L A L.length else []
theorem allR_ok {L A : List Int} (h : OkT L A) : allR L A = allN L A L.length := by unfold allR; rw [okT_iff.2 h]; rfl
theorem allR_no {L A : List Int} (h : ¬ OkT L A) : allR L A = [] := by unfold allR; rw [okT_no h]; rfl
set_option maxHeartbeats 4000000 in
set_option maxRecDepth 100000 in
theorem sRunnable_all (L A : List Int) (lv av : Value) (w : World) (hL : RdN w lv L) (hA : RdN w av A) :
    Calls Try.prog 13 #[.agg (tkC lv av)] w fun e w' => ∃ v, e = .returned (.tuple #[v, .int .i64 (chkT L A)]) ∧ NewN w.heap.size w' v (allR L A) ∧ Below w.heap.size w w' := by
  rcases Classical.em (OkT L A) with hO | hO
  case inl =>
    rw [allR_ok hO, chkT_ok hO]
    exact (sRunnable_any L A lv av w hL hA hO).mono fun e w' ⟨v, h1, h2, h3⟩ => ⟨v, h1, h2.new, h3⟩
  rw [allR_no hO, chkT_no hO]
  have hcn := chkT_no hO
  obtain ⟨W, hW⟩ : ∃ W, W = w.alloc (.cells (tkC lv av) 24) := ⟨_, rfl⟩
  have hS := Lib.hid (show Below w.heap.size w W by rw [hW]; exact below_a _ _)
  have r0 := Lib.hid (show W.heap[w.heap.size]? = some (.cells (tkC lv av) 24 (0, 0)) by rw [hW]; exact heap_alloc_new w _)
  have hsz := Lib.hid (show W.heap.size = w.heap.size + 1 by rw [hW]; simp)
  have hX := Lib.hid (Below.refl W.heap.size W)
  have hrow := Lib.hid (fun (wz : World) (h : Below W.heap.size W wz) => rowB r0.out h (Array.getElem?_eq_some_iff.1 r0.out).1)
  have hC := Lib.hid (fun (wz : World) (h : Below W.heap.size W wz) => sCheck_any L A lv av wz (hL.mono (hS.out.trans (h.mono hS.out.size))) (hA.mono (hS.out.trans (h.mono hS.out.size))))
  rw [hcn] at hC
  clear hL hA hcn hO
  go_enter Try.func13, Try.ntmps13
  go_upto_region 1 with fail
  rw [← hW]
  clear hW
  go_wp2_with (first
      | (refine wpList_load_row_g rfl 24 _ rfl w.heap.size rfl 24 (tkC lv av) (0, 0) _ (hrow.out _ hX.out) Try.underlying24 rfl info_tk ?_)
      | (go_at_call 21; (with_reducible refine (hC.out _ hX.out).mono ?_); rintro e9 w9 ⟨rfl, q9⟩; replace hX := Lib.hid (hX.out.trans (Below.mono q9 hX.out.size)); clear q9))
  go_ret2
  exact ⟨_, rfl, NewN.nil _ _, hS.out.trans (hX.out.mono hS.out.size)⟩
end Go.Proofs.Ytdebeimognikiaa.con
namespace Go.Proofs.Ytdebeimognikiaa.con
open Go.RowKit Go.Ytdebeimognikiaa
set_option linter.unusedVariables false
abbrev gvL : List Int := [2, 1, 1]
abbrev gvA : List Int := [-1, -1, 0]
abbrev gvP : List Int := [1, 2, 0, 0, 2]
theorem rdN_lit {w : World} {g : Nat} {E : TypeId} {l : List Int} (h : w.heap[g]? = some (.cells (iV l).toArray E (0, 0))) (hm : l.length ≤ 1000) : RdN w (.slice (some ⟨g, 0, none⟩) l.length l.length) l :=
  IRow.rd (E := E) ⟨[], by rw [List.append_nil]; exact h⟩ (Nat.le_refl _) (by omega)
set_option maxHeartbeats 4000000 in
set_option maxRecDepth 100000 in
theorem given_any (w : World) : Calls Try.prog 27 #[] w fun e w' => ∃ xa ya, e = .returned (.agg (tkC (.slice xa 3 3) (.slice ya 3 3))) ∧ RdN w' (.slice xa 3 3) gvL ∧ RdN w' (.slice ya 3 3) gvA ∧ Below w.heap.size w w' := by
  obtain ⟨W1, hW1⟩ : ∃ W1, W1 = w.alloc (.cells (tkC nilN nilN) 24) := ⟨_, rfl⟩
  have hs1 := Lib.hid (show W1.heap.size = w.heap.size + 1 by rw [hW1]; simp)
  have hS1 := Lib.hid (show Below w.heap.size w W1 by rw [hW1]; exact below_a _ _)
  have r1 := Lib.hid (show W1.heap[w.heap.size]? = some (.cells (tkC nilN nilN) 24 (0, 0)) by rw [hW1]; exact heap_alloc_new w _)
  obtain ⟨W, hW⟩ : ∃ W, W = (W1.alloc (.cells #[.int .i64 2, .int .i64 1, .int .i64 1] 3)).alloc (.cells #[.int .i64 (-1), .int .i64 (-1), .int .i64 0] 3) := ⟨_, rfl⟩
  have hS := Lib.hid (show Below W1.heap.size W1 W by rw [hW]; exact ((Below.refl W1.heap.size W1).alloc (Nat.le_refl _) _).alloc (by simp) _)
  have ra := Lib.hid (show RdN W (.slice (some ⟨W1.heap.size, 0, none⟩) 3 3) gvL by rw [hW]; exact (rdN_lit (l := gvL) (heap_alloc_new W1 _) (by decide)).mono (below_a _ _))
  have rb := Lib.hid (show RdN W (.slice (some ⟨W1.heap.size + 1, 0, none⟩) 3 3) gvA by rw [hW]; exact rdN_lit (l := gvA) (by rw [← show (W1.alloc (.cells #[.int .i64 2, .int .i64 1, .int .i64 1] 3)).heap.size = W1.heap.size + 1 from by simp]; exact heap_alloc_new _ _) (by decide))
  have r2 := Lib.hid (rowK r1.out hS.out)
  go_enter Try.func27, Try.ntmps27
  go_upto_region 1 with fail
  rw [← hW1]
  clear hW1
  have hone := Lib.hid (tk_one (.slice (some ⟨W1.heap.size, 0, none⟩) 3 3) (.slice (some ⟨W1.heap.size + 1, 0, none⟩) 3 3) rfl rfl)
  have hW' := Lib.hid hW
  rw [hW] at r2
  clear hW
  go_wp2_with (refine wpList_store_row rfl 24 _ _ rfl w.heap.size (tkC (.slice (some ⟨W1.heap.size, 0, none⟩) 3 3) (.slice (some ⟨W1.heap.size + 1, 0, none⟩) 3 3)) rfl rfl 24 _ r2.out info_tk rfl hone.out ?_)
  rw [← hW'.out] at r2 ⊢
  have hlow : ∀ (l : List Int) (g : Nat) (n c : Nat), W1.heap.size ≤ g → RdN W (.slice (some ⟨g, 0, none⟩) n c) l → RdN (W.setRow w.heap.size (tkC (.slice (some ⟨W1.heap.size, 0, none⟩) 3 3) (.slice (some ⟨W1.heap.size + 1, 0, none⟩) 3 3))) (.slice (some ⟨g, 0, none⟩) n c) l := fun l g n c hg h => by
    rcases h with ⟨a, c', hv, h0, rfl⟩ | ⟨b, o, c', hv, h1, h2, h3, h4⟩
    · exact .inl ⟨a, c', hv, h0, rfl⟩
    · injection hv with e1 e2 e3
      injection e1 with e1
      injection e1 with e4 e5
      subst e4 e5
      have hne : g ≠ w.heap.size := by have := hs1.out; omega
      refine .inr ⟨g, 0, c', by rw [e2, e3], h1, h2, by rw [size_setRow]; exact h3, fun i hi => ?_⟩
      have e := setRow_other W w.heap.size g (tkC (.slice (some ⟨W1.heap.size, 0, none⟩) 3 3) (.slice (some ⟨W1.heap.size + 1, 0, none⟩) 3 3)) hne
      have := h4 i hi
      simp only [World.cell?, e] at this ⊢
      exact this
  exact bodyPost_ret (results_cell_row rfl _ _ w.heap.size 24 _ _ _ rfl (setRow_heap _ _ _ (tkC (.slice (some ⟨W1.heap.size, 0, none⟩) 3 3) (.slice (some ⟨W1.heap.size + 1, 0, none⟩) 3 3)) _ _ r2.out) Try.underlying24 rfl info_tk) rfl ⟨_, _, rfl, hlow _ _ _ _ (Nat.le_refl _) ra.out, hlow _ _ _ _ (Nat.le_succ _) rb.out, below_setRow' (hS1.out.trans (hS.out.mono hS1.out.size)) (Nat.le_refl _) _⟩
theorem ex1 : allR gvL gvA = [0, 1] ∧ chkT gvL gvA = 0 := by decide +kernel
theorem ex2 : rndR gvL gvA 4 = [0, 1, 0, 2] ∧ rndE gvL gvA 4 = 0 := by decide +kernel
theorem ex3 : runR gvL gvA gvP = [0, 0, 0] ∧ runA gvL gvA gvP = [-1, -1, 0] ∧ runS gvL gvA gvP = [0, 2, 3, 4] ∧ pckE gvL gvA gvP = 0 := by decide +kernel
theorem ex4 : fairV gvL gvA gvP 3 = true ∧ fairE gvL gvA gvP 3 = 0 ∧ fairV gvL gvA gvP 2 = false ∧ fairE gvL gvA gvP 2 = 0 := by decide +kernel
def alvA : List (List Nat) := [[], [0], [0, 1], [0, 1, 2], [0, 1, 2, 3], [0, 1, 2, 3, 4], [0, 1, 2, 3, 4, 5], [0, 1, 2, 3, 4, 5, 6], [0, 1, 2, 3, 4, 5, 6, 7], [0, 1, 2, 3, 4, 5, 6, 7, 8], [0, 1, 2, 3, 4, 5, 6, 7, 8, 9], [0, 1, 2, 3, 4, 5, 6, 7, 8, 9, 10], [0, 1, 2, 3, 4, 5, 6, 7, 8, 9, 10, 11], [0, 1, 2, 3, 4, 5, 6, 7, 8, 9, 10, 11, 12], [0, 1, 2, 3, 4, 5, 6, 7, 8, 9, 10, 11, 12, 13], [0, 1, 2, 3, 4, 5, 6, 7, 8, 9, 10, 11, 12, 13, 14], [0, 1, 2, 3, 4, 5, 6, 7, 8, 9, 10, 11, 12, 13, 14, 15], [0, 1, 2, 3, 4, 5, 6, 7, 8, 9, 10, 11, 12, 13, 14, 15, 16], [0, 1, 2, 3, 4, 5, 6, 7, 8, 9, 10, 11, 12, 13, 14, 15, 16, 17], [0, 1, 2, 3, 4, 5, 6, 7, 8, 9, 10, 11, 12, 13, 14, 15, 16, 17, 18], [0, 1, 2, 3, 4, 5, 6, 7, 8, 9, 10, 11, 12, 13, 14, 15, 16, 17, 18], [0, 1, 2, 3, 4, 5, 6, 7, 8, 9, 10, 11, 12, 13, 14, 15, 16, 17, 18, 19, 20], [0, 1, 2, 3, 4, 5, 6, 7, 8, 9, 10, 11, 12, 13, 14, 15, 16, 17, 18, 19, 20, 21], [0, 1, 2, 3, 4, 5, 6, 7, 8, 9, 10, 11, 12, 13, 14, 15, 16, 17, 18, 19, 20, 21, 22], [0, 1, 2, 3, 4, 5, 6, 7, 8, 9, 10, 11, 12, 13, 14, 15, 16, 17, 18, 19, 20, 21, 22, 23], [0, 1, 2, 3, 4, 5, 6, 7, 8, 9, 10, 11, 12, 13, 14, 15, 16, 17, 18, 19, 20, 21, 22, 23], [0, 1, 2, 3, 4, 5, 6, 7, 8, 9, 10, 11, 12, 13, 14, 15, 16, 17, 18, 19, 20, 21, 22, 23, 24, 25], [0, 1, 2, 3, 4, 5, 6, 7, 8, 9, 10, 11, 12, 13, 14, 15, 16, 17, 18, 19, 20, 21, 22, 23, 24, 25, 26], [0, 1, 2, 3, 4, 5, 6, 7, 8, 9, 10, 11, 12, 13, 14, 15, 16, 17, 18, 19, 20, 21, 22, 23, 24, 25, 26, 27], [0, 1, 2, 3, 4, 5, 6, 7, 8, 9, 10, 11, 12, 13, 14, 15, 16, 17, 18, 19, 20, 21, 22, 23, 24, 25, 26, 27, 28], [0, 1, 2, 3, 4, 5, 6, 7, 8, 9, 10, 11, 12, 13, 14, 15, 16, 17, 18, 19, 20, 21, 22, 23, 24, 25, 26, 27, 28], [0, 1, 2, 3, 4, 5, 6, 7, 8, 9, 10, 11, 12, 13, 14, 15, 16, 17, 18, 19, 20, 21, 22, 23, 24, 25, 26, 27, 28, 29, 30], [0, 1, 2, 3, 4, 5, 6, 7, 8, 9, 10, 11, 12, 13, 14, 15, 16, 17, 18, 19, 20, 21, 22, 23, 24, 25, 26, 27, 28, 29, 30, 31], [0, 1, 2, 3, 4, 5, 6, 7, 8, 9, 10, 11, 12, 13, 14, 15, 16, 17, 18, 19, 20, 21, 22, 23, 24, 25, 26, 27, 28, 29, 30, 31, 32], [0, 1, 2, 3, 4, 5, 6, 7, 8, 9, 10, 11, 12, 13, 14, 15, 16, 17, 18, 19, 20, 21, 22, 23, 24, 25, 26, 27, 28, 29, 30, 31, 32, 33], [0, 1, 2, 3, 4, 5, 6, 7, 8, 9, 10, 11, 12, 13, 14, 15, 16, 17, 18, 19, 20, 21, 22, 23, 24, 25, 26, 27, 28, 29, 30, 31, 32, 33, 34], [0, 1, 2, 3, 4, 5, 6, 7, 8, 9, 10, 11, 12, 13, 14, 15, 16, 17, 18, 19, 20, 21, 22, 23, 24, 25, 26, 27, 28, 29, 30, 31, 32, 33], [0, 1, 2, 3, 4, 5, 6, 7, 8, 9, 10, 11, 12, 13, 14, 15, 16, 17, 18, 19, 20, 21, 22, 23, 24, 25, 26, 27, 28, 29, 30, 31, 32, 33, 34, 35, 36], [0, 1, 2, 3, 4, 5, 6, 7, 8, 9, 10, 11, 12, 13, 14, 15, 16, 17, 18, 19, 20, 21, 22, 23, 24, 25, 26, 27, 28, 29, 30, 31, 32, 33, 34, 35, 36, 37], [0, 1, 2, 3, 4, 5, 6, 7, 8, 9, 10, 11, 12, 13, 14, 15, 16, 17, 18, 19, 20, 21, 22, 23, 24, 25, 26, 27, 28, 29, 30, 31, 32, 33, 34, 35, 36, 37, 38], [0, 1, 2, 3, 4, 5, 6, 7, 8, 9, 10, 11, 12, 13, 14, 15, 16, 17, 18, 19, 20, 21, 22, 23, 24, 25, 26, 27, 28, 29, 30, 31, 32, 33, 34, 35, 36, 37, 38, 39], [0, 1, 2, 3, 4, 5, 6, 7, 8, 9, 10, 11, 12, 13, 14, 15, 16, 17, 18, 19, 20, 21, 22, 23, 24, 25, 26, 27, 28, 29, 30, 31, 32, 33, 34, 35, 36, 37, 38, 39, 40], [0, 1, 2, 3, 4, 5, 6, 7, 8, 9, 10, 11, 12, 13, 14, 15, 16, 17, 18, 19, 20, 21, 22, 23, 24, 25, 26, 27, 28, 29, 30, 31, 32, 33, 34, 35, 36, 37, 38, 39, 40, 41], [0, 1, 2, 3, 4, 5, 6, 7, 8, 9, 10, 11, 12, 13, 14, 15, 16, 17, 18, 19, 20, 21, 22, 23, 24, 25, 26, 27, 28, 29, 30, 31, 32, 33, 34, 35, 36, 37, 38, 39, 40, 41, 42], [0, 1, 2, 3, 4, 5, 6, 7, 8, 9, 10, 11, 12, 13, 14, 15, 16, 17, 18, 19, 20, 21, 22, 23, 24, 25, 26, 27, 28, 29, 30, 31, 32, 33, 34, 35, 36, 37, 38, 39, 40, 41, 42, 43], [0, 1, 2, 3, 4, 5, 6, 7, 8, 9, 10, 11, 12, 13, 14, 15, 16, 17, 18, 19, 20, 21, 22, 23, 24, 25, 26, 27, 28, 29, 30, 31, 32, 33, 34, 35, 36, 37, 38, 39, 40, 41, 42, 43, 44], [0, 1, 2, 3, 4, 5, 6, 7, 8, 9, 10, 11, 12, 13, 14, 15, 16, 17, 18, 19, 20, 21, 22, 23, 24, 25, 26, 27, 28, 29, 30, 31, 32, 33, 34, 35, 36, 37, 38, 39, 40, 41, 42, 43, 44, 45]]
def alvU : List (List Nat) := [[], [0], [1], [2], [2, 3], [2, 4], [5], [6], [6, 7], [6, 8], [9], [10], [10, 11], [10, 12], [13], [14], [14, 15], [14, 16], [17], [18], [18], [18, 19, 20], [18, 21], [22], [23], [23], [23, 24, 25], [23, 26], [27], [28], [28], [28, 29, 30], [28, 31], [32], [33], [33, 34], [33], [33, 35, 36], [33, 37], [38], [39], [39, 40], [41], [42], [42, 43], [42, 44]]
def alvK (l1a r1a d1a t1a : Option Addr) (l1c r1c d1c t1c g6 : Nat) : Nat → FQ
  | 0 => .eq (.int .i64 0)
  | 1 => .eq (.bool true)
  | 2 => .eq (.bool true)
  | 3 => .eq (.int .i64 0)
  | 4 => .eq (.bool true)
  | 5 => .eq (.bool true)
  | 6 => .eq (.bool true)
  | 7 => .eq (.int .i64 0)
  | 8 => .eq (.bool true)
  | 9 => .eq (.bool true)
  | 10 => .eq (.bool true)
  | 11 => .eq (.int .i64 0)
  | 12 => .eq (.bool true)
  | 13 => .eq (.bool true)
  | 14 => .eq (.bool true)
  | 15 => .eq (.int .i64 0)
  | 16 => .eq (.bool true)
  | 17 => .eq (.bool true)
  | 18 => .eq (.bool true)
  | 19 => .eq (.slice l1a 2 l1c)
  | 20 => .low (fun v w => RdN w v [0, 1]) (fun _ _ _ h hb => h.mono hb)
  | 21 => .eq (.bool true)
  | 22 => .eq (.bool true)
  | 23 => .eq (.bool true)
  | 24 => .eq (.slice r1a 4 r1c)
  | 25 => .low (fun v w => RdN w v [0, 1, 0, 2]) (fun _ _ _ h hb => h.mono hb)
  | 26 => .eq (.bool true)
  | 27 => .eq (.bool true)
  | 28 => .eq (.bool true)
  | 29 => .eq (.slice d1a 4 d1c)
  | 30 => .low (fun v w => RdN w v [0, 2, 3, 4]) (fun _ _ _ h hb => h.mono hb)
  | 31 => .eq (.bool true)
  | 32 => .eq (.bool true)
  | 33 => .eq (.bool true)
  | 34 => .eq (.pointer (some ⟨g6, 0, none⟩))
  | 35 => .eq (.slice t1a 3 t1c)
  | 36 => .low (fun v w => RdN w v [0, 0, 0]) (fun _ _ _ h hb => h.mono hb)
  | 37 => .eq (.bool true)
  | 38 => .eq (.bool true)
  | 39 => .eq (.bool true)
  | 40 => .eq (.bool true)
  | 41 => .eq (.bool true)
  | 42 => .eq (.bool true)
  | 43 => .eq (.bool false)
  | 44 => .eq (.bool true)
  | _ => .eq (.bool true)
set_option maxHeartbeats 4000000 in
set_option maxRecDepth 100000 in
theorem alive13_any (w : World) : Calls Try.prog 28 #[] w fun e w' => e = .returned (.bool true) ∧ Below w.heap.size w w' := by
  have hX := Lib.hid (Below.refl w.heap.size w)
  have c1 := Lib.hid (fun lv av wz h1 h2 => sRunnable_all gvL gvA lv av wz h1 h2)
  have c2 := Lib.hid (fun lv av wz h1 h2 => sRounds_any gvL gvA lv av 4 wz h1 h2)
  have c3 := Lib.hid (fun lv av pv wz h1 h2 h3 => sRun_any gvL gvA gvP lv av pv wz h1 h2 h3)
  have c4 := Lib.hid (fun lv av pv wz h1 h2 h3 => sFair_any gvL gvA gvP lv av pv 3 wz h1 h2 h3)
  have c5 := Lib.hid (fun lv av pv wz h1 h2 h3 => sFair_any gvL gvA gvP lv av pv 2 wz h1 h2 h3)
  rw [ex1.1, ex1.2] at c1
  rw [ex2.1, ex2.2] at c2
  rw [ex3.1, ex3.2.1, ex3.2.2.1, ex3.2.2.2] at c3
  rw [ex4.1, ex4.2.1] at c4
  rw [ex4.2.2.1, ex4.2.2.2] at c5
  go_enter Try.func28, Try.ntmps28
  go_upto_region 3 with (first
      | (go_at_call 27; (with_reducible refine (given_any _).mono ?_); rintro e9 w9 ⟨xa, ya, rfl, q1, q2, q9⟩; replace hX := Lib.hid (hX.out.trans (Below.mono q9 hX.out.size)); (try replace w6 := Lib.hid (rowK w6.out q9)); (try replace v1 := Lib.hid (v1.out.mono q9)); (try replace v2 := Lib.hid (v2.out.mono q9)); (try replace vp := Lib.hid (vp.out.mono q9)); (try replace v3 := Lib.hid (v3.out.mono q9)); (try replace vt := Lib.hid (vt.out.mono q9)); have o1 := Lib.hid q1; have o2 := Lib.hid q2; clear q1 q2 q9)
      | (go_at_call 13; (with_reducible refine (c1.out _ _ _ o1.out o2.out).mono ?_); rintro e9 w9 ⟨v, rfl, q1, q9⟩; replace hX := Lib.hid (hX.out.trans (Below.mono q9 hX.out.size)); (try replace w6 := Lib.hid (rowK w6.out q9)); (try replace v1 := Lib.hid (v1.out.mono q9)); (try replace v2 := Lib.hid (v2.out.mono q9)); (try replace vp := Lib.hid (vp.out.mono q9)); (try replace v3 := Lib.hid (v3.out.mono q9)); (try replace vt := Lib.hid (vt.out.mono q9)); have v1 := Lib.hid q1.rd; obtain ⟨l1a, l1c, rfl⟩ := q1.slice; clear q1 o1 o2; clear q9)
      | (go_at_call 23; (with_reducible refine (c2.out _ _ _ o1.out o2.out).mono ?_); rintro e9 w9 ⟨v, rfl, q1, q9⟩; replace hX := Lib.hid (hX.out.trans (Below.mono q9 hX.out.size)); (try replace w6 := Lib.hid (rowK w6.out q9)); (try replace v1 := Lib.hid (v1.out.mono q9)); (try replace v2 := Lib.hid (v2.out.mono q9)); (try replace vp := Lib.hid (vp.out.mono q9)); (try replace v3 := Lib.hid (v3.out.mono q9)); (try replace vt := Lib.hid (vt.out.mono q9)); have v2 := Lib.hid q1.rd; obtain ⟨r1a, r1c, rfl⟩ := q1.slice; clear q1 o1 o2; clear q9))
  obtain ⟨W3, hW3⟩ : ∃ W3, W3 = w9.alloc (.cells #[.int .i64 1, .int .i64 2, .int .i64 0, .int .i64 0, .int .i64 2] 3) := ⟨_, rfl⟩
  have hb3 := Lib.hid (show Below w9.heap.size w9 W3 by rw [hW3]; exact below_a _ _)
  have vp := Lib.hid (show RdN W3 (.slice (some ⟨w9.heap.size, 0, none⟩) 5 5) gvP by rw [hW3]; exact rdN_lit (l := gvP) (heap_alloc_new w9 _) (by decide))
  go_upto_region 4 with fail
  rw [← hW3]
  clear hW3
  replace hX := Lib.hid (hX.out.trans (hb3.out.mono hX.out.size))
  replace v1 := Lib.hid (v1.out.mono hb3.out); replace v2 := Lib.hid (v2.out.mono hb3.out)
  clear hb3 c1 c2
  obtain ⟨gp, hgp⟩ : ∃ gp, gp = w9.heap.size := ⟨_, rfl⟩
  rw [← hgp] at vp ⊢
  clear hgp
  go_upto_region 5 with (first
      | (go_at_call 27; (with_reducible refine (given_any _).mono ?_); rintro e9 w9 ⟨xa, ya, rfl, q1, q2, q9⟩; replace hX := Lib.hid (hX.out.trans (Below.mono q9 hX.out.size)); (try replace w6 := Lib.hid (rowK w6.out q9)); (try replace v1 := Lib.hid (v1.out.mono q9)); (try replace v2 := Lib.hid (v2.out.mono q9)); (try replace vp := Lib.hid (vp.out.mono q9)); (try replace v3 := Lib.hid (v3.out.mono q9)); (try replace vt := Lib.hid (vt.out.mono q9)); have o1 := Lib.hid q1; have o2 := Lib.hid q2; clear q1 q2 q9)
      | (go_at_call 19; (with_reducible refine (c3.out _ _ _ _ o1.out o2.out vp.out).mono ?_); rintro e9 w9 ⟨xv, yv, dv, rfl, q1, q2, q3, q9⟩; replace hX := Lib.hid (hX.out.trans (Below.mono q9 hX.out.size)); (try replace w6 := Lib.hid (rowK w6.out q9)); (try replace v1 := Lib.hid (v1.out.mono q9)); (try replace v2 := Lib.hid (v2.out.mono q9)); (try replace vp := Lib.hid (vp.out.mono q9)); (try replace v3 := Lib.hid (v3.out.mono q9)); (try replace vt := Lib.hid (vt.out.mono q9)); have vt := Lib.hid q1.rd; have v3 := Lib.hid q3.rd; obtain ⟨t1a, t1c, rfl⟩ := q1.slice; obtain ⟨u1a, u1c, rfl⟩ := q2.slice; obtain ⟨d1a, d1c, rfl⟩ := q3.slice; clear q1 q2 q3 o1 o2; clear q9)
      | (refine storeNew _ rfl 24 _ _ rfl (tkC (.slice t1a _ t1c) (.slice u1a _ u1c)) 24 rfl rfl info_tk rfl (tk_one _ _ rfl rfl) ?_; intro w5 hrx hbx; replace hX := Lib.hid (hX.out.trans (Below.mono hbx hX.out.size)); (try replace w6 := Lib.hid (rowK w6.out hbx)); (try replace v1 := Lib.hid (v1.out.mono hbx)); (try replace v2 := Lib.hid (v2.out.mono hbx)); (try replace vp := Lib.hid (vp.out.mono hbx)); (try replace v3 := Lib.hid (v3.out.mono hbx)); (try replace vt := Lib.hid (vt.out.mono hbx)); have w6 := Lib.hid hrx; clear hrx hbx))
  obtain ⟨g6, hg6⟩ : ∃ g6, g6 = w9.heap.size := ⟨_, rfl⟩
  rw [← hg6] at w6 ⊢
  clear hg6 c3
  go_upto_region 7 with (first
      | (go_at_call 27; (with_reducible refine (given_any _).mono ?_); rintro e9 w9 ⟨xa, ya, rfl, q1, q2, q9⟩; replace hX := Lib.hid (hX.out.trans (Below.mono q9 hX.out.size)); (try replace w6 := Lib.hid (rowK w6.out q9)); (try replace v1 := Lib.hid (v1.out.mono q9)); (try replace v2 := Lib.hid (v2.out.mono q9)); (try replace vp := Lib.hid (vp.out.mono q9)); (try replace v3 := Lib.hid (v3.out.mono q9)); (try replace vt := Lib.hid (vt.out.mono q9)); have o1 := Lib.hid q1; have o2 := Lib.hid q2; clear q1 q2 q9)
      | (go_at_call 25; (with_reducible refine (c4.out _ _ _ _ o1.out o2.out vp.out).mono ?_); rintro e9 w9 ⟨rfl, q9⟩; replace hX := Lib.hid (hX.out.trans (Below.mono q9 hX.out.size)); (try replace w6 := Lib.hid (rowK w6.out q9)); (try replace v1 := Lib.hid (v1.out.mono q9)); (try replace v2 := Lib.hid (v2.out.mono q9)); (try replace vp := Lib.hid (vp.out.mono q9)); (try replace v3 := Lib.hid (v3.out.mono q9)); (try replace vt := Lib.hid (vt.out.mono q9)); clear o1 o2; clear q9)
      | (go_at_call 25; (with_reducible refine (c5.out _ _ _ _ o1.out o2.out vp.out).mono ?_); rintro e9 w9 ⟨rfl, q9⟩; replace hX := Lib.hid (hX.out.trans (Below.mono q9 hX.out.size)); (try replace w6 := Lib.hid (rowK w6.out q9)); (try replace v1 := Lib.hid (v1.out.mono q9)); (try replace v2 := Lib.hid (v2.out.mono q9)); (try replace vp := Lib.hid (vp.out.mono q9)); (try replace v3 := Lib.hid (v3.out.mono q9)); (try replace vt := Lib.hid (vt.out.mono q9)); clear o1 o2; clear q9))
  clear c4 c5 vp
  have hX7 := Lib.hid hX.out
  refine wp_region_fq 46 alvA alvU [45] (fun _ => none) (alvK l1a r1a d1a t1a l1c r1c d1c t1c g6) (by kernel_rfl) (by kernel_rfl) (by kernel_rfl) (by kernel_rfl) ?hstep ?hdone
  case hstep =>
    intro i op vs iv wz hi hop hinv hsp hd
    match i, hi with
    | 0, _ =>
      simp only [List.getElem?_toArray, List.getElem?_cons_zero, List.getElem?_cons_succ, Option.some.injEq] at hop
      subst hop
      generalize hfr : fxF _ vs fxT _ 0 = fr
      have e0 : fr.eval (.tmp 2) = .int .i64 0 := by rw [← hfr]; exact fx_old 0 (by kernel_rfl)
      clear hfr
      have ec : ∀ v, fr.eval (.const v) = v := fun _ => rfl
      refine fx_val (v := .int .i64 0) (w' := wz) rfl ?_ ⟨Nat.le_refl _, rfl, Below.refl _ _⟩
      skip
      unfold execOp
      generalize fr.eval = ev at ec e0 ⊢
      simp [go_sem, ec, e0]
    | 1, _ =>
      simp only [List.getElem?_toArray, List.getElem?_cons_zero, List.getElem?_cons_succ, Option.some.injEq] at hop
      subst hop
      generalize hfr : fxF _ vs fxT _ 1 = fr
      have h0 : vs 0 = .int .i64 0 := hd 0 (by decide)
      have e0 : fr.eval (.tmp 43) = .int .i64 0 := by rw [← hfr]; exact (fx_new (by simp) 1 (by kernel_rfl)).trans h0
      clear hfr
      have ec : ∀ v, fr.eval (.const v) = v := fun _ => rfl
      refine fx_val (v := .bool true) (w' := wz) rfl ?_ ⟨Nat.le_refl _, rfl, Below.refl _ _⟩
      skip
      unfold execOp
      generalize fr.eval = ev at ec e0 ⊢
      simp [go_sem, ec, e0]
    | 2, _ =>
      simp only [List.getElem?_toArray, List.getElem?_cons_zero, List.getElem?_cons_succ, Option.some.injEq] at hop
      subst hop
      generalize hfr : fxF _ vs fxT _ 2 = fr
      have h0 : vs 1 = .bool true := hd 1 (by decide)
      have e0 : fr.eval (.tmp 44) = .bool true := by rw [← hfr]; exact (fx_new (by simp) 2 (by kernel_rfl)).trans h0
      clear hfr
      have ec : ∀ v, fr.eval (.const v) = v := fun _ => rfl
      refine fx_val (v := .bool true) (w' := wz) rfl ?_ ⟨Nat.le_refl _, rfl, Below.refl _ _⟩
      skip
      unfold execOp
      generalize fr.eval = ev at ec e0 ⊢
      simp [go_sem, ec, e0]
    | 3, _ =>
      simp only [List.getElem?_toArray, List.getElem?_cons_zero, List.getElem?_cons_succ, Option.some.injEq] at hop
      subst hop
      generalize hfr : fxF _ vs fxT _ 3 = fr
      have e0 : fr.eval (.tmp 4) = .int .i64 0 := by rw [← hfr]; exact fx_old 3 (by kernel_rfl)
      have hg : vs 2 = .bool true := hd 2 (by decide)
      have eg : fr.eval (.tmp 45) = .bool true := by rw [← hfr]; exact (fx_new (by simp) 3 (by kernel_rfl)).trans hg
      clear hfr
      have ec : ∀ v, fr.eval (.const v) = v := fun _ => rfl
      refine fx_val (v := .int .i64 0) (w' := wz) (fx_wantedK (k := 2) (t := 45) (b := true) rfl (by kernel_rfl) eg) ?_ ⟨Nat.le_refl _, rfl, Below.refl _ _⟩
      clear eg
      unfold execOp
      generalize fr.eval = ev at ec e0 ⊢
      simp [go_sem, ec, e0]
    | 4, _ =>
      simp only [List.getElem?_toArray, List.getElem?_cons_zero, List.getElem?_cons_succ, Option.some.injEq] at hop
      subst hop
      generalize hfr : fxF _ vs fxT _ 4 = fr
      have h0 : vs 3 = .int .i64 0 := hd 3 (by decide)
      have e0 : fr.eval (.tmp 46) = .int .i64 0 := by rw [← hfr]; exact (fx_new (by simp) 4 (by kernel_rfl)).trans h0
      have hg : vs 2 = .bool true := hd 2 (by decide)
      have eg : fr.eval (.tmp 45) = .bool true := by rw [← hfr]; exact (fx_new (by simp) 4 (by kernel_rfl)).trans hg
      clear hfr
      have ec : ∀ v, fr.eval (.const v) = v := fun _ => rfl
      refine fx_val (v := .bool true) (w' := wz) (fx_wantedK (k := 2) (t := 45) (b := true) rfl (by kernel_rfl) eg) ?_ ⟨Nat.le_refl _, rfl, Below.refl _ _⟩
      clear eg
      unfold execOp
      generalize fr.eval = ev at ec e0 ⊢
      simp [go_sem, ec, e0]
    | 5, _ =>
      simp only [List.getElem?_toArray, List.getElem?_cons_zero, List.getElem?_cons_succ, Option.some.injEq] at hop
      subst hop
      generalize hfr : fxF _ vs fxT _ 5 = fr
      have h0 : vs 2 = .bool true := hd 2 (by decide)
      have e0 : fr.eval (.tmp 45) = .bool true := by rw [← hfr]; exact (fx_new (by simp) 5 (by kernel_rfl)).trans h0
      have h1 : vs 4 = .bool true := hd 4 (by decide)
      have e1 : fr.eval (.tmp 47) = .bool true := by rw [← hfr]; exact (fx_new (by simp) 5 (by kernel_rfl)).trans h1
      clear hfr
      have ec : ∀ v, fr.eval (.const v) = v := fun _ => rfl
      refine fx_val (v := .bool true) (w' := wz) rfl ?_ ⟨Nat.le_refl _, rfl, Below.refl _ _⟩
      skip
      unfold execOp
      generalize fr.eval = ev at ec e0 e1 ⊢
      simp [go_sem, ec, e0, e1]
    | 6, _ =>
      simp only [List.getElem?_toArray, List.getElem?_cons_zero, List.getElem?_cons_succ, Option.some.injEq] at hop
      subst hop
      generalize hfr : fxF _ vs fxT _ 6 = fr
      have h0 : vs 5 = .bool true := hd 5 (by decide)
      have e0 : fr.eval (.tmp 48) = .bool true := by rw [← hfr]; exact (fx_new (by simp) 6 (by kernel_rfl)).trans h0
      clear hfr
      have ec : ∀ v, fr.eval (.const v) = v := fun _ => rfl
      refine fx_val (v := .bool true) (w' := wz) rfl ?_ ⟨Nat.le_refl _, rfl, Below.refl _ _⟩
      skip
      unfold execOp
      generalize fr.eval = ev at ec e0 ⊢
      simp [go_sem, ec, e0]
    | 7, _ =>
      simp only [List.getElem?_toArray, List.getElem?_cons_zero, List.getElem?_cons_succ, Option.some.injEq] at hop
      subst hop
      generalize hfr : fxF _ vs fxT _ 7 = fr
      have e0 : fr.eval (.tmp 8) = .int .i64 0 := by rw [← hfr]; exact fx_old 7 (by kernel_rfl)
      have hg : vs 6 = .bool true := hd 6 (by decide)
      have eg : fr.eval (.tmp 49) = .bool true := by rw [← hfr]; exact (fx_new (by simp) 7 (by kernel_rfl)).trans hg
      clear hfr
      have ec : ∀ v, fr.eval (.const v) = v := fun _ => rfl
      refine fx_val (v := .int .i64 0) (w' := wz) (fx_wantedK (k := 6) (t := 49) (b := true) rfl (by kernel_rfl) eg) ?_ ⟨Nat.le_refl _, rfl, Below.refl _ _⟩
      clear eg
      unfold execOp
      generalize fr.eval = ev at ec e0 ⊢
      simp [go_sem, ec, e0]
    | 8, _ =>
      simp only [List.getElem?_toArray, List.getElem?_cons_zero, List.getElem?_cons_succ, Option.some.injEq] at hop
      subst hop
      generalize hfr : fxF _ vs fxT _ 8 = fr
      have h0 : vs 7 = .int .i64 0 := hd 7 (by decide)
      have e0 : fr.eval (.tmp 50) = .int .i64 0 := by rw [← hfr]; exact (fx_new (by simp) 8 (by kernel_rfl)).trans h0
      have hg : vs 6 = .bool true := hd 6 (by decide)
      have eg : fr.eval (.tmp 49) = .bool true := by rw [← hfr]; exact (fx_new (by simp) 8 (by kernel_rfl)).trans hg
      clear hfr
      have ec : ∀ v, fr.eval (.const v) = v := fun _ => rfl
      refine fx_val (v := .bool true) (w' := wz) (fx_wantedK (k := 6) (t := 49) (b := true) rfl (by kernel_rfl) eg) ?_ ⟨Nat.le_refl _, rfl, Below.refl _ _⟩
      clear eg
      unfold execOp
      generalize fr.eval = ev at ec e0 ⊢
      simp [go_sem, ec, e0]
    | 9, _ =>
      simp only [List.getElem?_toArray, List.getElem?_cons_zero, List.getElem?_cons_succ, Option.some.injEq] at hop
      subst hop
      generalize hfr : fxF _ vs fxT _ 9 = fr
      have h0 : vs 6 = .bool true := hd 6 (by decide)
      have e0 : fr.eval (.tmp 49) = .bool true := by rw [← hfr]; exact (fx_new (by simp) 9 (by kernel_rfl)).trans h0
      have h1 : vs 8 = .bool true := hd 8 (by decide)
      have e1 : fr.eval (.tmp 51) = .bool true := by rw [← hfr]; exact (fx_new (by simp) 9 (by kernel_rfl)).trans h1
      clear hfr
      have ec : ∀ v, fr.eval (.const v) = v := fun _ => rfl
      refine fx_val (v := .bool true) (w' := wz) rfl ?_ ⟨Nat.le_refl _, rfl, Below.refl _ _⟩
      skip
      unfold execOp
      generalize fr.eval = ev at ec e0 e1 ⊢
      simp [go_sem, ec, e0, e1]
    | 10, _ =>
      simp only [List.getElem?_toArray, List.getElem?_cons_zero, List.getElem?_cons_succ, Option.some.injEq] at hop
      subst hop
      generalize hfr : fxF _ vs fxT _ 10 = fr
      have h0 : vs 9 = .bool true := hd 9 (by decide)
      have e0 : fr.eval (.tmp 52) = .bool true := by rw [← hfr]; exact (fx_new (by simp) 10 (by kernel_rfl)).trans h0
      clear hfr
      have ec : ∀ v, fr.eval (.const v) = v := fun _ => rfl
      refine fx_val (v := .bool true) (w' := wz) rfl ?_ ⟨Nat.le_refl _, rfl, Below.refl _ _⟩
      skip
      unfold execOp
      generalize fr.eval = ev at ec e0 ⊢
      simp [go_sem, ec, e0]
    | 11, _ =>
      simp only [List.getElem?_toArray, List.getElem?_cons_zero, List.getElem?_cons_succ, Option.some.injEq] at hop
      subst hop
      generalize hfr : fxF _ vs fxT _ 11 = fr
      have e0 : fr.eval (.tmp 10) = .int .i64 0 := by rw [← hfr]; exact fx_old 11 (by kernel_rfl)
      have hg : vs 10 = .bool true := hd 10 (by decide)
      have eg : fr.eval (.tmp 53) = .bool true := by rw [← hfr]; exact (fx_new (by simp) 11 (by kernel_rfl)).trans hg
      clear hfr
      have ec : ∀ v, fr.eval (.const v) = v := fun _ => rfl
      refine fx_val (v := .int .i64 0) (w' := wz) (fx_wantedK (k := 10) (t := 53) (b := true) rfl (by kernel_rfl) eg) ?_ ⟨Nat.le_refl _, rfl, Below.refl _ _⟩
      clear eg
      unfold execOp
      generalize fr.eval = ev at ec e0 ⊢
      simp [go_sem, ec, e0]
    | 12, _ =>
      simp only [List.getElem?_toArray, List.getElem?_cons_zero, List.getElem?_cons_succ, Option.some.injEq] at hop
      subst hop
      generalize hfr : fxF _ vs fxT _ 12 = fr
      have h0 : vs 11 = .int .i64 0 := hd 11 (by decide)
      have e0 : fr.eval (.tmp 54) = .int .i64 0 := by rw [← hfr]; exact (fx_new (by simp) 12 (by kernel_rfl)).trans h0
      have hg : vs 10 = .bool true := hd 10 (by decide)
      have eg : fr.eval (.tmp 53) = .bool true := by rw [← hfr]; exact (fx_new (by simp) 12 (by kernel_rfl)).trans hg
      clear hfr
      have ec : ∀ v, fr.eval (.const v) = v := fun _ => rfl
      refine fx_val (v := .bool true) (w' := wz) (fx_wantedK (k := 10) (t := 53) (b := true) rfl (by kernel_rfl) eg) ?_ ⟨Nat.le_refl _, rfl, Below.refl _ _⟩
      clear eg
      unfold execOp
      generalize fr.eval = ev at ec e0 ⊢
      simp [go_sem, ec, e0]
    | 13, _ =>
      simp only [List.getElem?_toArray, List.getElem?_cons_zero, List.getElem?_cons_succ, Option.some.injEq] at hop
      subst hop
      generalize hfr : fxF _ vs fxT _ 13 = fr
      have h0 : vs 10 = .bool true := hd 10 (by decide)
      have e0 : fr.eval (.tmp 53) = .bool true := by rw [← hfr]; exact (fx_new (by simp) 13 (by kernel_rfl)).trans h0
      have h1 : vs 12 = .bool true := hd 12 (by decide)
      have e1 : fr.eval (.tmp 55) = .bool true := by rw [← hfr]; exact (fx_new (by simp) 13 (by kernel_rfl)).trans h1
      clear hfr
      have ec : ∀ v, fr.eval (.const v) = v := fun _ => rfl
      refine fx_val (v := .bool true) (w' := wz) rfl ?_ ⟨Nat.le_refl _, rfl, Below.refl _ _⟩
      skip
      unfold execOp
      generalize fr.eval = ev at ec e0 e1 ⊢
      simp [go_sem, ec, e0, e1]
    | 14, _ =>
      simp only [List.getElem?_toArray, List.getElem?_cons_zero, List.getElem?_cons_succ, Option.some.injEq] at hop
      subst hop
      generalize hfr : fxF _ vs fxT _ 14 = fr
      have h0 : vs 13 = .bool true := hd 13 (by decide)
      have e0 : fr.eval (.tmp 56) = .bool true := by rw [← hfr]; exact (fx_new (by simp) 14 (by kernel_rfl)).trans h0
      clear hfr
      have ec : ∀ v, fr.eval (.const v) = v := fun _ => rfl
      refine fx_val (v := .bool true) (w' := wz) rfl ?_ ⟨Nat.le_refl _, rfl, Below.refl _ _⟩
      skip
      unfold execOp
      generalize fr.eval = ev at ec e0 ⊢
      simp [go_sem, ec, e0]
    | 15, _ =>
      simp only [List.getElem?_toArray, List.getElem?_cons_zero, List.getElem?_cons_succ, Option.some.injEq] at hop
      subst hop
      generalize hfr : fxF _ vs fxT _ 15 = fr
      have e0 : fr.eval (.tmp 12) = .int .i64 0 := by rw [← hfr]; exact fx_old 15 (by kernel_rfl)
      have hg : vs 14 = .bool true := hd 14 (by decide)
      have eg : fr.eval (.tmp 57) = .bool true := by rw [← hfr]; exact (fx_new (by simp) 15 (by kernel_rfl)).trans hg
      clear hfr
      have ec : ∀ v, fr.eval (.const v) = v := fun _ => rfl
      refine fx_val (v := .int .i64 0) (w' := wz) (fx_wantedK (k := 14) (t := 57) (b := true) rfl (by kernel_rfl) eg) ?_ ⟨Nat.le_refl _, rfl, Below.refl _ _⟩
      clear eg
      unfold execOp
      generalize fr.eval = ev at ec e0 ⊢
      simp [go_sem, ec, e0]
    | 16, _ =>
      simp only [List.getElem?_toArray, List.getElem?_cons_zero, List.getElem?_cons_succ, Option.some.injEq] at hop
      subst hop
      generalize hfr : fxF _ vs fxT _ 16 = fr
      have h0 : vs 15 = .int .i64 0 := hd 15 (by decide)
      have e0 : fr.eval (.tmp 58) = .int .i64 0 := by rw [← hfr]; exact (fx_new (by simp) 16 (by kernel_rfl)).trans h0
      have hg : vs 14 = .bool true := hd 14 (by decide)
      have eg : fr.eval (.tmp 57) = .bool true := by rw [← hfr]; exact (fx_new (by simp) 16 (by kernel_rfl)).trans hg
      clear hfr
      have ec : ∀ v, fr.eval (.const v) = v := fun _ => rfl
      refine fx_val (v := .bool true) (w' := wz) (fx_wantedK (k := 14) (t := 57) (b := true) rfl (by kernel_rfl) eg) ?_ ⟨Nat.le_refl _, rfl, Below.refl _ _⟩
      clear eg
      unfold execOp
      generalize fr.eval = ev at ec e0 ⊢
      simp [go_sem, ec, e0]
    | 17, _ =>
      simp only [List.getElem?_toArray, List.getElem?_cons_zero, List.getElem?_cons_succ, Option.some.injEq] at hop
      subst hop
      generalize hfr : fxF _ vs fxT _ 17 = fr
      have h0 : vs 14 = .bool true := hd 14 (by decide)
      have e0 : fr.eval (.tmp 57) = .bool true := by rw [← hfr]; exact (fx_new (by simp) 17 (by kernel_rfl)).trans h0
      have h1 : vs 16 = .bool true := hd 16 (by decide)
      have e1 : fr.eval (.tmp 59) = .bool true := by rw [← hfr]; exact (fx_new (by simp) 17 (by kernel_rfl)).trans h1
      clear hfr
      have ec : ∀ v, fr.eval (.const v) = v := fun _ => rfl
      refine fx_val (v := .bool true) (w' := wz) rfl ?_ ⟨Nat.le_refl _, rfl, Below.refl _ _⟩
      skip
      unfold execOp
      generalize fr.eval = ev at ec e0 e1 ⊢
      simp [go_sem, ec, e0, e1]
    | 18, _ =>
      simp only [List.getElem?_toArray, List.getElem?_cons_zero, List.getElem?_cons_succ, Option.some.injEq] at hop
      subst hop
      generalize hfr : fxF _ vs fxT _ 18 = fr
      have h0 : vs 17 = .bool true := hd 17 (by decide)
      have e0 : fr.eval (.tmp 60) = .bool true := by rw [← hfr]; exact (fx_new (by simp) 18 (by kernel_rfl)).trans h0
      clear hfr
      have ec : ∀ v, fr.eval (.const v) = v := fun _ => rfl
      refine fx_val (v := .bool true) (w' := wz) rfl ?_ ⟨Nat.le_refl _, rfl, Below.refl _ _⟩
      skip
      unfold execOp
      generalize fr.eval = ev at ec e0 ⊢
      simp [go_sem, ec, e0]
    | 19, _ =>
      simp only [List.getElem?_toArray, List.getElem?_cons_zero, List.getElem?_cons_succ, Option.some.injEq] at hop
      subst hop
      generalize hfr : fxF _ vs fxT _ 19 = fr
      have e0 : fr.eval (.tmp 1) = .slice l1a 2 l1c := by rw [← hfr]; exact fx_old 19 (by kernel_rfl)
      have hg : vs 18 = .bool true := hd 18 (by decide)
      have eg : fr.eval (.tmp 61) = .bool true := by rw [← hfr]; exact (fx_new (by simp) 19 (by kernel_rfl)).trans hg
      clear hfr
      have ec : ∀ v, fr.eval (.const v) = v := fun _ => rfl
      refine fx_val (v := .slice l1a 2 l1c) (w' := wz) (fx_wantedK (k := 18) (t := 61) (b := true) rfl (by kernel_rfl) eg) ?_ ⟨Nat.le_refl _, rfl, Below.refl _ _⟩
      clear eg
      unfold execOp
      generalize fr.eval = ev at ec e0 ⊢
      simp [go_sem, ec, e0]
    | 20, _ =>
      simp only [List.getElem?_toArray, List.getElem?_cons_zero, List.getElem?_cons_succ, Option.some.injEq] at hop
      subst hop
      generalize hfr : fxF _ vs fxT _ 20 = fr
      have hg : vs 18 = .bool true := hd 18 (by decide)
      have eg : fr.eval (.tmp 61) = .bool true := by rw [← hfr]; exact (fx_new (by simp) 20 (by kernel_rfl)).trans hg
      clear hfr
      have ec : ∀ v, fr.eval (.const v) = v := fun _ => rfl
      refine fx_val (v := .slice (some ⟨wz.heap.size, 0, none⟩) 2 2) (w' := wz.alloc (.cells #[.int .i64 0, .int .i64 1] 3)) (fx_wantedK (k := 18) (t := 61) (b := true) rfl (by kernel_rfl) eg) ?_ ⟨(below_a wz _).size, rdN_lit (l := [0, 1]) (heap_alloc_new wz _) (by decide), below_a wz _⟩
      clear eg
      unfold execOp
      generalize fr.eval = ev at ec ⊢
      simp [go_sem, ec]
    | 21, _ =>
      simp only [List.getElem?_toArray, List.getElem?_cons_zero, List.getElem?_cons_succ, Option.some.injEq] at hop
      subst hop
      generalize hfr : fxF _ vs fxT _ 21 = fr
      have h0 : vs 19 = .slice l1a 2 l1c := hd 19 (by decide)
      have h1 : RdN wz (vs 20) [0, 1] := hd 20 (by decide)
      have e0 : fr.eval (.tmp 62) = .slice l1a 2 l1c := by rw [← hfr]; exact (fx_new (by simp) 21 (by kernel_rfl)).trans h0
      have e1 : fr.eval (.tmp 63) = vs 20 := by rw [← hfr]; exact fx_new (by simp) 21 (by kernel_rfl)
      have hg : vs 18 = .bool true := hd 18 (by decide)
      have eg : fr.eval (.tmp 61) = .bool true := by rw [← hfr]; exact (fx_new (by simp) 21 (by kernel_rfl)).trans hg
      clear hfr
      refine fx_call #[.slice l1a 2 l1c, vs 20] (fx_wantedK (k := 18) (t := 61) (b := true) rfl (by kernel_rfl) eg) rfl Try.func18 (by kernel_rfl) rfl (by simp [e0, e1]) rfl ((sameInts_any [0, 1] [0, 1] _ _ wz (v1.out.mono hinv) h1).mono ?_)
      rintro e9 w9 ⟨rfl, q9⟩
      exact ⟨_, rfl, q9.size, rfl, q9⟩
    | 22, _ =>
      simp only [List.getElem?_toArray, List.getElem?_cons_zero, List.getElem?_cons_succ, Option.some.injEq] at hop
      subst hop
      generalize hfr : fxF _ vs fxT _ 22 = fr
      have h0 : vs 18 = .bool true := hd 18 (by decide)
      have e0 : fr.eval (.tmp 61) = .bool true := by rw [← hfr]; exact (fx_new (by simp) 22 (by kernel_rfl)).trans h0
      have h1 : vs 21 = .bool true := hd 21 (by decide)
      have e1 : fr.eval (.tmp 64) = .bool true := by rw [← hfr]; exact (fx_new (by simp) 22 (by kernel_rfl)).trans h1
      clear hfr
      have ec : ∀ v, fr.eval (.const v) = v := fun _ => rfl
      refine fx_val (v := .bool true) (w' := wz) rfl ?_ ⟨Nat.le_refl _, rfl, Below.refl _ _⟩
      skip
      unfold execOp
      generalize fr.eval = ev at ec e0 e1 ⊢
      simp [go_sem, ec, e0, e1]
    | 23, _ =>
      simp only [List.getElem?_toArray, List.getElem?_cons_zero, List.getElem?_cons_succ, Option.some.injEq] at hop
      subst hop
      generalize hfr : fxF _ vs fxT _ 23 = fr
      have h0 : vs 22 = .bool true := hd 22 (by decide)
      have e0 : fr.eval (.tmp 65) = .bool true := by rw [← hfr]; exact (fx_new (by simp) 23 (by kernel_rfl)).trans h0
      clear hfr
      have ec : ∀ v, fr.eval (.const v) = v := fun _ => rfl
      refine fx_val (v := .bool true) (w' := wz) rfl ?_ ⟨Nat.le_refl _, rfl, Below.refl _ _⟩
      skip
      unfold execOp
      generalize fr.eval = ev at ec e0 ⊢
      simp [go_sem, ec, e0]
    | 24, _ =>
      simp only [List.getElem?_toArray, List.getElem?_cons_zero, List.getElem?_cons_succ, Option.some.injEq] at hop
      subst hop
      generalize hfr : fxF _ vs fxT _ 24 = fr
      have e0 : fr.eval (.tmp 3) = .slice r1a 4 r1c := by rw [← hfr]; exact fx_old 24 (by kernel_rfl)
      have hg : vs 23 = .bool true := hd 23 (by decide)
      have eg : fr.eval (.tmp 66) = .bool true := by rw [← hfr]; exact (fx_new (by simp) 24 (by kernel_rfl)).trans hg
      clear hfr
      have ec : ∀ v, fr.eval (.const v) = v := fun _ => rfl
      refine fx_val (v := .slice r1a 4 r1c) (w' := wz) (fx_wantedK (k := 23) (t := 66) (b := true) rfl (by kernel_rfl) eg) ?_ ⟨Nat.le_refl _, rfl, Below.refl _ _⟩
      clear eg
      unfold execOp
      generalize fr.eval = ev at ec e0 ⊢
      simp [go_sem, ec, e0]
    | 25, _ =>
      simp only [List.getElem?_toArray, List.getElem?_cons_zero, List.getElem?_cons_succ, Option.some.injEq] at hop
      subst hop
      generalize hfr : fxF _ vs fxT _ 25 = fr
      have hg : vs 23 = .bool true := hd 23 (by decide)
      have eg : fr.eval (.tmp 66) = .bool true := by rw [← hfr]; exact (fx_new (by simp) 25 (by kernel_rfl)).trans hg
      clear hfr
      have ec : ∀ v, fr.eval (.const v) = v := fun _ => rfl
      refine fx_val (v := .slice (some ⟨wz.heap.size, 0, none⟩) 4 4) (w' := wz.alloc (.cells #[.int .i64 0, .int .i64 1, .int .i64 0, .int .i64 2] 3)) (fx_wantedK (k := 23) (t := 66) (b := true) rfl (by kernel_rfl) eg) ?_ ⟨(below_a wz _).size, rdN_lit (l := [0, 1, 0, 2]) (heap_alloc_new wz _) (by decide), below_a wz _⟩
      clear eg
      unfold execOp
      generalize fr.eval = ev at ec ⊢
      simp [go_sem, ec]
    | 26, _ =>
      simp only [List.getElem?_toArray, List.getElem?_cons_zero, List.getElem?_cons_succ, Option.some.injEq] at hop
      subst hop
      generalize hfr : fxF _ vs fxT _ 26 = fr
      have h0 : vs 24 = .slice r1a 4 r1c := hd 24 (by decide)
      have h1 : RdN wz (vs 25) [0, 1, 0, 2] := hd 25 (by decide)
      have e0 : fr.eval (.tmp 67) = .slice r1a 4 r1c := by rw [← hfr]; exact (fx_new (by simp) 26 (by kernel_rfl)).trans h0
      have e1 : fr.eval (.tmp 68) = vs 25 := by rw [← hfr]; exact fx_new (by simp) 26 (by kernel_rfl)
      have hg : vs 23 = .bool true := hd 23 (by decide)
      have eg : fr.eval (.tmp 66) = .bool true := by rw [← hfr]; exact (fx_new (by simp) 26 (by kernel_rfl)).trans hg
      clear hfr
      refine fx_call #[.slice r1a 4 r1c, vs 25] (fx_wantedK (k := 23) (t := 66) (b := true) rfl (by kernel_rfl) eg) rfl Try.func18 (by kernel_rfl) rfl (by simp [e0, e1]) rfl ((sameInts_any [0, 1, 0, 2] [0, 1, 0, 2] _ _ wz (v2.out.mono hinv) h1).mono ?_)
      rintro e9 w9 ⟨rfl, q9⟩
      exact ⟨_, rfl, q9.size, rfl, q9⟩
    | 27, _ =>
      simp only [List.getElem?_toArray, List.getElem?_cons_zero, List.getElem?_cons_succ, Option.some.injEq] at hop
      subst hop
      generalize hfr : fxF _ vs fxT _ 27 = fr
      have h0 : vs 23 = .bool true := hd 23 (by decide)
      have e0 : fr.eval (.tmp 66) = .bool true := by rw [← hfr]; exact (fx_new (by simp) 27 (by kernel_rfl)).trans h0
      have h1 : vs 26 = .bool true := hd 26 (by decide)
      have e1 : fr.eval (.tmp 69) = .bool true := by rw [← hfr]; exact (fx_new (by simp) 27 (by kernel_rfl)).trans h1
      clear hfr
      have ec : ∀ v, fr.eval (.const v) = v := fun _ => rfl
      refine fx_val (v := .bool true) (w' := wz) rfl ?_ ⟨Nat.le_refl _, rfl, Below.refl _ _⟩
      skip
      unfold execOp
      generalize fr.eval = ev at ec e0 e1 ⊢
      simp [go_sem, ec, e0, e1]
    | 28, _ =>
      simp only [List.getElem?_toArray, List.getElem?_cons_zero, List.getElem?_cons_succ, Option.some.injEq] at hop
      subst hop
      generalize hfr : fxF _ vs fxT _ 28 = fr
      have h0 : vs 27 = .bool true := hd 27 (by decide)
      have e0 : fr.eval (.tmp 70) = .bool true := by rw [← hfr]; exact (fx_new (by simp) 28 (by kernel_rfl)).trans h0
      clear hfr
      have ec : ∀ v, fr.eval (.const v) = v := fun _ => rfl
      refine fx_val (v := .bool true) (w' := wz) rfl ?_ ⟨Nat.le_refl _, rfl, Below.refl _ _⟩
      skip
      unfold execOp
      generalize fr.eval = ev at ec e0 ⊢
      simp [go_sem, ec, e0]
    | 29, _ =>
      simp only [List.getElem?_toArray, List.getElem?_cons_zero, List.getElem?_cons_succ, Option.some.injEq] at hop
      subst hop
      generalize hfr : fxF _ vs fxT _ 29 = fr
      have e0 : fr.eval (.tmp 7) = .slice d1a 4 d1c := by rw [← hfr]; exact fx_old 29 (by kernel_rfl)
      have hg : vs 28 = .bool true := hd 28 (by decide)
      have eg : fr.eval (.tmp 71) = .bool true := by rw [← hfr]; exact (fx_new (by simp) 29 (by kernel_rfl)).trans hg
      clear hfr
      have ec : ∀ v, fr.eval (.const v) = v := fun _ => rfl
      refine fx_val (v := .slice d1a 4 d1c) (w' := wz) (fx_wantedK (k := 28) (t := 71) (b := true) rfl (by kernel_rfl) eg) ?_ ⟨Nat.le_refl _, rfl, Below.refl _ _⟩
      clear eg
      unfold execOp
      generalize fr.eval = ev at ec e0 ⊢
      simp [go_sem, ec, e0]
    | 30, _ =>
      simp only [List.getElem?_toArray, List.getElem?_cons_zero, List.getElem?_cons_succ, Option.some.injEq] at hop
      subst hop
      generalize hfr : fxF _ vs fxT _ 30 = fr
      have hg : vs 28 = .bool true := hd 28 (by decide)
      have eg : fr.eval (.tmp 71) = .bool true := by rw [← hfr]; exact (fx_new (by simp) 30 (by kernel_rfl)).trans hg
      clear hfr
      have ec : ∀ v, fr.eval (.const v) = v := fun _ => rfl
      refine fx_val (v := .slice (some ⟨wz.heap.size, 0, none⟩) 4 4) (w' := wz.alloc (.cells #[.int .i64 0, .int .i64 2, .int .i64 3, .int .i64 4] 3)) (fx_wantedK (k := 28) (t := 71) (b := true) rfl (by kernel_rfl) eg) ?_ ⟨(below_a wz _).size, rdN_lit (l := [0, 2, 3, 4]) (heap_alloc_new wz _) (by decide), below_a wz _⟩
      clear eg
      unfold execOp
      generalize fr.eval = ev at ec ⊢
      simp [go_sem, ec]
    | 31, _ =>
      simp only [List.getElem?_toArray, List.getElem?_cons_zero, List.getElem?_cons_succ, Option.some.injEq] at hop
      subst hop
      generalize hfr : fxF _ vs fxT _ 31 = fr
      have h0 : vs 29 = .slice d1a 4 d1c := hd 29 (by decide)
      have h1 : RdN wz (vs 30) [0, 2, 3, 4] := hd 30 (by decide)
      have e0 : fr.eval (.tmp 72) = .slice d1a 4 d1c := by rw [← hfr]; exact (fx_new (by simp) 31 (by kernel_rfl)).trans h0
      have e1 : fr.eval (.tmp 73) = vs 30 := by rw [← hfr]; exact fx_new (by simp) 31 (by kernel_rfl)
      have hg : vs 28 = .bool true := hd 28 (by decide)
      have eg : fr.eval (.tmp 71) = .bool true := by rw [← hfr]; exact (fx_new (by simp) 31 (by kernel_rfl)).trans hg
      clear hfr
      refine fx_call #[.slice d1a 4 d1c, vs 30] (fx_wantedK (k := 28) (t := 71) (b := true) rfl (by kernel_rfl) eg) rfl Try.func18 (by kernel_rfl) rfl (by simp [e0, e1]) rfl ((sameInts_any [0, 2, 3, 4] [0, 2, 3, 4] _ _ wz (v3.out.mono hinv) h1).mono ?_)
      rintro e9 w9 ⟨rfl, q9⟩
      exact ⟨_, rfl, q9.size, rfl, q9⟩
    | 32, _ =>
      simp only [List.getElem?_toArray, List.getElem?_cons_zero, List.getElem?_cons_succ, Option.some.injEq] at hop
      subst hop
      generalize hfr : fxF _ vs fxT _ 32 = fr
      have h0 : vs 28 = .bool true := hd 28 (by decide)
      have e0 : fr.eval (.tmp 71) = .bool true := by rw [← hfr]; exact (fx_new (by simp) 32 (by kernel_rfl)).trans h0
      have h1 : vs 31 = .bool true := hd 31 (by decide)
      have e1 : fr.eval (.tmp 74) = .bool true := by rw [← hfr]; exact (fx_new (by simp) 32 (by kernel_rfl)).trans h1
      clear hfr
      have ec : ∀ v, fr.eval (.const v) = v := fun _ => rfl
      refine fx_val (v := .bool true) (w' := wz) rfl ?_ ⟨Nat.le_refl _, rfl, Below.refl _ _⟩
      skip
      unfold execOp
      generalize fr.eval = ev at ec e0 e1 ⊢
      simp [go_sem, ec, e0, e1]
    | 33, _ =>
      simp only [List.getElem?_toArray, List.getElem?_cons_zero, List.getElem?_cons_succ, Option.some.injEq] at hop
      subst hop
      generalize hfr : fxF _ vs fxT _ 33 = fr
      have h0 : vs 32 = .bool true := hd 32 (by decide)
      have e0 : fr.eval (.tmp 75) = .bool true := by rw [← hfr]; exact (fx_new (by simp) 33 (by kernel_rfl)).trans h0
      clear hfr
      have ec : ∀ v, fr.eval (.const v) = v := fun _ => rfl
      refine fx_val (v := .bool true) (w' := wz) rfl ?_ ⟨Nat.le_refl _, rfl, Below.refl _ _⟩
      skip
      unfold execOp
      generalize fr.eval = ev at ec e0 ⊢
      simp [go_sem, ec, e0]
    | 34, _ =>
      simp only [List.getElem?_toArray, List.getElem?_cons_zero, List.getElem?_cons_succ, Option.some.injEq] at hop
      subst hop
      generalize hfr : fxF _ vs fxT _ 34 = fr
      have e0 : fr.eval (.tmp 6) = .pointer (some ⟨g6, 0, none⟩) := by rw [← hfr]; exact fx_old 34 (by kernel_rfl)
      have hg : vs 33 = .bool true := hd 33 (by decide)
      have eg : fr.eval (.tmp 76) = .bool true := by rw [← hfr]; exact (fx_new (by simp) 34 (by kernel_rfl)).trans hg
      clear hfr
      have ec : ∀ v, fr.eval (.const v) = v := fun _ => rfl
      refine fx_val (v := .pointer (some ⟨g6, 0, none⟩)) (w' := wz) (fx_wantedK (k := 33) (t := 76) (b := true) rfl (by kernel_rfl) eg) ?_ ⟨Nat.le_refl _, rfl, Below.refl _ _⟩
      clear eg
      unfold execOp
      generalize fr.eval = ev at ec e0 ⊢
      simp [go_sem, ec, e0]
    | 35, _ =>
      simp only [List.getElem?_toArray, List.getElem?_cons_zero, List.getElem?_cons_succ, Option.some.injEq] at hop
      subst hop
      generalize hfr : fxF _ vs fxT _ 35 = fr
      have h0 : vs 34 = .pointer (some ⟨g6, 0, none⟩) := hd 34 (by decide)
      have e0 : fr.eval (.tmp 77) = .pointer (some ⟨g6, 0, none⟩) := by rw [← hfr]; exact (fx_new (by simp) 35 (by kernel_rfl)).trans h0
      have hg : vs 33 = .bool true := hd 33 (by decide)
      have eg : fr.eval (.tmp 76) = .bool true := by rw [← hfr]; exact (fx_new (by simp) 35 (by kernel_rfl)).trans hg
      clear hfr
      exact fx_cellK 22 (.tmp 77) (fx_wantedK (k := 33) (t := 76) (b := true) rfl (by kernel_rfl) eg) rfl g6 0 e0 (tkC (.slice t1a 3 t1c) (.slice u1a 3 u1c)) _ _ (rowK w6.out hinv) ((.slice t1a 3 t1c)) rfl Try.isAgg22 ⟨Nat.le_refl _, rfl, Below.refl _ _⟩
    | 36, _ =>
      simp only [List.getElem?_toArray, List.getElem?_cons_zero, List.getElem?_cons_succ, Option.some.injEq] at hop
      subst hop
      generalize hfr : fxF _ vs fxT _ 36 = fr
      have hg : vs 33 = .bool true := hd 33 (by decide)
      have eg : fr.eval (.tmp 76) = .bool true := by rw [← hfr]; exact (fx_new (by simp) 36 (by kernel_rfl)).trans hg
      clear hfr
      have ec : ∀ v, fr.eval (.const v) = v := fun _ => rfl
      refine fx_val (v := .slice (some ⟨wz.heap.size, 0, none⟩) 3 3) (w' := wz.alloc (.cells #[.int .i64 0, .int .i64 0, .int .i64 0] 3)) (fx_wantedK (k := 33) (t := 76) (b := true) rfl (by kernel_rfl) eg) ?_ ⟨(below_a wz _).size, rdN_lit (l := [0, 0, 0]) (heap_alloc_new wz _) (by decide), below_a wz _⟩
      clear eg
      have hmk : (Instr.makeSlice 22 (.int .i64 3) (.int .i64 3)).run Try.prog wz = .ok (.slice (some ⟨wz.heap.size, 0, none⟩) 3 3) (wz.alloc (.cells #[.int .i64 0, .int .i64 0, .int .i64 0] 3)) := run_makeN (P := Try.prog) wz 22 3 Try.underlying22 (by kernel_rfl) 3 (by decide)
      unfold execOp
      generalize fr.eval = ev at ec ⊢
      simp [go_sem, ec, hmk]
    | 37, _ =>
      simp only [List.getElem?_toArray, List.getElem?_cons_zero, List.getElem?_cons_succ, Option.some.injEq] at hop
      subst hop
      generalize hfr : fxF _ vs fxT _ 37 = fr
      have h0 : vs 35 = .slice t1a 3 t1c := hd 35 (by decide)
      have h1 : RdN wz (vs 36) [0, 0, 0] := hd 36 (by decide)
      have e0 : fr.eval (.tmp 78) = .slice t1a 3 t1c := by rw [← hfr]; exact (fx_new (by simp) 37 (by kernel_rfl)).trans h0
      have e1 : fr.eval (.tmp 79) = vs 36 := by rw [← hfr]; exact fx_new (by simp) 37 (by kernel_rfl)
      have hg : vs 33 = .bool true := hd 33 (by decide)
      have eg : fr.eval (.tmp 76) = .bool true := by rw [← hfr]; exact (fx_new (by simp) 37 (by kernel_rfl)).trans hg
      clear hfr
      refine fx_call #[.slice t1a 3 t1c, vs 36] (fx_wantedK (k := 33) (t := 76) (b := true) rfl (by kernel_rfl) eg) rfl Try.func18 (by kernel_rfl) rfl (by simp [e0, e1]) rfl ((sameInts_any [0, 0, 0] [0, 0, 0] _ _ wz (vt.out.mono hinv) h1).mono ?_)
      rintro e9 w9 ⟨rfl, q9⟩
      exact ⟨_, rfl, q9.size, rfl, q9⟩
    | 38, _ =>
      simp only [List.getElem?_toArray, List.getElem?_cons_zero, List.getElem?_cons_succ, Option.some.injEq] at hop
      subst hop
      generalize hfr : fxF _ vs fxT _ 38 = fr
      have h0 : vs 33 = .bool true := hd 33 (by decide)
      have e0 : fr.eval (.tmp 76) = .bool true := by rw [← hfr]; exact (fx_new (by simp) 38 (by kernel_rfl)).trans h0
      have h1 : vs 37 = .bool true := hd 37 (by decide)
      have e1 : fr.eval (.tmp 80) = .bool true := by rw [← hfr]; exact (fx_new (by simp) 38 (by kernel_rfl)).trans h1
      clear hfr
      have ec : ∀ v, fr.eval (.const v) = v := fun _ => rfl
      refine fx_val (v := .bool true) (w' := wz) rfl ?_ ⟨Nat.le_refl _, rfl, Below.refl _ _⟩
      skip
      unfold execOp
      generalize fr.eval = ev at ec e0 e1 ⊢
      simp [go_sem, ec, e0, e1]
    | 39, _ =>
      simp only [List.getElem?_toArray, List.getElem?_cons_zero, List.getElem?_cons_succ, Option.some.injEq] at hop
      subst hop
      generalize hfr : fxF _ vs fxT _ 39 = fr
      have h0 : vs 38 = .bool true := hd 38 (by decide)
      have e0 : fr.eval (.tmp 81) = .bool true := by rw [← hfr]; exact (fx_new (by simp) 39 (by kernel_rfl)).trans h0
      clear hfr
      have ec : ∀ v, fr.eval (.const v) = v := fun _ => rfl
      refine fx_val (v := .bool true) (w' := wz) rfl ?_ ⟨Nat.le_refl _, rfl, Below.refl _ _⟩
      skip
      unfold execOp
      generalize fr.eval = ev at ec e0 ⊢
      simp [go_sem, ec, e0]
    | 40, _ =>
      simp only [List.getElem?_toArray, List.getElem?_cons_zero, List.getElem?_cons_succ, Option.some.injEq] at hop
      subst hop
      generalize hfr : fxF _ vs fxT _ 40 = fr
      have e0 : fr.eval (.tmp 9) = .bool true := by rw [← hfr]; exact fx_old 40 (by kernel_rfl)
      have hg : vs 39 = .bool true := hd 39 (by decide)
      have eg : fr.eval (.tmp 82) = .bool true := by rw [← hfr]; exact (fx_new (by simp) 40 (by kernel_rfl)).trans hg
      clear hfr
      have ec : ∀ v, fr.eval (.const v) = v := fun _ => rfl
      refine fx_val (v := .bool true) (w' := wz) (fx_wantedK (k := 39) (t := 82) (b := true) rfl (by kernel_rfl) eg) ?_ ⟨Nat.le_refl _, rfl, Below.refl _ _⟩
      clear eg
      unfold execOp
      generalize fr.eval = ev at ec e0 ⊢
      simp [go_sem, ec, e0]
    | 41, _ =>
      simp only [List.getElem?_toArray, List.getElem?_cons_zero, List.getElem?_cons_succ, Option.some.injEq] at hop
      subst hop
      generalize hfr : fxF _ vs fxT _ 41 = fr
      have h0 : vs 39 = .bool true := hd 39 (by decide)
      have e0 : fr.eval (.tmp 82) = .bool true := by rw [← hfr]; exact (fx_new (by simp) 41 (by kernel_rfl)).trans h0
      have h1 : vs 40 = .bool true := hd 40 (by decide)
      have e1 : fr.eval (.tmp 83) = .bool true := by rw [← hfr]; exact (fx_new (by simp) 41 (by kernel_rfl)).trans h1
      clear hfr
      have ec : ∀ v, fr.eval (.const v) = v := fun _ => rfl
      refine fx_val (v := .bool true) (w' := wz) rfl ?_ ⟨Nat.le_refl _, rfl, Below.refl _ _⟩
      skip
      unfold execOp
      generalize fr.eval = ev at ec e0 e1 ⊢
      simp [go_sem, ec, e0, e1]
    | 42, _ =>
      simp only [List.getElem?_toArray, List.getElem?_cons_zero, List.getElem?_cons_succ, Option.some.injEq] at hop
      subst hop
      generalize hfr : fxF _ vs fxT _ 42 = fr
      have h0 : vs 41 = .bool true := hd 41 (by decide)
      have e0 : fr.eval (.tmp 84) = .bool true := by rw [← hfr]; exact (fx_new (by simp) 42 (by kernel_rfl)).trans h0
      clear hfr
      have ec : ∀ v, fr.eval (.const v) = v := fun _ => rfl
      refine fx_val (v := .bool true) (w' := wz) rfl ?_ ⟨Nat.le_refl _, rfl, Below.refl _ _⟩
      skip
      unfold execOp
      generalize fr.eval = ev at ec e0 ⊢
      simp [go_sem, ec, e0]
    | 43, _ =>
      simp only [List.getElem?_toArray, List.getElem?_cons_zero, List.getElem?_cons_succ, Option.some.injEq] at hop
      subst hop
      generalize hfr : fxF _ vs fxT _ 43 = fr
      have e0 : fr.eval (.tmp 11) = .bool false := by rw [← hfr]; exact fx_old 43 (by kernel_rfl)
      have hg : vs 42 = .bool true := hd 42 (by decide)
      have eg : fr.eval (.tmp 85) = .bool true := by rw [← hfr]; exact (fx_new (by simp) 43 (by kernel_rfl)).trans hg
      clear hfr
      have ec : ∀ v, fr.eval (.const v) = v := fun _ => rfl
      refine fx_val (v := .bool false) (w' := wz) (fx_wantedK (k := 42) (t := 85) (b := true) rfl (by kernel_rfl) eg) ?_ ⟨Nat.le_refl _, rfl, Below.refl _ _⟩
      clear eg
      unfold execOp
      generalize fr.eval = ev at ec e0 ⊢
      simp [go_sem, ec, e0]
    | 44, _ =>
      simp only [List.getElem?_toArray, List.getElem?_cons_zero, List.getElem?_cons_succ, Option.some.injEq] at hop
      subst hop
      generalize hfr : fxF _ vs fxT _ 44 = fr
      have h0 : vs 43 = .bool false := hd 43 (by decide)
      have e0 : fr.eval (.tmp 86) = .bool false := by rw [← hfr]; exact (fx_new (by simp) 44 (by kernel_rfl)).trans h0
      have hg : vs 42 = .bool true := hd 42 (by decide)
      have eg : fr.eval (.tmp 85) = .bool true := by rw [← hfr]; exact (fx_new (by simp) 44 (by kernel_rfl)).trans hg
      clear hfr
      have ec : ∀ v, fr.eval (.const v) = v := fun _ => rfl
      refine fx_val (v := .bool true) (w' := wz) (fx_wantedK (k := 42) (t := 85) (b := true) rfl (by kernel_rfl) eg) ?_ ⟨Nat.le_refl _, rfl, Below.refl _ _⟩
      clear eg
      unfold execOp
      generalize fr.eval = ev at ec e0 ⊢
      simp [go_sem, ec, e0]
    | 45, _ =>
      simp only [List.getElem?_toArray, List.getElem?_cons_zero, List.getElem?_cons_succ, Option.some.injEq] at hop
      subst hop
      generalize hfr : fxF _ vs fxT _ 45 = fr
      have h0 : vs 42 = .bool true := hd 42 (by decide)
      have e0 : fr.eval (.tmp 85) = .bool true := by rw [← hfr]; exact (fx_new (by simp) 45 (by kernel_rfl)).trans h0
      have h1 : vs 44 = .bool true := hd 44 (by decide)
      have e1 : fr.eval (.tmp 87) = .bool true := by rw [← hfr]; exact (fx_new (by simp) 45 (by kernel_rfl)).trans h1
      clear hfr
      have ec : ∀ v, fr.eval (.const v) = v := fun _ => rfl
      refine fx_val (v := .bool true) (w' := wz) rfl ?_ ⟨Nat.le_refl _, rfl, Below.refl _ _⟩
      skip
      unfold execOp
      generalize fr.eval = ev at ec e0 e1 ⊢
      simp [go_sem, ec, e0, e1]
    | j + 46, hj => exact absurd hj (by omega)
  case hdone =>
    intro vs iv w8 hinv _ hf
    have h45 : vs 45 = .bool true := hf 45 (by decide) (by decide)
    have hE := Lib.hid (hX7.out.trans (hinv.mono hX7.out.size))
    simp only [fxF, fxT, if_true, List.drop_succ_cons, List.drop_zero, List.getElem?_toArray, List.getElem?_cons_zero, List.getElem?_cons_succ, Option.bind_some, Option.bind_none]
    rw [h45]
    clear hf h45 hinv hX7 hX v1 v2 v3 vt w6
    generalize vs 0 = z0 at *
    generalize vs 1 = z1 at *
    generalize vs 2 = z2 at *
    generalize vs 3 = z3 at *
    generalize vs 4 = z4 at *
    generalize vs 5 = z5 at *
    generalize vs 6 = z6 at *
    generalize vs 7 = z7 at *
    generalize vs 8 = z8 at *
    generalize vs 9 = z9 at *
    generalize vs 10 = z10 at *
    generalize vs 11 = z11 at *
    generalize vs 12 = z12 at *
    generalize vs 13 = z13 at *
    generalize vs 14 = z14 at *
    generalize vs 15 = z15 at *
    generalize vs 16 = z16 at *
    generalize vs 17 = z17 at *
    generalize vs 18 = z18 at *
    generalize vs 19 = z19 at *
    generalize vs 20 = z20 at *
    generalize vs 21 = z21 at *
    generalize vs 22 = z22 at *
    generalize vs 23 = z23 at *
    generalize vs 24 = z24 at *
    generalize vs 25 = z25 at *
    generalize vs 26 = z26 at *
    generalize vs 27 = z27 at *
    generalize vs 28 = z28 at *
    generalize vs 29 = z29 at *
    generalize vs 30 = z30 at *
    generalize vs 31 = z31 at *
    generalize vs 32 = z32 at *
    generalize vs 33 = z33 at *
    generalize vs 34 = z34 at *
    generalize vs 35 = z35 at *
    generalize vs 36 = z36 at *
    generalize vs 37 = z37 at *
    generalize vs 38 = z38 at *
    generalize vs 39 = z39 at *
    generalize vs 40 = z40 at *
    generalize vs 41 = z41 at *
    generalize vs 42 = z42 at *
    generalize vs 43 = z43 at *
    generalize vs 44 = z44 at *
    go_wp2
    go_ret
    exact ⟨rfl, hE.out⟩
end Go.Proofs.Ytdebeimognikiaa.con
namespace Go.Proofs.Ytdebeimognikiaa.con
open Go.RowKit Go.Ytdebeimognikiaa
set_option linter.unusedVariables false
def RT (n : Nat) (N A : List Int) (v : Value) (x : World) : Prop := ∃ xa xc ya yc, v = .agg (tkC (.slice xa n xc) (.slice ya n yc)) ∧ RdN x (.slice xa n xc) N ∧ RdN x (.slice ya n yc) A
def RD (D : List Int) (v : Value) (x : World) : Prop := ∃ da dc, v = .slice da D.length dc ∧ RdN x (.slice da D.length dc) D
def R4 (n : Nat) (N A D : List Int) (v : Value) (x : World) : Prop := ∃ tv dv, v = .tuple #[tv, dv, .int .i64 0] ∧ RT n N A tv x ∧ RD D dv x
theorem r4_of {lo n : Nat} {N A D : List Int} {w : World} {xv yv dv : Value} (hn : N.length = n) (hm : A.length = n) (h1 : NewN lo w xv N) (h2 : NewN lo w yv A) (h3 : NewN lo w dv D) : Fast lo w.heap.size (R4 n N A D (.tuple #[.agg (tkC xv yv), dv, .int .i64 0])) w := fun wx hx => by
  have a := h1 wx hx
  have b := h2 wx hx
  have c := h3 wx hx
  obtain ⟨xa, xc, e1⟩ := a.slice
  obtain ⟨ya, yc, e2⟩ := b.slice
  obtain ⟨da, dc, e3⟩ := c.slice
  subst e1 e2 e3
  rw [hn] at a ⊢
  rw [hm] at b ⊢
  exact ⟨_, _, rfl, ⟨_, _, _, _, rfl, a, b⟩, ⟨_, _, rfl, c⟩⟩
theorem r4_parts {lo hi n : Nat} {N A D : List Int} {w : World} {v tv dv : Value} (h : Fast lo hi (R4 n N A D v) w) (e : v = .tuple #[tv, dv, .int .i64 0]) : Fast lo hi (RT n N A tv) w ∧ Fast lo hi (RD D dv) w := by
  refine ⟨fun wx hx => ?_, fun wx hx => ?_⟩ <;>
  · obtain ⟨tv', dv', e', h1, h2⟩ := h wx hx
    rw [e] at e'
    injection e' with e'
    have a := congrArg (fun q : Array Value => q[0]?) e'
    have b := congrArg (fun q : Array Value => q[1]?) e'
    simp at a b
    subst a b
    first | exact h1 | exact h2
theorem fx_headN {P : Program} {ops : Array Oper} {o : Oper} {a : Act} {w : World} {R : Value → World → Prop} (hg : o.guard = none) (t : TypeId) (x z : Operand) (ho : o.op = .slice t x none (some z) none)
    (ht : P.underlying t = some (.slice (P.elem t))) (hs : (P.info? (P.elem t)).map (·.size) = some 1) (b : Option Addr) (n c : Nat) (hx : a.eval x = .slice b n c) (hi : Nat) (hz : a.eval z = .int .i64 (hi : Int)) (h2 : hi ≤ c) (v : Value) (hv : sliced b 0 hi c 1 = v) (hR : R v w) : FxStep P ops o a w R :=
  fx_val (v := v) (w' := w) (by simp [Region.wanted, hg]) (by
    have hl := run_slice_h (P := P) (w := w) t b n c ht .i64 (hi : Int) (by omega) (by omega)
    rw [sizeOf_one hs] at hl
    simp only [Result.andThen_ok, Int.toNat_natCast] at hl
    rw [hv] at hl
    unfold execOp
    simp only [ho, hx, Option.map_some, Option.map_none, hz]
    simp only [Sem.run_bind, run_sliceAt_slice (P := P) (w := w) t _ _ _ _ ht, hl, Sem.run_pure, Result.andThen_ok]) hR
theorem fx_tailN {P : Program} {ops : Array Oper} {o : Oper} {a : Act} {w : World} {R : Value → World → Prop} (hg : o.guard = none) (t : TypeId) (x y : Operand) (ho : o.op = .slice t x (some y) none none)
    (ht : P.underlying t = some (.slice (P.elem t))) (hs : (P.info? (P.elem t)).map (·.size) = some 1) (b : Option Addr) (n c : Nat) (hx : a.eval x = .slice b n c) (lo : Nat) (hy : a.eval y = .int .i64 (lo : Int)) (h1 : lo ≤ n) (v : Value) (hv : sliced b lo n c 1 = v) (hR : R v w) : FxStep P ops o a w R :=
  fx_val (v := v) (w' := w) (by simp [Region.wanted, hg]) (by
    have hl := run_slice_l (P := P) (w := w) t b n c ht .i64 (lo : Int) (by omega) (by omega)
    rw [sizeOf_one hs] at hl
    simp only [Result.andThen_ok, Int.toNat_natCast] at hl
    rw [hv] at hl
    unfold execOp
    simp only [ho, hx, Option.map_some, Option.map_none, hy]
    simp only [Sem.run_bind, run_sliceAt_slice (P := P) (w := w) t _ _ _ _ ht, hl, Sem.run_pure, Result.andThen_ok]) hR
theorem rdN_cap {w : World} {b : Option Addr} {n c : Nat} {l : List Int} (h : RdN w (.slice b n c) l) : n ≤ c := by
  rcases h with ⟨_, _, hv, _, _⟩ | ⟨_, _, _, hv, h4, _⟩
  · injection hv with _ e _; omega
  · injection hv with _ e2 e3; omega
theorem okP_take {L A Q : List Int} (h : OkP L A Q) (s : Nat) : OkP L A (Q.take s) :=
  ⟨h.t, by have := h.many; simp; omega, fun i hi => by
    have h2 : i < s ∧ i < Q.length := by rw [List.length_take] at hi; omega
    rw [ith_take _ _ _ h2.1]; exact h.el i h2.2⟩
theorem okP_drop {L A Q : List Int} (h : OkP L A Q) (s : Nat) : OkP (runN L A Q s) A (Q.drop s) :=
  ⟨runN_ok h.t s, by have := h.many; simp; omega, fun i hi => by
    have h2 : s + i < Q.length := by rw [List.length_drop] at hi; omega
    rw [ith_drop, runN_length]; exact h.el (s + i) h2⟩
/-- What a run of the first picks answers, and one of those behind them. -/
theorem run_head {L A Q : List Int} (h : OkP L A Q) {s : Nat} (hs : s ≤ Q.length) : pckE L A (Q.take s) = 0 ∧ runR L A (Q.take s) = runN L A Q s ∧ runA L A (Q.take s) = A ∧ runS L A (Q.take s) = didN L A Q s := by
  have h0 := pckE_of (okP_take h s)
  obtain ⟨a, b, c⟩ := run_ok h0
  have hl : (Q.take s).length = s := by simp; omega
  rw [hl] at a c
  exact ⟨h0, a.trans (run_take L A Q s s (Nat.le_refl _)), b, c.trans (did_take L A Q s s (Nat.le_refl _))⟩
theorem run_tail {L A Q : List Int} (h : OkP L A Q) {s : Nat} (hs : s ≤ Q.length) : pckE (runN L A Q s) A (Q.drop s) = 0 ∧ runR (runN L A Q s) A (Q.drop s) = runN L A Q Q.length ∧ runA (runN L A Q s) A (Q.drop s) = A ∧ runS (runN L A Q s) A (Q.drop s) = didN (runN L A Q s) A (Q.drop s) (Q.length - s) := by
  have h0 := pckE_of (okP_drop h s)
  obtain ⟨a, b, c⟩ := run_ok h0
  have hl : (Q.drop s).length = Q.length - s := by simp
  rw [hl] at a c
  rw [run_drop, show s + (Q.length - s) = Q.length by omega] at a
  exact ⟨h0, a, b, c⟩
end Go.Proofs.Ytdebeimognikiaa.con
namespace Go.Proofs.Ytdebeimognikiaa.con
open Go.RowKit Go.Ytdebeimognikiaa
set_option linter.unusedVariables false
theorem allN_mem {L A : List Int} {x : Int} : ∀ {n : Nat}, x ∈ allN L A n ↔ ∃ k, k < n ∧ x = (k : Int) ∧ can L A k = true := by
  intro n
  induction n with
  | zero => exact ⟨(fun h => by cases h), (fun ⟨k, h, _⟩ => absurd h (Nat.not_lt_zero _))⟩
  | succ n ih =>
    unfold allN
    split
    · rename_i hc
      rw [List.mem_append, ih, List.mem_singleton]
      constructor
      · rintro (⟨k, h1, h2, h3⟩ | h)
        · exact ⟨k, by omega, h2, h3⟩
        · exact ⟨n, by omega, h, hc⟩
      · rintro ⟨k, h1, h2, h3⟩
        rcases Nat.lt_or_ge k n with g | g
        · exact .inl ⟨k, g, h2, h3⟩
        · obtain rfl : k = n := by omega
          exact .inr h2
    · rename_i hc
      rw [ih]
      constructor
      · rintro ⟨k, h1, h2, h3⟩; exact ⟨k, by omega, h2, h3⟩
      · rintro ⟨k, h1, h2, h3⟩
        rcases Nat.lt_or_ge k n with g | g
        · exact ⟨k, g, h2, h3⟩
        · obtain rfl : k = n := by omega
          exact absurd h3 hc
end Go.Proofs.Ytdebeimognikiaa.con

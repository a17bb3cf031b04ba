/- Texts that the row stands on, part 3. -/
import Derived.Test.YtdebeimognikiaaRPartsCq02
import Derived.OpenShut
import Derived.OpenVars
import Derived.ChangeSlices
import Derived.Lib.SmallJoins
import Derived.ChangeMaps5
namespace Go.Proofs.Ytdebeimognikiaa.con
open Go.RowKit Go.Ytdebeimognikiaa
set_option linter.unusedVariables false
def pa5A : List (List Nat) := [[], [], [], [1, 2], [0, 1, 2, 3], [0, 1, 2, 3, 4], [0, 1, 2, 3, 4, 5], [0, 1, 2, 3, 4, 5], [0, 1, 2, 3, 4, 5], [], [0, 1, 2, 3, 4, 5, 6, 9], [0, 1, 2, 3, 4, 5, 6, 7, 9, 10], [0, 1, 2, 3, 4, 5, 6, 7, 8, 9, 10, 11]]
def pa5U : List (List Nat) := [[], [], [], [1, 2], [0, 3], [4], [5], [5], [5], [], [6, 9], [7]]
def pa5S : Nat → Option Nat
  | 10 => some 9
  | _ => none
def pa5K (B n : Nat) (N A D : List Int) (e0 e1 e2 e3 : Value) : Nat → FQ
  | 0 => .eq e0
  | 1 => .eq e1
  | 2 => .eq e2
  | 3 => .eq e3
  | 4 => .fast 4 (R4 n N A D)
  | 5 => .fast 4 (R4 n N A D)
  | 6 => .fast 4 (RT n N A)
  | 7 => .fast 4 (RD D)
  | 8 => .eq (.int .i64 0)
  | 9 => .blk B (tkC nilN nilN) 24
  | 10 => .put 9 4 24 (fun cs => RT n N A (.agg cs))
  | _ => .fast 4 (RD D)
def pa6A : List (List Nat) := [[], [], [], [1, 2], [0, 1, 2, 3], [0, 1, 2, 3, 4], [0, 1, 2, 3, 4, 5], [0, 1, 2, 3, 4, 5], [0, 1, 2, 3, 4, 5], [], [0, 1, 2, 3, 4, 5, 6, 9], [0, 1, 2, 3, 4, 5, 6, 7, 9, 10], [0, 1, 2, 3, 4, 5, 6, 7, 8, 9, 10, 11]]
def pa6U : List (List Nat) := [[], [], [], [1, 2], [0, 3], [4], [5], [5], [5], [], [6, 9], [7]]
def pa6S : Nat → Option Nat
  | 10 => some 9
  | _ => none
def pa6K (B n : Nat) (N A D : List Int) (e0 e1 e2 e3 : Value) : Nat → FQ
  | 0 => .eq e0
  | 1 => .eq e1
  | 2 => .eq e2
  | 3 => .eq e3
  | 4 => .fast 4 (R4 n N A D)
  | 5 => .fast 4 (R4 n N A D)
  | 6 => .fast 4 (RT n N A)
  | 7 => .fast 4 (RD D)
  | 8 => .eq (.int .i64 0)
  | 9 => .blk B (tkC nilN nilN) 24
  | 10 => .put 9 4 24 (fun cs => RT n N A (.agg cs))
  | _ => .fast 4 (RD D)
theorem qa_lss {P : Program} {C : World → Prop} {o : Oper} {a : Act} (t t2 : TypeId) (x y : Operand) (k : IntKind) (m n : Int) (b : Bool) (ho : o.op = .binOp .lss t x y t2) (ht : P.underlying t = some (.int k)) (hx : a.eval x = .int k m) (hy : a.eval y = .int k n) (h : decide (m < n) = b) : ∀ w, C w → o.quietAt P a C w (.bool b) := by
  intro w _
  refine qa_ok ?_
  subst h
  unfold execOp
  generalize a.eval = ev at *
  simp only [ho]
  simp [go_sem, hx, hy, ht]
theorem qa_geq {P : Program} {C : World → Prop} {o : Oper} {a : Act} (t t2 : TypeId) (x y : Operand) (k : IntKind) (m n : Int) (b : Bool) (ho : o.op = .binOp .geq t x y t2) (ht : P.underlying t = some (.int k)) (hx : a.eval x = .int k m) (hy : a.eval y = .int k n) (h : decide (n ≤ m) = b) : ∀ w, C w → o.quietAt P a C w (.bool b) := by
  intro w _
  refine qa_ok ?_
  subst h
  unfold execOp
  generalize a.eval = ev at *
  simp only [ho]
  simp [go_sem, hx, hy, ht]
theorem allN_pos {L A : List Int} (h : OkT L A) : (0 < (allN L A L.length).length) ↔ 0 < sumI L L.length := by
  constructor
  · intro hp
    obtain ⟨x, hx⟩ := List.exists_mem_of_length_pos hp
    obtain ⟨k, hk, _, hc⟩ := allN_mem.1 hx
    exact sum_pos h hk hc
  · intro hs
    rcases Nat.eq_zero_or_pos (allN L A L.length).length with h0 | h0
    · exfalso
      have hz := sum_zero h (fun i hi => by
        cases e : can L A i with
        | false => rfl
        | true =>
          have := allN_mem.2 ⟨i, hi, rfl, e⟩
          rw [List.eq_nil_of_length_eq_zero h0] at this; cases this)
      rw [sum_all_zero hz L.length (Nat.le_refl _)] at hs
      omega
    · exact h0
theorem run_sum {L A P : List Int} (h : OkP L A P) : ∀ k, k ≤ P.length → sumI (runN L A P k) L.length = sumI L L.length - ((didN L A P k).length : Int) := by
  intro k
  induction k with
  | zero => intro _; simp [runN, didN]
  | succ k ih =>
    intro hk
    have h1 := ih (by omega)
    have he := h.el k (by omega)
    have hp : pk P k < (runN L A P k).length := by unfold pk; rw [runN_length]; omega
    have h2 := sum_step (A := A) hp
    rw [runN_length] at h2
    rw [runN, didN, h2, h1]
    split <;> simp <;> omega
theorem did_at {L A Q : List Int} {s k : Nat} (hs : s ≤ Q.length) (hk : k < (didN L A Q Q.length).length) : (didN L A Q s).length + (didN (runN L A Q s) A (Q.drop s) (Q.length - s)).length = (didN L A Q Q.length).length ∧
    ith (didN L A Q Q.length) k = if k < (didN L A Q s).length then ith (didN L A Q s) k else ith (didN (runN L A Q s) A (Q.drop s) (Q.length - s)) (k - (didN L A Q s).length) + (s : Int) := by
  have h := did_drop L A Q s (Q.length - s)
  rw [show s + (Q.length - s) = Q.length by omega] at h
  have hl : (didN L A Q s).length + (didN (runN L A Q s) A (Q.drop s) (Q.length - s)).length = (didN L A Q Q.length).length := by rw [h, List.length_append, List.length_map]
  refine ⟨hl, ?_⟩
  rw [h, ith_append]
  split
  · rfl
  · rename_i g
    have : k - (didN L A Q s).length < (didN (runN L A Q s) A (Q.drop s) (Q.length - s)).length := by omega
    simp [ith, this]
theorem did_len {L A Q : List Int} {s : Nat} (hs : s ≤ Q.length) : (didN L A Q s).length + (didN (runN L A Q s) A (Q.drop s) (Q.length - s)).length = (didN L A Q Q.length).length := by
  have h := did_drop L A Q s (Q.length - s)
  rw [show s + (Q.length - s) = Q.length by omega] at h
  rw [h, List.length_append, List.length_map]
theorem did_bound (L A P : List Int) : ∀ n k, k < (didN L A P n).length → 0 ≤ ith (didN L A P n) k ∧ ith (didN L A P n) k ≤ (n : Int) := by
  intro n
  induction n with
  | zero => intro k hk; simp [didN] at hk
  | succ n ih =>
    intro k hk
    rw [didN] at hk ⊢
    split
    · rename_i g
      rw [if_pos g, List.length_append, List.length_singleton] at hk
      rw [ith_append]
      split
      · rename_i g2; have := ih k g2; omega
      · rename_i g2
        rw [ith_single, if_pos (by omega)]; omega
    · rename_i g
      rw [if_neg g] at hk
      have := ih k hk; omega
set_option maxHeartbeats 4000000 in
set_option maxRecDepth 100000 in
theorem schedParts_law (L A Q : List Int) (lv av pv : Value) (s : Int) (w : World) (hL : RdN w lv L) (hA : RdN w av A) (hQ : RdN w pv Q) :
    Calls Try.prog 8 #[.agg (tkC lv av), pv, .int .i64 s] w fun e w' => e = .returned (.bool true) ∧ Below w.heap.size w w' := by
  have f1 := hQ.fit
  obtain ⟨pa, pc, rfl⟩ := hQ.slice
  obtain ⟨la, lc, rfl⟩ := hL.slice
  obtain ⟨m, hm⟩ : ∃ m, Q.length = m := ⟨_, rfl⟩
  obtain ⟨n, hn⟩ : ∃ n, L.length = n := ⟨_, rfl⟩
  have hm' := Lib.hid hm; have hn' := Lib.hid hn
  rw [hm] at hQ f1 ⊢
  rw [hn] at hL ⊢
  obtain ⟨W, hW⟩ : ∃ W, W = w.alloc (.cells (tkC (.slice la n lc) av) 24) := ⟨_, rfl⟩
  have hS := Lib.hid (show Below w.heap.size w W by rw [hW]; exact below_a _ _)
  have r0 := Lib.hid (show W.heap[w.heap.size]? = some (.cells (tkC (.slice la n lc) av) 24 (0, 0)) by rw [hW]; exact heap_alloc_new w _)
  have hsz := Lib.hid (show W.heap.size = w.heap.size + 1 by rw [hW]; simp)
  have hX := Lib.hid (Below.refl W.heap.size W)
  have hrow := Lib.hid (fun (wz : World) (h : Below W.heap.size W wz) => rowB r0.out h (Array.getElem?_eq_some_iff.1 r0.out).1)
  have kL := Lib.hid (fun (wz : World) (h : Below W.heap.size W wz) => hL.mono (hS.out.trans (h.mono hS.out.size)))
  have kA := Lib.hid (fun (wz : World) (h : Below W.heap.size W wz) => hA.mono (hS.out.trans (h.mono hS.out.size)))
  have kQ := Lib.hid (fun (wz : World) (h : Below W.heap.size W wz) => hQ.mono (hS.out.trans (h.mono hS.out.size)))
  have cF := Lib.hid (fun wz h => fit_any L A (.slice la n lc) av wz (kL.out wz h) (kA.out wz h))
  have cP := Lib.hid (fun wz h => rPicks_any L A Q (.slice la n lc) av (.slice pa m pc) wz (kL.out wz h) (kA.out wz h) (kQ.out wz h))
  have c1 := Lib.hid (fun wz h => sRun_any L A Q (.slice la n lc) av (.slice pa m pc) wz (kL.out wz h) (kA.out wz h) (kQ.out wz h))
  have cS0 := Lib.hid (fun wz h (hO : OkT L A) => sum_any L (.slice la n lc) wz (kL.out wz h) (by have := hO.hi; omega) (fun i hi => (hO.el i hi).1))
  have hcap := Lib.hid (rdN_cap hQ)
  clear hL hA hQ hm hn
  cases hB : okT L A with
  | false =>
    rw [hB] at cF
    go_enter Try.func8, Try.ntmps8
    go_upto_region 1 with fail
    rw [← hW]
    clear hW
    go_wp2_with (first
        | (refine wpList_load_row_g rfl 24 _ rfl w.heap.size rfl 24 (tkC (.slice la n lc) av) (0, 0) _ (hrow.out _ hX.out) Try.underlying24 rfl info_tk ?_)
        | (go_at_call 28; (with_reducible refine (alive13_any _).mono ?_); rintro e9 w9 ⟨rfl, q9⟩; replace hX := Lib.hid (hX.out.trans (Below.mono q9 hX.out.size)); clear q9)
        | (go_at_call 29; (with_reducible refine (cF.out _ hX.out).mono ?_); rintro e9 w9 ⟨rfl, q9⟩; replace hX := Lib.hid (hX.out.trans (Below.mono q9 hX.out.size)); clear q9)
        | (go_at_call 30; (with_reducible refine (cP.out _ hX.out).mono ?_); rintro e9 w9 ⟨rfl, q9⟩; replace hX := Lib.hid (hX.out.trans (Below.mono q9 hX.out.size)); clear q9))
    go_ret
    exact ⟨rfl, hS.out.trans (hX.out.mono hS.out.size)⟩
  | true =>
  rw [hB] at cF
  by_cases h0 : pckE L A Q = 0
  case neg =>
    generalize pckE L A Q = E at *
    go_enter Try.func8, Try.ntmps8
    go_upto_region 1 with fail
    rw [← hW]
    clear hW
    go_wp2_with (first
        | (refine wpList_load_row_g rfl 24 _ rfl w.heap.size rfl 24 (tkC (.slice la n lc) av) (0, 0) _ (hrow.out _ hX.out) Try.underlying24 rfl info_tk ?_)
        | (go_at_call 28; (with_reducible refine (alive13_any _).mono ?_); rintro e9 w9 ⟨rfl, q9⟩; replace hX := Lib.hid (hX.out.trans (Below.mono q9 hX.out.size)); clear q9)
        | (go_at_call 29; (with_reducible refine (cF.out _ hX.out).mono ?_); rintro e9 w9 ⟨rfl, q9⟩; replace hX := Lib.hid (hX.out.trans (Below.mono q9 hX.out.size)); clear q9)
        | (go_at_call 30; (with_reducible refine (cP.out _ hX.out).mono ?_); rintro e9 w9 ⟨rfl, q9⟩; replace hX := Lib.hid (hX.out.trans (Below.mono q9 hX.out.size)); clear q9))
    go_ret
    exact ⟨rfl, hS.out.trans (hX.out.mono hS.out.size)⟩
  have hO := pckE_zero h0
  rw [h0] at cP
  have n12 := hO.t.hi
  have m300 := hO.many
  rw [hn'.out] at n12
  rw [hm'.out] at m300
  have hO' := Lib.hid hO
  have cS := Lib.hid (fun wz h => cS0.out wz h hO.t)
  obtain ⟨q1, q2, q3⟩ := run_ok h0
  rw [h0, q1, q2, q3, hm'.out] at c1
  clear h0 hB hO cS0 q1 q2 q3
  by_cases a1 : s < 0
  · skip
    go_enter Try.func8, Try.ntmps8
    go_upto_region 1 with fail
    rw [← hW]
    clear hW
    go_wp2_with (first
        | (refine wpList_load_row_g rfl 24 _ rfl w.heap.size rfl 24 (tkC (.slice la n lc) av) (0, 0) _ (hrow.out _ hX.out) Try.underlying24 rfl info_tk ?_)
        | (go_at_call 28; (with_reducible refine (alive13_any _).mono ?_); rintro e9 w9 ⟨rfl, q9⟩; replace hX := Lib.hid (hX.out.trans (Below.mono q9 hX.out.size)); clear q9)
        | (go_at_call 29; (with_reducible refine (cF.out _ hX.out).mono ?_); rintro e9 w9 ⟨rfl, q9⟩; replace hX := Lib.hid (hX.out.trans (Below.mono q9 hX.out.size)); clear q9)
        | (go_at_call 30; (with_reducible refine (cP.out _ hX.out).mono ?_); rintro e9 w9 ⟨rfl, q9⟩; replace hX := Lib.hid (hX.out.trans (Below.mono q9 hX.out.size)); clear q9))
    go_ret
    exact ⟨rfl, hS.out.trans (hX.out.mono hS.out.size)⟩
  have a1d : decide (s < 0) = false := decide_eq_false a1
  by_cases a2 : (m : Int) < s
  · skip
    go_enter Try.func8, Try.ntmps8
    go_upto_region 1 with fail
    rw [← hW]
    clear hW
    go_wp2_with (first
        | (refine wpList_load_row_g rfl 24 _ rfl w.heap.size rfl 24 (tkC (.slice la n lc) av) (0, 0) _ (hrow.out _ hX.out) Try.underlying24 rfl info_tk ?_)
        | (go_at_call 28; (with_reducible refine (alive13_any _).mono ?_); rintro e9 w9 ⟨rfl, q9⟩; replace hX := Lib.hid (hX.out.trans (Below.mono q9 hX.out.size)); clear q9)
        | (go_at_call 29; (with_reducible refine (cF.out _ hX.out).mono ?_); rintro e9 w9 ⟨rfl, q9⟩; replace hX := Lib.hid (hX.out.trans (Below.mono q9 hX.out.size)); clear q9)
        | (go_at_call 30; (with_reducible refine (cP.out _ hX.out).mono ?_); rintro e9 w9 ⟨rfl, q9⟩; replace hX := Lib.hid (hX.out.trans (Below.mono q9 hX.out.size)); clear q9))
    go_ret
    exact ⟨rfl, hS.out.trans (hX.out.mono hS.out.size)⟩
  have a2d : decide ((m : Int) < s) = false := decide_eq_false a2
  obtain ⟨S, rfl⟩ : ∃ S : Nat, s = (S : Int) := ⟨s.toNat, by omega⟩
  have hmS : S ≤ m := by omega
  have hnA := Lib.hid (show A.length = n by rw [hO'.out.t.na, hn'.out])
  have hh := Lib.hid (run_head hO'.out (s := S) (by rw [hm'.out]; exact hmS))
  have ht := Lib.hid (run_tail hO'.out (s := S) (by rw [hm'.out]; exact hmS))
  have hl1 := Lib.hid (show (runN L A Q S).length = n by rw [runN_length, hn'.out])
  have hl2 := Lib.hid (show (runN L A Q m).length = n by rw [runN_length, hn'.out])
  have hok2 := Lib.hid (runN_ok hO'.out.t m (P := Q))
  have hdl := Lib.hid (did_len (L := L) (A := A) (Q := Q) (s := S) (by rw [hm'.out]; exact hmS))
  have hda := Lib.hid (fun k hk => (did_at (L := L) (A := A) (Q := Q) (s := S) (k := k) (by rw [hm'.out]; exact hmS) hk).2)
  have hdb := Lib.hid (fun k hk => did_bound (runN L A Q S) A (Q.drop S) (m - S) k hk)
  have hsum := Lib.hid (run_sum hO'.out m (by rw [hm'.out]; exact Nat.le_refl _))
  have hpos := Lib.hid (allN_pos hok2.out)
  have hs0 := sumI_le L (fun i hi => (hO'.out.t.el i hi).1) L.length (Nat.le_refl _)
  have hs2 := sumI_le (runN L A Q m) (fun i hi => (hok2.out.el i hi).1) n (by rw [hl2.out]; exact Nat.le_refl _)
  have cS2 := Lib.hid (fun v wz (h : RdN wz v (runN L A Q m)) => sum_any (runN L A Q m) v wz h (by rw [hl2.out]; omega) (fun i hi => (hok2.out.el i hi).1))
  have c4 := Lib.hid (fun lv av wz (h : RdN wz lv (runN L A Q m)) (g : RdN wz av A) => sRunnable_all (runN L A Q m) A lv av wz h g)
  have hDl := Lib.hid (didN_length L A Q m)
  rw [chkT_ok hok2.out, allR_ok hok2.out, hl2.out] at c4
  rw [hl2.out] at hpos cS2
  rw [hn'.out] at hsum hs0 cS
  rw [hm'.out] at ht hdl hda
  clear a1 a2
  generalize runN L A Q m = N2 at *
  generalize didN (runN L A Q S) A (Q.drop S) (m - S) = D2 at *
  generalize runN L A Q S = N1 at *
  generalize didN L A Q S = D1 at *
  generalize didN L A Q m = D0 at *
  generalize allN N2 A n = AN at *
  generalize sumI N2 n = Z2 at *
  generalize sumI L n = Z0 at *
  go_enter Try.func8, Try.ntmps8
  go_upto_region 1 with fail
  rw [← hW]
  clear hW
  go_upto_region 4 with (first
      | (refine wpList_load_row_g rfl 24 _ rfl w.heap.size rfl 24 (tkC (.slice la n lc) av) (0, 0) _ (hrow.out _ hX.out) Try.underlying24 rfl info_tk ?_)
      | (go_at_call 28; (with_reducible refine (alive13_any _).mono ?_); rintro e9 w9 ⟨rfl, q9⟩; replace hX := Lib.hid (hX.out.trans (Below.mono q9 hX.out.size)); clear q9)
      | (go_at_call 29; (with_reducible refine (cF.out _ hX.out).mono ?_); rintro e9 w9 ⟨rfl, q9⟩; replace hX := Lib.hid (hX.out.trans (Below.mono q9 hX.out.size)); clear q9)
      | (go_at_call 30; (with_reducible refine (cP.out _ hX.out).mono ?_); rintro e9 w9 ⟨rfl, q9⟩; replace hX := Lib.hid (hX.out.trans (Below.mono q9 hX.out.size)); clear q9))
  clear a1d a2d cF cP
  go_upto_region 5 with (first
      | (refine wpList_load_row_g rfl 24 _ rfl w.heap.size rfl 24 (tkC (.slice la n lc) av) (0, 0) _ (hrow.out _ hX.out) Try.underlying24 rfl info_tk ?_)
      | (go_at_call 19; (with_reducible refine (c1.out _ hX.out).mono ?_); rintro e9 w9 ⟨xv, yv, dv, rfl, q1, q2, q3, q9⟩; replace hX := Lib.hid (hX.out.trans (Below.mono q9 hX.out.size)); (try replace w8 := Lib.hid (rowK w8.out q9)); (try replace va := Lib.hid (va.out.mono q9)); (try replace vb := Lib.hid (vb.out.mono q9)); (try replace vd := Lib.hid (vd.out.mono q9)); have va := Lib.hid q1.rd; have vb := Lib.hid q2.rd; have vd := Lib.hid q3.rd; obtain ⟨xa, xc, rfl⟩ := q1.slice; obtain ⟨ya, yc, rfl⟩ := q2.slice; obtain ⟨da, dc, rfl⟩ := q3.slice; clear q1 q2 q3 q9)
      | (refine storeNew _ rfl 24 _ _ rfl (tkC (.slice xa _ xc) (.slice ya _ yc)) 24 rfl rfl info_tk rfl (tk_one _ _ rfl rfl) ?_; intro w5 hrx hbx; replace hX := Lib.hid (hX.out.trans (Below.mono hbx hX.out.size)); (try replace w8 := Lib.hid (rowK w8.out hbx)); (try replace va := Lib.hid (va.out.mono hbx)); (try replace vb := Lib.hid (vb.out.mono hbx)); (try replace vd := Lib.hid (vd.out.mono hbx)); have w8 := Lib.hid hrx; clear hrx hbx))
  obtain ⟨g8, hg8⟩ : ∃ g, g = w9.heap.size := ⟨_, rfl⟩
  rw [← hg8] at w8 ⊢
  clear hg8 c1
  rw [hl2.out] at w8 va
  rw [hnA.out] at w8 vb
  have rr := Lib.hid (hrow.out _ hX.out)
  have rq := Lib.hid (kQ.out _ hX.out); have rL := Lib.hid (kL.out _ hX.out); have rA := Lib.hid (kA.out _ hX.out)
  have hX6 := Lib.hid hX.out
  obtain ⟨b1, k1, hsl, hcut⟩ := slicedN rq.out hm'.out 0 S (Nat.zero_le _) hmS
  rw [Nat.sub_zero] at hsl hcut
  rw [List.drop_zero] at hcut
  have hcut' := Lib.hid hcut; have hsl' := Lib.hid hsl
  obtain ⟨b2, k2, hsm, hcuu⟩ := slicedN rq.out hm'.out S m hmS (Nat.le_refl _)
  rw [List.take_of_length_le (by rw [hm'.out]; exact Nat.le_refl _)] at hcuu
  have hcuu' := Lib.hid hcuu; have hsm' := Lib.hid hsm
  clear hcut hsl hcuu hsm
  have hS6 : S ≤ pc := Nat.le_trans hmS hcap.out
  have hR6 := Lib.hid (fun wz (h : Below w5.heap.size w5 wz) => sRun_any L A (Q.take S) (.slice la n lc) av (.slice b1 S k1) wz (rL.out.mono h) (rA.out.mono h) (hcut'.out.mono h))
  rw [hh.out.1, hh.out.2.1, hh.out.2.2.1, hh.out.2.2.2] at hR6
  refine wp_region_fq 12 pa5A pa5U [8, 10, 11] pa5S (pa5K w5.heap.size n N1 A D1 (.agg (tkC (.slice la n lc) av)) (.slice pa m pc) (.int .i64 (S : Int)) (.slice b1 S k1)) (by kernel_rfl) (by kernel_rfl) (by kernel_rfl) (by kernel_rfl) ?hstep ?hdone
  case hstep =>
    intro i op vs iv wz hi hop hinv hsp hd
    match i, hi with
    | 0, _ =>
      simp only [List.getElem?_toArray, List.getElem?_cons_zero, List.getElem?_cons_succ, Option.some.injEq] at hop
      subst hop
      generalize hfr : fxF _ vs fxT _ 0 = fr
      have e1 : fr.eval (.tmp 3) = .pointer (some ⟨w.heap.size, 0, none⟩) := by rw [← hfr]; exact fx_old 0 (by kernel_rfl)
      clear hfr
      exact fx_rowK 24 (.tmp 3) rfl rfl w.heap.size e1 (tkC (.slice la n lc) av) (run_loadVar_row _ _ 24 24 (tkC (.slice la n lc) av) (0, 0) _ (rowK rr.out hinv) Try.underlying24 rfl info_tk) ⟨Nat.le_refl _, rfl, Below.refl _ _⟩
    | 1, _ =>
      simp only [List.getElem?_toArray, List.getElem?_cons_zero, List.getElem?_cons_succ, Option.some.injEq] at hop
      subst hop
      generalize hfr : fxF _ vs fxT _ 1 = fr
      have e0 : fr.eval (.tmp 1) = .slice pa m pc := by rw [← hfr]; exact fx_old 1 (by kernel_rfl)
      clear hfr
      have ec : ∀ v, fr.eval (.const v) = v := fun _ => rfl
      refine fx_val (v := .slice pa m pc) (w' := wz) rfl ?_ ⟨Nat.le_refl _, rfl, Below.refl _ _⟩
      skip
      unfold execOp
      generalize fr.eval = ev at ec e0 ⊢
      simp [go_sem, ec, e0]
    | 2, _ =>
      simp only [List.getElem?_toArray, List.getElem?_cons_zero, List.getElem?_cons_succ, Option.some.injEq] at hop
      subst hop
      generalize hfr : fxF _ vs fxT _ 2 = fr
      have e0 : fr.eval (.tmp 2) = .int .i64 (S : Int) := by rw [← hfr]; exact fx_old 2 (by kernel_rfl)
      clear hfr
      have ec : ∀ v, fr.eval (.const v) = v := fun _ => rfl
      refine fx_val (v := .int .i64 (S : Int)) (w' := wz) rfl ?_ ⟨Nat.le_refl _, rfl, Below.refl _ _⟩
      skip
      unfold execOp
      generalize fr.eval = ev at ec e0 ⊢
      simp [go_sem, ec, e0]
    | 3, _ =>
      simp only [List.getElem?_toArray, List.getElem?_cons_zero, List.getElem?_cons_succ, Option.some.injEq] at hop
      subst hop
      generalize hfr : fxF _ vs fxT _ 3 = fr
      have h0 : vs 1 = .slice pa m pc := hd 1 (by decide)
      have e0 : fr.eval (.tmp 54) = .slice pa m pc := by rw [← hfr]; exact (fx_new (by simp) 3 (by kernel_rfl)).trans h0
      have h1 : vs 2 = .int .i64 (S : Int) := hd 2 (by decide)
      have e1 : fr.eval (.tmp 55) = .int .i64 (S : Int) := by rw [← hfr]; exact (fx_new (by simp) 3 (by kernel_rfl)).trans h1
      clear hfr
      exact fx_headN rfl 22 _ _ rfl Try.underlying22 (by kernel_rfl) _ _ _ e0 S e1 (hS6) _ hsl'.out ⟨Nat.le_refl _, rfl, Below.refl _ _⟩
    | 4, _ =>
      simp only [List.getElem?_toArray, List.getElem?_cons_zero, List.getElem?_cons_succ, Option.some.injEq] at hop
      subst hop
      generalize hfr : fxF _ vs fxT _ 4 = fr
      have h0 : vs 0 = .agg (tkC (.slice la n lc) av) := hd 0 (by decide)
      have h1 : vs 3 = .slice b1 S k1 := hd 3 (by decide)
      have e0 : fr.eval (.tmp 53) = .agg (tkC (.slice la n lc) av) := by rw [← hfr]; exact (fx_new (by simp) 4 (by kernel_rfl)).trans h0
      have e1 : fr.eval (.tmp 56) = .slice b1 S k1 := by rw [← hfr]; exact (fx_new (by simp) 4 (by kernel_rfl)).trans h1
      clear hfr
      refine fx_call #[.agg (tkC (.slice la n lc) av), .slice b1 S k1] rfl rfl Try.func19 (by kernel_rfl) rfl (by simp [e0, e1]) rfl ((hR6.out wz hinv).mono ?_)
      rintro e9 w9 ⟨xv, yv, dv, rfl, q1, q2, q3, q9⟩
      exact ⟨_, rfl, q9.size, r4_of hl1.out hnA.out q1 q2 q3, q9⟩
    | 5, _ =>
      simp only [List.getElem?_toArray, List.getElem?_cons_zero, List.getElem?_cons_succ, Option.some.injEq] at hop
      subst hop
      generalize hfr : fxF _ vs fxT _ 5 = fr
      have h0 : Fast (iv 4).1 (iv 4).2 (R4 n N1 A D1 (vs 4)) wz := hd 4 (by decide)
      have e0 : fr.eval (.tmp 57) = vs 4 := by rw [← hfr]; exact fx_new (by simp) 5 (by kernel_rfl)
      clear hfr
      refine fx_move (.tmp 57) rfl rfl ⟨Nat.le_refl _, ?_, Below.refl _ _⟩
      show Fast (iv 4).1 (iv 4).2 (R4 n N1 A D1 (fr.eval (.tmp 57))) wz
      rw [e0]; exact h0
    | 6, _ =>
      simp only [List.getElem?_toArray, List.getElem?_cons_zero, List.getElem?_cons_succ, Option.some.injEq] at hop
      subst hop
      generalize hfr : fxF _ vs fxT _ 6 = fr
      have h0 : Fast (iv 4).1 (iv 4).2 (R4 n N1 A D1 (vs 5)) wz := hd 5 (by decide)
      obtain ⟨tv, dv, e, _, _⟩ := h0.now
      have e0 : fr.eval (.tmp 52) = .tuple #[tv, dv, .int .i64 0] := by rw [← hfr]; exact (fx_new (by simp) 6 (by kernel_rfl)).trans e
      clear hfr
      have hp := r4_parts h0 e
      refine fx_val (v := tv) (w' := wz) rfl ?_ ⟨Nat.le_refl _, hp.1, Below.refl _ _⟩
      unfold execOp
      generalize fr.eval = ev at e0 ⊢
      simp [go_sem, e0]
    | 7, _ =>
      simp only [List.getElem?_toArray, List.getElem?_cons_zero, List.getElem?_cons_succ, Option.some.injEq] at hop
      subst hop
      generalize hfr : fxF _ vs fxT _ 7 = fr
      have h0 : Fast (iv 4).1 (iv 4).2 (R4 n N1 A D1 (vs 5)) wz := hd 5 (by decide)
      obtain ⟨tv, dv, e, _, _⟩ := h0.now
      have e0 : fr.eval (.tmp 52) = .tuple #[tv, dv, .int .i64 0] := by rw [← hfr]; exact (fx_new (by simp) 7 (by kernel_rfl)).trans e
      clear hfr
      have hp := r4_parts h0 e
      refine fx_val (v := dv) (w' := wz) rfl ?_ ⟨Nat.le_refl _, hp.2, Below.refl _ _⟩
      unfold execOp
      generalize fr.eval = ev at e0 ⊢
      simp [go_sem, e0]
    | 8, _ =>
      simp only [List.getElem?_toArray, List.getElem?_cons_zero, List.getElem?_cons_succ, Option.some.injEq] at hop
      subst hop
      generalize hfr : fxF _ vs fxT _ 8 = fr
      have h0 : Fast (iv 4).1 (iv 4).2 (R4 n N1 A D1 (vs 5)) wz := hd 5 (by decide)
      obtain ⟨tv, dv, e, _, _⟩ := h0.now
      have e0 : fr.eval (.tmp 52) = .tuple #[tv, dv, .int .i64 0] := by rw [← hfr]; exact (fx_new (by simp) 8 (by kernel_rfl)).trans e
      clear hfr
      have hp := r4_parts h0 e
      refine fx_val (v := .int .i64 0) (w' := wz) rfl ?_ ⟨Nat.le_refl _, rfl, Below.refl _ _⟩
      unfold execOp
      generalize fr.eval = ev at e0 ⊢
      simp [go_sem, e0]
    | 9, _ =>
      simp only [List.getElem?_toArray, List.getElem?_cons_zero, List.getElem?_cons_succ, Option.some.injEq] at hop
      subst hop
      refine fx_val (v := .pointer (some ⟨wz.heap.size, 0, none⟩)) (w' := wz.alloc (.cells (tkC nilN nilN) 24)) rfl ?_ ⟨(below_a wz _).size, ⟨wz.heap.size, rfl, Nat.le_refl _, by simp, hinv.size, heap_alloc_new wz _⟩, below_a wz _⟩
      generalize fxF _ vs fxT _ 9 = fr
      unfold execOp
      generalize fr.eval = ev
      simp [go_sem]
      try rfl
    | 10, _ =>
      simp only [List.getElem?_toArray, List.getElem?_cons_zero, List.getElem?_cons_succ, Option.some.injEq] at hop
      subst hop
      generalize hfr : fxF _ vs fxT _ 10 = fr
      obtain ⟨g, hp, q1, q2, q3, q4⟩ := hd 9 (by decide)
      have hf : Fast (iv 4).1 (iv 4).2 (RT n N1 A (vs 6)) wz := hd 6 (by decide)
      obtain ⟨xa, xc, ya, yc, e, _, _⟩ := hf.now
      have e1 : fr.eval (.tmp 11) = .pointer (some ⟨g, 0, none⟩) := by rw [← hfr]; exact (fx_new (by simp) 10 (by kernel_rfl)).trans hp
      have e2 : fr.eval (.tmp 58) = .agg (tkC (.slice xa n xc) (.slice ya n yc)) := by rw [← hfr]; exact (fx_new (by simp) 10 (by kernel_rfl)).trans e
      clear hfr
      rw [e] at hf
      have hb := but_setRow wz g (tkC (.slice xa n xc) (.slice ya n yc))
      refine fxu_store 24 (.tmp 11) (.tmp 58) rfl rfl g (tkC (.slice xa n xc) (.slice ya n yc)) e1 e2 24 _ q4 info_tk rfl (tk_one _ _ rfl rfl) ⟨hb.size, ⟨g, _, hp, q1, q2, setRow_heap _ _ _ _ _ _ q4, ?_⟩, ⟨g, q3, q1, q2, hb⟩⟩
      exact hf.keep (like_grown hb (hsp.1 4 (show 4 ∈ pa5A.getD 10 [] by decide)).2 (by have := hsp.2 9 4 (show 9 ∈ pa5A.getD 10 [] by decide) (show 4 ∈ pa5A.getD 10 [] by decide) (by decide); omega))
    | 11, _ =>
      simp only [List.getElem?_toArray, List.getElem?_cons_zero, List.getElem?_cons_succ, Option.some.injEq] at hop
      subst hop
      generalize hfr : fxF _ vs fxT _ 11 = fr
      have h0 : Fast (iv 4).1 (iv 4).2 (RD D1 (vs 7)) wz := hd 7 (by decide)
      have e0 : fr.eval (.tmp 59) = vs 7 := by rw [← hfr]; exact fx_new (by simp) 11 (by kernel_rfl)
      clear hfr
      refine fxu_assign (.tmp 59) rfl rfl ⟨Nat.le_refl _, ?_, Below.refl _ _⟩
      show Fast (iv 4).1 (iv 4).2 (RD D1 (fr.eval (.tmp 59))) wz
      rw [e0]; exact h0
    | j + 12, hj => exact absurd hj (by omega)
  case hdone =>
    intro vs iv w6 hinv _ hf
    have hE : vs 8 = .int .i64 0 := hf 8 (by decide) (by decide)
    obtain ⟨g11, cs, hp, _, _, hr, hfr⟩ : ∃ g cs, vs 9 = .pointer (some ⟨g, 0, none⟩) ∧ (iv 9).1 ≤ g ∧ g < (iv 9).2 ∧ w6.heap[g]? = some (.cells cs 24 (0, 0)) ∧ Fast (iv 4).1 (iv 4).2 (RT n N1 A (.agg cs)) w6 := hf 10 (by decide) (by decide)
    have hfd : Fast (iv 4).1 (iv 4).2 (RD D1 (vs 11)) w6 := hf 11 (by decide) (by decide)
    obtain ⟨xd, xe, yd, ye, ecs, rx, ry⟩ := hfr.now
    obtain ⟨dd, de, ed, rd⟩ := hfd.now
    injection ecs with ecs
    subst ecs
    have row11 := Lib.hid hr; have rx6 := Lib.hid rx; have ry6 := Lib.hid ry; have rd6 := Lib.hid rd; have hw6 := Lib.hid hinv
    simp only [fxF, fxT, if_true, List.drop_succ_cons, List.drop_zero, List.getElem?_toArray, List.getElem?_cons_zero, List.getElem?_cons_succ, Option.bind_some, Option.bind_none]
    rw [hE, hp, ed]
    clear hf hE hp hfr hfd ed hr rx ry rd hinv
    generalize vs 0 = z0 at *
    generalize vs 1 = z1 at *
    generalize vs 2 = z2 at *
    generalize vs 3 = z3 at *
    generalize vs 4 = z4 at *
    generalize vs 5 = z5 at *
    generalize vs 6 = z6 at *
    generalize vs 7 = z7 at *
    generalize vs 8 = z8 at *
    generalize vs 9 = z9 at *
    generalize vs 10 = z10 at *
    generalize vs 11 = z11 at *
    have hX6' := Lib.hid (hX6.out.trans (hw6.out.mono hX6.out.size))
    have w86 := Lib.hid (rowK w8.out hw6.out); have va6 := Lib.hid (va.out.mono hw6.out); have vb6 := Lib.hid (vb.out.mono hw6.out); have vd6 := Lib.hid (vd.out.mono hw6.out)
    have cut6 := Lib.hid (hcuu'.out.mono hw6.out)
    have hR7 := Lib.hid (fun wz (h : Below w6.heap.size w6 wz) => sRun_any N1 A (Q.drop S) (.slice xd n xe) (.slice yd n ye) (.slice b2 (m - S) k2) wz (rx6.out.mono h) (ry6.out.mono h) (cut6.out.mono h))
    rw [ht.out.1, ht.out.2.1, ht.out.2.2.1, ht.out.2.2.2] at hR7
    clear hR6 hcut' hsl' rr rL rA rq w8 va vb vd hw6 hh ht hX
    go_upto_region 6 with fail
    refine wp_region_fq 12 pa6A pa6U [8, 10, 11] pa6S (pa6K w6.heap.size n N2 A D2 (.agg (tkC (.slice xd n xe) (.slice yd n ye))) (.slice pa m pc) (.int .i64 (S : Int)) (.slice b2 (m - S) k2)) (by kernel_rfl) (by kernel_rfl) (by kernel_rfl) (by kernel_rfl) ?hstep ?hdone
    case hstep =>
      intro i op vs iv wz hi hop hinv hsp hd
      match i, hi with
      | 0, _ =>
        simp only [List.getElem?_toArray, List.getElem?_cons_zero, List.getElem?_cons_succ, Option.some.injEq] at hop
        subst hop
        generalize hfr : fxF _ vs fxT _ 0 = fr
        have e1 : fr.eval (.tmp 11) = .pointer (some ⟨g11, 0, none⟩) := by rw [← hfr]; exact fx_old 0 (by kernel_rfl)
        clear hfr
        exact fx_rowK 24 (.tmp 11) rfl rfl g11 e1 (tkC (.slice xd n xe) (.slice yd n ye)) (run_loadVar_row _ _ 24 24 (tkC (.slice xd n xe) (.slice yd n ye)) (0, 0) _ (rowK row11.out hinv) Try.underlying24 rfl info_tk) ⟨Nat.le_refl _, rfl, Below.refl _ _⟩
      | 1, _ =>
        simp only [List.getElem?_toArray, List.getElem?_cons_zero, List.getElem?_cons_succ, Option.some.injEq] at hop
        subst hop
        generalize hfr : fxF _ vs fxT _ 1 = fr
        have e0 : fr.eval (.tmp 1) = .slice pa m pc := by rw [← hfr]; exact fx_old 1 (by kernel_rfl)
        clear hfr
        have ec : ∀ v, fr.eval (.const v) = v := fun _ => rfl
        refine fx_val (v := .slice pa m pc) (w' := wz) rfl ?_ ⟨Nat.le_refl _, rfl, Below.refl _ _⟩
        skip
        unfold execOp
        generalize fr.eval = ev at ec e0 ⊢
        simp [go_sem, ec, e0]
      | 2, _ =>
        simp only [List.getElem?_toArray, List.getElem?_cons_zero, List.getElem?_cons_succ, Option.some.injEq] at hop
        subst hop
        generalize hfr : fxF _ vs fxT _ 2 = fr
        have e0 : fr.eval (.tmp 2) = .int .i64 (S : Int) := by rw [← hfr]; exact fx_old 2 (by kernel_rfl)
        clear hfr
        have ec : ∀ v, fr.eval (.const v) = v := fun _ => rfl
        refine fx_val (v := .int .i64 (S : Int)) (w' := wz) rfl ?_ ⟨Nat.le_refl _, rfl, Below.refl _ _⟩
        skip
        unfold execOp
        generalize fr.eval = ev at ec e0 ⊢
        simp [go_sem, ec, e0]
      | 3, _ =>
        simp only [List.getElem?_toArray, List.getElem?_cons_zero, List.getElem?_cons_succ, Option.some.injEq] at hop
        subst hop
        generalize hfr : fxF _ vs fxT _ 3 = fr
        have h0 : vs 1 = .slice pa m pc := hd 1 (by decide)
        have e0 : fr.eval (.tmp 63) = .slice pa m pc := by rw [← hfr]; exact (fx_new (by simp) 3 (by kernel_rfl)).trans h0
        have h1 : vs 2 = .int .i64 (S : Int) := hd 2 (by decide)
        have e1 : fr.eval (.tmp 64) = .int .i64 (S : Int) := by rw [← hfr]; exact (fx_new (by simp) 3 (by kernel_rfl)).trans h1
        clear hfr
        exact fx_tailN rfl 22 _ _ rfl Try.underlying22 (by kernel_rfl) _ _ _ e0 S e1 (hmS) _ hsm'.out ⟨Nat.le_refl _, rfl, Below.refl _ _⟩
      | 4, _ =>
        simp only [List.getElem?_toArray, List.getElem?_cons_zero, List.getElem?_cons_succ, Option.some.injEq] at hop
        subst hop
        generalize hfr : fxF _ vs fxT _ 4 = fr
        have h0 : vs 0 = .agg (tkC (.slice xd n xe) (.slice yd n ye)) := hd 0 (by decide)
        have h1 : vs 3 = .slice b2 (m - S) k2 := hd 3 (by decide)
        have e0 : fr.eval (.tmp 62) = .agg (tkC (.slice xd n xe) (.slice yd n ye)) := by rw [← hfr]; exact (fx_new (by simp) 4 (by kernel_rfl)).trans h0
        have e1 : fr.eval (.tmp 65) = .slice b2 (m - S) k2 := by rw [← hfr]; exact (fx_new (by simp) 4 (by kernel_rfl)).trans h1
        clear hfr
        refine fx_call #[.agg (tkC (.slice xd n xe) (.slice yd n ye)), .slice b2 (m - S) k2] rfl rfl Try.func19 (by kernel_rfl) rfl (by simp [e0, e1]) rfl ((hR7.out wz hinv).mono ?_)
        rintro e9 w9 ⟨xv, yv, dv, rfl, q1, q2, q3, q9⟩
        exact ⟨_, rfl, q9.size, r4_of hl2.out hnA.out q1 q2 q3, q9⟩
      | 5, _ =>
        simp only [List.getElem?_toArray, List.getElem?_cons_zero, List.getElem?_cons_succ, Option.some.injEq] at hop
        subst hop
        generalize hfr : fxF _ vs fxT _ 5 = fr
        have h0 : Fast (iv 4).1 (iv 4).2 (R4 n N2 A D2 (vs 4)) wz := hd 4 (by decide)
        have e0 : fr.eval (.tmp 66) = vs 4 := by rw [← hfr]; exact fx_new (by simp) 5 (by kernel_rfl)
        clear hfr
        refine fx_move (.tmp 66) rfl rfl ⟨Nat.le_refl _, ?_, Below.refl _ _⟩
        show Fast (iv 4).1 (iv 4).2 (R4 n N2 A D2 (fr.eval (.tmp 66))) wz
        rw [e0]; exact h0
      | 6, _ =>
        simp only [List.getElem?_toArray, List.getElem?_cons_zero, List.getElem?_cons_succ, Option.some.injEq] at hop
        subst hop
        generalize hfr : fxF _ vs fxT _ 6 = fr
        have h0 : Fast (iv 4).1 (iv 4).2 (R4 n N2 A D2 (vs 5)) wz := hd 5 (by decide)
        obtain ⟨tv, dv, e, _, _⟩ := h0.now
        have e0 : fr.eval (.tmp 61) = .tuple #[tv, dv, .int .i64 0] := by rw [← hfr]; exact (fx_new (by simp) 6 (by kernel_rfl)).trans e
        clear hfr
        have hp := r4_parts h0 e
        refine fx_val (v := tv) (w' := wz) rfl ?_ ⟨Nat.le_refl _, hp.1, Below.refl _ _⟩
        unfold execOp
        generalize fr.eval = ev at e0 ⊢
        simp [go_sem, e0]
      | 7, _ =>
        simp only [List.getElem?_toArray, List.getElem?_cons_zero, List.getElem?_cons_succ, Option.some.injEq] at hop
        subst hop
        generalize hfr : fxF _ vs fxT _ 7 = fr
        have h0 : Fast (iv 4).1 (iv 4).2 (R4 n N2 A D2 (vs 5)) wz := hd 5 (by decide)
        obtain ⟨tv, dv, e, _, _⟩ := h0.now
        have e0 : fr.eval (.tmp 61) = .tuple #[tv, dv, .int .i64 0] := by rw [← hfr]; exact (fx_new (by simp) 7 (by kernel_rfl)).trans e
        clear hfr
        have hp := r4_parts h0 e
        refine fx_val (v := dv) (w' := wz) rfl ?_ ⟨Nat.le_refl _, hp.2, Below.refl _ _⟩
        unfold execOp
        generalize fr.eval = ev at e0 ⊢
        simp [go_sem, e0]
      | 8, _ =>
        simp only [List.getElem?_toArray, List.getElem?_cons_zero, List.getElem?_cons_succ, Option.some.injEq] at hop
        subst hop
        generalize hfr : fxF _ vs fxT _ 8 = fr
        have h0 : Fast (iv 4).1 (iv 4).2 (R4 n N2 A D2 (vs 5)) wz := hd 5 (by decide)
        obtain ⟨tv, dv, e, _, _⟩ := h0.now
        have e0 : fr.eval (.tmp 61) = .tuple #[tv, dv, .int .i64 0] := by rw [← hfr]; exact (fx_new (by simp) 8 (by kernel_rfl)).trans e
        clear hfr
        have hp := r4_parts h0 e
        refine fx_val (v := .int .i64 0) (w' := wz) rfl ?_ ⟨Nat.le_refl _, rfl, Below.refl _ _⟩
        unfold execOp
        generalize fr.eval = ev at e0 ⊢
        simp [go_sem, e0]
      | 9, _ =>
        simp only [List.getElem?_toArray, List.getElem?_cons_zero, List.getElem?_cons_succ, Option.some.injEq] at hop
        subst hop
        refine fx_val (v := .pointer (some ⟨wz.heap.size, 0, none⟩)) (w' := wz.alloc (.cells (tkC nilN nilN) 24)) rfl ?_ ⟨(below_a wz _).size, ⟨wz.heap.size, rfl, Nat.le_refl _, by simp, hinv.size, heap_alloc_new wz _⟩, below_a wz _⟩
        generalize fxF _ vs fxT _ 9 = fr
        unfold execOp
        generalize fr.eval = ev
        simp [go_sem]
        try rfl
      | 10, _ =>
        simp only [List.getElem?_toArray, List.getElem?_cons_zero, List.getElem?_cons_succ, Option.some.injEq] at hop
        subst hop
        generalize hfr : fxF _ vs fxT _ 10 = fr
        obtain ⟨g, hp, q1, q2, q3, q4⟩ := hd 9 (by decide)
        have hf : Fast (iv 4).1 (iv 4).2 (RT n N2 A (vs 6)) wz := hd 6 (by decide)
        obtain ⟨xa, xc, ya, yc, e, _, _⟩ := hf.now
        have e1 : fr.eval (.tmp 14) = .pointer (some ⟨g, 0, none⟩) := by rw [← hfr]; exact (fx_new (by simp) 10 (by kernel_rfl)).trans hp
        have e2 : fr.eval (.tmp 67) = .agg (tkC (.slice xa n xc) (.slice ya n yc)) := by rw [← hfr]; exact (fx_new (by simp) 10 (by kernel_rfl)).trans e
        clear hfr
        rw [e] at hf
        have hb := but_setRow wz g (tkC (.slice xa n xc) (.slice ya n yc))
        refine fxu_store 24 (.tmp 14) (.tmp 67) rfl rfl g (tkC (.slice xa n xc) (.slice ya n yc)) e1 e2 24 _ q4 info_tk rfl (tk_one _ _ rfl rfl) ⟨hb.size, ⟨g, _, hp, q1, q2, setRow_heap _ _ _ _ _ _ q4, ?_⟩, ⟨g, q3, q1, q2, hb⟩⟩
        exact hf.keep (like_grown hb (hsp.1 4 (show 4 ∈ pa6A.getD 10 [] by decide)).2 (by have := hsp.2 9 4 (show 9 ∈ pa6A.getD 10 [] by decide) (show 4 ∈ pa6A.getD 10 [] by decide) (by decide); omega))
      | 11, _ =>
        simp only [List.getElem?_toArray, List.getElem?_cons_zero, List.getElem?_cons_succ, Option.some.injEq] at hop
        subst hop
        generalize hfr : fxF _ vs fxT _ 11 = fr
        have h0 : Fast (iv 4).1 (iv 4).2 (RD D2 (vs 7)) wz := hd 7 (by decide)
        have e0 : fr.eval (.tmp 68) = vs 7 := by rw [← hfr]; exact fx_new (by simp) 11 (by kernel_rfl)
        clear hfr
        refine fxu_assign (.tmp 68) rfl rfl ⟨Nat.le_refl _, ?_, Below.refl _ _⟩
        show Fast (iv 4).1 (iv 4).2 (RD D2 (fr.eval (.tmp 68))) wz
        rw [e0]; exact h0
      | j + 12, hj => exact absurd hj (by omega)
    case hdone =>
      intro vs iv w7 hinv _ hf
      have hE : vs 8 = .int .i64 0 := hf 8 (by decide) (by decide)
      obtain ⟨g14, cs, hp, _, _, hr, hfr⟩ : ∃ g cs, vs 9 = .pointer (some ⟨g, 0, none⟩) ∧ (iv 9).1 ≤ g ∧ g < (iv 9).2 ∧ w7.heap[g]? = some (.cells cs 24 (0, 0)) ∧ Fast (iv 4).1 (iv 4).2 (RT n N2 A (.agg cs)) w7 := hf 10 (by decide) (by decide)
      have hfd : Fast (iv 4).1 (iv 4).2 (RD D2 (vs 11)) w7 := hf 11 (by decide) (by decide)
      obtain ⟨xg, xh, yg, yh, ecs, rx, ry⟩ := hfr.now
      obtain ⟨dg, dh, ed, rd⟩ := hfd.now
      injection ecs with ecs
      subst ecs
      have row14 := Lib.hid hr; have rx7 := Lib.hid rx; have ry7 := Lib.hid ry; have rd7 := Lib.hid rd; have hw7 := Lib.hid hinv
      simp only [fxF, fxT, if_true, List.drop_succ_cons, List.drop_zero, List.getElem?_toArray, List.getElem?_cons_zero, List.getElem?_cons_succ, Option.bind_some, Option.bind_none]
      rw [hE, hp, ed]
      clear hf hE hp hfr hfd ed hr rx ry rd hinv
      generalize vs 0 = y0 at *
      generalize vs 1 = y1 at *
      generalize vs 2 = y2 at *
      generalize vs 3 = y3 at *
      generalize vs 4 = y4 at *
      generalize vs 5 = y5 at *
      generalize vs 6 = y6 at *
      generalize vs 7 = y7 at *
      generalize vs 8 = y8 at *
      generalize vs 9 = y9 at *
      generalize vs 10 = y10 at *
      generalize vs 11 = y11 at *
      have hX7 := Lib.hid (hX6'.out.trans (hw7.out.mono hX6'.out.size))
      have hX := Lib.hid (Below.refl w7.heap.size w7)
      have r8 := Lib.hid (fun wz (h : Below w7.heap.size w7 wz) => rowK (rowK w86.out hw7.out) h)
      have r14 := Lib.hid (fun wz (h : Below w7.heap.size w7 wz) => rowK row14.out h)
      have ka := Lib.hid (fun wz (h : Below w7.heap.size w7 wz) => (va6.out.mono hw7.out).mono h)
      have kb := Lib.hid (fun wz (h : Below w7.heap.size w7 wz) => (vb6.out.mono hw7.out).mono h)
      have kd := Lib.hid (fun wz (h : Below w7.heap.size w7 wz) => (vd6.out.mono hw7.out).mono h)
      have kc := Lib.hid (fun wz (h : Below w7.heap.size w7 wz) => rx7.out.mono h)
      have ke := Lib.hid (fun wz (h : Below w7.heap.size w7 wz) => ry7.out.mono h)
      have k1' := Lib.hid (fun wz (h : Below w7.heap.size w7 wz) => (rd6.out.mono hw7.out).mono h)
      have k2' := Lib.hid (fun wz (h : Below w7.heap.size w7 wz) => rd7.out.mono h)
      have hfin := Lib.hid (fun wz (h : Below w7.heap.size w7 wz) => hS.out.trans ((hX7.out.trans (h.mono hX7.out.size)).mono hS.out.size))
      have rb := Lib.hid (fun wz (h : Below w7.heap.size w7 wz) => hrow.out wz (hX7.out.trans (h.mono hX7.out.size)))
      have kS := Lib.hid (fun wz (h : Below w7.heap.size w7 wz) => cS.out wz (hX7.out.trans (h.mono hX7.out.size)))
      have kS2 := Lib.hid (fun wz (h : Below w7.heap.size w7 wz) => cS2.out _ wz (ka.out wz h))
      have kR := Lib.hid (fun wz (h : Below w7.heap.size w7 wz) => c4.out _ _ wz (ka.out wz h) (kb.out wz h))
      have kT := Lib.hid (fun wz (h : Below w7.heap.size w7 wz) => sameT_any N2 A N2 A _ _ _ _ wz (ka.out wz h) (kb.out wz h) (kc.out wz h) (ke.out wz h))
      simp only [decide_true, Bool.and_self] at kT
      clear hR7 w86 va6 vb6 vd6 cut6 hcuu' hsm' row11 rx6 ry6 rd6 row14 rx7 ry7 rd7 hw7 hX6 hX6' hX7 hS hrow kL kA kQ cS cS2 c4
      obtain ⟨z0, hz0⟩ : ∃ z0, D0.length = z0 := ⟨_, rfl⟩
      obtain ⟨z1, hz1⟩ : ∃ z1, D1.length = z1 := ⟨_, rfl⟩
      obtain ⟨z2, hz2⟩ : ∃ z2, D2.length = z2 := ⟨_, rfl⟩
      have hz0' := Lib.hid hz0; have hz1' := Lib.hid hz1; have hz2' := Lib.hid hz2
      rw [hz0] at hdl hsum kd hDl hda ⊢
      rw [hz1] at hdl k1' hda ⊢
      rw [hz2] at hdl k2' hdb ⊢
      have hz := hdl.out
      have hzm := hDl.out
      have hzI := Lib.hid (show (z1 : Int) + (z2 : Int) = (z0 : Int) by omega)
      have hwz : IntKind.i64.wrap ((z1 : Int) + (z2 : Int)) = (z0 : Int) := by rw [IntWalk.i64_in _ (by omega)]; omega
      clear hz0 hz1 hz2
      go_upto_region 10 with (first
          | (refine wpList_load_row_g rfl 24 _ rfl g8 rfl 24 (tkC (.slice xa n xc) (.slice ya n yc)) (0, 0) _ (r8.out _ hX.out) Try.underlying24 rfl info_tk ?_)
          | (refine wpList_load_row_g rfl 24 _ rfl g14 rfl 24 (tkC (.slice xg n xh) (.slice yg n yh)) (0, 0) _ (r14.out _ hX.out) Try.underlying24 rfl info_tk ?_)
          | (go_at_call 13; (with_reducible refine (kR.out _ hX.out).mono ?_); rintro e9 w9 ⟨v, rfl, q1, q9⟩; obtain ⟨an, ac, rfl⟩ := q1.slice; replace hX := Lib.hid (hX.out.trans (Below.mono q9 hX.out.size)); clear q9; clear q1)
          | (go_at_call 17; (with_reducible refine (kT.out _ hX.out).mono ?_); rintro e9 w9 ⟨rfl, q9⟩; replace hX := Lib.hid (hX.out.trans (Below.mono q9 hX.out.size)); clear q9))
      clear r14 kb kc ke kR kT hwz
      go_wp2
      go_loopw [19] (fun i wr => ∃ k : Nat, k ≤ z0 ∧ i = .int .i64 (k : Int) ∧ Below w7.heap.size w7 wr) (fun i _ => z0 - (intOf i).toNat)
      case atStart => exact ⟨0, Nat.zero_le _, rfl, hX.out⟩
      case round =>
        obtain ⟨k, hk, rfl, hb0⟩ := hrel
        clear hX
        have hX := Lib.hid hb0
        clear hb0
        by_cases hkz : k < z0
        · have hkI : (k : Int) < (z0 : Int) := by omega
          have hk1 : IntKind.i64.wrap ((k : Int) + 1) = (k : Int) + 1 := IntWalk.i64_in _ (by omega)
          have hat := hda.out k (by rw [hz0'.out] at *; exact hkz)
          obtain ⟨bd, od, rfl, _, qd⟩ := rdN_at (kd.out _ hX.out) k (by rw [hz0'.out]; exact hkz)
          have dd0 := qd _ (Below.refl _ _)
          by_cases hk2 : k < z1
          · rw [if_pos hk2] at hat
            have hk2I : (k : Int) < (z1 : Int) := by omega
            have hk2H := Lib.hid hk2
            obtain ⟨be, oe, rfl, _, qe⟩ := rdN_at (k1'.out _ hX.out) k (by rw [hz1'.out]; exact hk2)
            have de0 := qe _ (Below.refl _ _)
            have qd' := Lib.hid qd; have qe' := Lib.hid (show ∀ wz, Below wr.heap.size wr wz → wz.cell? ⟨be, oe + k, none⟩ = some (.int .i64 (ith D0 k)) from fun wz h => by rw [hat]; exact qe wz h)
            clear qd qe hat
            generalize ith D0 k = x at *
            have dd' := Lib.hid (fun wz (h : Below wr.heap.size wr wz) => qd'.out wz h); have de' := Lib.hid (fun wz (h : Below wr.heap.size wr wz) => qe'.out wz h)
            clear dd0 de0 qd' qe' hk2
            go_upto_region 13 with fail
            refine wp_region_quiet (C := fun w' => Below wr.heap.size wr w') (by kernel_rfl) (by kernel_rfl) ((Below.refl _ _).drew) ?_
            simp only []
            (first | (go_big_quiet_want; go_big_quiet_op; first | go_big_quiet_on | (refine ⟨_, fun _ _ => rfl, ?_⟩; go_big_quiet_on)) | go_big_quiet_skip)
            (first | (go_big_quiet_want; go_big_quiet_op; first | go_big_quiet_on | (refine ⟨_, fun _ _ => rfl, ?_⟩; go_big_quiet_on)) | go_big_quiet_skip)
            (first | (go_big_quiet_want; go_big_quiet_op; first | go_big_quiet_on | (refine ⟨_, fun _ _ => rfl, ?_⟩; go_big_quiet_on)) | go_big_quiet_skip)
            refine wpq (.bool true) rfl (qa_lss 3 _ _ _ .i64 (k : Int) (z1 : Int) true rfl Try.underlying3 rfl rfl (by rw [decide_eq_true_iff]; have := hk2H.out; omega)) rfl (fun K hK => ?_); go_simp; refine hK _ ?_; clear hK K
            (first | (go_big_quiet_want; go_big_quiet_op; first | go_big_quiet_on | (refine ⟨_, fun _ _ => rfl, ?_⟩; go_big_quiet_on)) | go_big_quiet_skip)
            (first | (go_big_quiet_want; go_big_quiet_op; first | go_big_quiet_on | (refine ⟨_, fun _ _ => rfl, ?_⟩; go_big_quiet_on)) | go_big_quiet_skip)
            (first | (go_big_quiet_want; go_big_quiet_op; first | go_big_quiet_on | (refine ⟨_, fun _ _ => rfl, ?_⟩; go_big_quiet_on)) | go_big_quiet_skip)
            (first | (go_big_quiet_want; go_big_quiet_op; first | go_big_quiet_on | (refine ⟨_, fun _ _ => rfl, ?_⟩; go_big_quiet_on)) | go_big_quiet_skip)
            refine wpq (.int .i64 x) rfl (quiet_cell 3 _ rfl bd (od + k) rfl (.int .i64 x) (fun wz h => dd'.out wz h) Try.isAgg3) rfl (fun K hK => ?_); go_simp; refine hK _ ?_; clear hK K
            (first | (go_big_quiet_want; go_big_quiet_op; first | go_big_quiet_on | (refine ⟨_, fun _ _ => rfl, ?_⟩; go_big_quiet_on)) | go_big_quiet_skip)
            (first | (go_big_quiet_want; go_big_quiet_op; first | go_big_quiet_on | (refine ⟨_, fun _ _ => rfl, ?_⟩; go_big_quiet_on)) | go_big_quiet_skip)
            (first | (go_big_quiet_want; go_big_quiet_op; first | go_big_quiet_on | (refine ⟨_, fun _ _ => rfl, ?_⟩; go_big_quiet_on)) | go_big_quiet_skip)
            refine wpq (.int .i64 x) rfl (quiet_cell 3 _ rfl be (oe + k) rfl (.int .i64 x) (fun wz h => de'.out wz h) Try.isAgg3) rfl (fun K hK => ?_); go_simp; refine hK _ ?_; clear hK K
            (first | (go_big_quiet_want; go_big_quiet_op; first | go_big_quiet_on | (refine ⟨_, fun _ _ => rfl, ?_⟩; go_big_quiet_on)) | go_big_quiet_skip)
            (first | (go_big_quiet_want; go_big_quiet_op; first | go_big_quiet_on | (refine ⟨_, fun _ _ => rfl, ?_⟩; go_big_quiet_on)) | go_big_quiet_skip)
            (first | (go_big_quiet_want; go_big_quiet_op; first | go_big_quiet_on | (refine ⟨_, fun _ _ => rfl, ?_⟩; go_big_quiet_on)) | go_big_quiet_skip)
            (first | (go_big_quiet_want; go_big_quiet_op; first | go_big_quiet_on | (refine ⟨_, fun _ _ => rfl, ?_⟩; go_big_quiet_on)) | go_big_quiet_skip)
            (first | (go_big_quiet_want; go_big_quiet_op; first | go_big_quiet_on | (refine ⟨_, fun _ _ => rfl, ?_⟩; go_big_quiet_on)) | go_big_quiet_skip)
            (first | (go_big_quiet_want; go_big_quiet_op; first | go_big_quiet_on | (refine ⟨_, fun _ _ => rfl, ?_⟩; go_big_quiet_on)) | go_big_quiet_skip)
            refine wpq (.bool false) rfl (qa_geq 3 _ _ _ .i64 (k : Int) (z1 : Int) false rfl Try.underlying3 rfl rfl (by rw [decide_eq_false_iff_not]; have := hk2H.out; omega)) rfl (fun K hK => ?_); go_simp; refine hK _ ?_; clear hK K
            (first | (go_big_quiet_want; go_big_quiet_op; first | go_big_quiet_on | (refine ⟨_, fun _ _ => rfl, ?_⟩; go_big_quiet_on)) | go_big_quiet_skip)
            (first | (go_big_quiet_want; go_big_quiet_op; first | go_big_quiet_on | (refine ⟨_, fun _ _ => rfl, ?_⟩; go_big_quiet_on)) | go_big_quiet_skip)
            (first | (go_big_quiet_want; go_big_quiet_op; first | go_big_quiet_on | (refine ⟨_, fun _ _ => rfl, ?_⟩; go_big_quiet_on)) | go_big_quiet_skip)
            (first | (go_big_quiet_want; go_big_quiet_op; first | go_big_quiet_on | (refine ⟨_, fun _ _ => rfl, ?_⟩; go_big_quiet_on)) | go_big_quiet_skip)
            (first | (go_big_quiet_want; go_big_quiet_op; first | go_big_quiet_on | (refine ⟨_, fun _ _ => rfl, ?_⟩; go_big_quiet_on)) | go_big_quiet_skip)
            (first | (go_big_quiet_want; go_big_quiet_op; first | go_big_quiet_on | (refine ⟨_, fun _ _ => rfl, ?_⟩; go_big_quiet_on)) | go_big_quiet_skip)
            (first | (go_big_quiet_want; go_big_quiet_op; first | go_big_quiet_on | (refine ⟨_, fun _ _ => rfl, ?_⟩; go_big_quiet_on)) | go_big_quiet_skip)
            (first | (go_big_quiet_want; go_big_quiet_op; first | go_big_quiet_on | (refine ⟨_, fun _ _ => rfl, ?_⟩; go_big_quiet_on)) | go_big_quiet_skip)
            (first | (go_big_quiet_want; go_big_quiet_op; first | go_big_quiet_on | (refine ⟨_, fun _ _ => rfl, ?_⟩; go_big_quiet_on)) | go_big_quiet_skip)
            (first | (go_big_quiet_want; go_big_quiet_op; first | go_big_quiet_on | (refine ⟨_, fun _ _ => rfl, ?_⟩; go_big_quiet_on)) | go_big_quiet_skip)
            (first | (go_big_quiet_want; go_big_quiet_op; first | go_big_quiet_on | (refine ⟨_, fun _ _ => rfl, ?_⟩; go_big_quiet_on)) | go_big_quiet_skip)
            (first | (go_big_quiet_want; go_big_quiet_op; first | go_big_quiet_on | (refine ⟨_, fun _ _ => rfl, ?_⟩; go_big_quiet_on)) | go_big_quiet_skip)
            (first | (go_big_quiet_want; go_big_quiet_op; first | go_big_quiet_on | (refine ⟨_, fun _ _ => rfl, ?_⟩; go_big_quiet_on)) | go_big_quiet_skip)
            (first | (go_big_quiet_want; go_big_quiet_op; first | go_big_quiet_on | (refine ⟨_, fun _ _ => rfl, ?_⟩; go_big_quiet_on)) | go_big_quiet_skip)
            (first | (go_big_quiet_want; go_big_quiet_op; first | go_big_quiet_on | (refine ⟨_, fun _ _ => rfl, ?_⟩; go_big_quiet_on)) | go_big_quiet_skip)
            (first | (go_big_quiet_want; go_big_quiet_op; first | go_big_quiet_on | (refine ⟨_, fun _ _ => rfl, ?_⟩; go_big_quiet_on)) | go_big_quiet_skip)
            (first | (go_big_quiet_want; go_big_quiet_op; first | go_big_quiet_on | (refine ⟨_, fun _ _ => rfl, ?_⟩; go_big_quiet_on)) | go_big_quiet_skip)
            refine wpQuiet_nil ?_
            intro w' h'
            have h9' := Lib.hid h'
            clear h'
            go_wp2
            go_roundw
            case rel => exact ⟨k + 1, by omega, by go_num, hX.out.trans (h9'.out.mono hX.out.size)⟩
            case measure => simp [intOf]; omega
          · rw [if_neg hk2] at hat
            have hk2H := Lib.hid hk2
            obtain ⟨j, hj⟩ : ∃ j, k - z1 = j := ⟨_, rfl⟩
            rw [hj] at hat
            have hjz : j < z2 := by omega
            have hjI : (j : Int) < (z2 : Int) := by omega
            have hwj : IntKind.i64.wrap ((k : Int) - (z1 : Int)) = (j : Int) := by rw [IntWalk.i64_in _ (by omega)]; omega
            obtain ⟨bf, of, rfl, _, qf⟩ := rdN_at (k2'.out _ hX.out) j (by rw [hz2'.out]; exact hjz)
            have df0 := qf _ (Below.refl _ _)
            have hbd := hdb.out j hjz
            have hwx : IntKind.i64.wrap (ith D2 j + (S : Int)) = ith D0 k := by rw [IntWalk.i64_in _ (by omega)]; exact hat.symm
            have qd' := Lib.hid qd; have qf' := Lib.hid qf
            clear qd qf hat hj
            generalize ith D0 k = x at *
            generalize ith D2 j = y at *
            clear hk2
            clear dd0 df0
            go_upto_region 13 with fail
            refine wp_region_quiet (C := fun w' => Below wr.heap.size wr w') (by kernel_rfl) (by kernel_rfl) ((Below.refl _ _).drew) ?_
            simp only []
            (first | (go_big_quiet_want; go_big_quiet_op; first | go_big_quiet_on | (refine ⟨_, fun _ _ => rfl, ?_⟩; go_big_quiet_on)) | go_big_quiet_skip)
            (first | (go_big_quiet_want; go_big_quiet_op; first | go_big_quiet_on | (refine ⟨_, fun _ _ => rfl, ?_⟩; go_big_quiet_on)) | go_big_quiet_skip)
            (first | (go_big_quiet_want; go_big_quiet_op; first | go_big_quiet_on | (refine ⟨_, fun _ _ => rfl, ?_⟩; go_big_quiet_on)) | go_big_quiet_skip)
            refine wpq (.bool false) rfl (qa_lss 3 _ _ _ .i64 (k : Int) (z1 : Int) false rfl Try.underlying3 rfl rfl (by rw [decide_eq_false_iff_not]; have := hk2H.out; omega)) rfl (fun K hK => ?_); go_simp; refine hK _ ?_; clear hK K
            (first | (go_big_quiet_want; go_big_quiet_op; first | go_big_quiet_on | (refine ⟨_, fun _ _ => rfl, ?_⟩; go_big_quiet_on)) | go_big_quiet_skip)
            (first | (go_big_quiet_want; go_big_quiet_op; first | go_big_quiet_on | (refine ⟨_, fun _ _ => rfl, ?_⟩; go_big_quiet_on)) | go_big_quiet_skip)
            (first | (go_big_quiet_want; go_big_quiet_op; first | go_big_quiet_on | (refine ⟨_, fun _ _ => rfl, ?_⟩; go_big_quiet_on)) | go_big_quiet_skip)
            (first | (go_big_quiet_want; go_big_quiet_op; first | go_big_quiet_on | (refine ⟨_, fun _ _ => rfl, ?_⟩; go_big_quiet_on)) | go_big_quiet_skip)
            (first | (go_big_quiet_want; go_big_quiet_op; first | go_big_quiet_on | (refine ⟨_, fun _ _ => rfl, ?_⟩; go_big_quiet_on)) | go_big_quiet_skip)
            (first | (go_big_quiet_want; go_big_quiet_op; first | go_big_quiet_on | (refine ⟨_, fun _ _ => rfl, ?_⟩; go_big_quiet_on)) | go_big_quiet_skip)
            (first | (go_big_quiet_want; go_big_quiet_op; first | go_big_quiet_on | (refine ⟨_, fun _ _ => rfl, ?_⟩; go_big_quiet_on)) | go_big_quiet_skip)
            (first | (go_big_quiet_want; go_big_quiet_op; first | go_big_quiet_on | (refine ⟨_, fun _ _ => rfl, ?_⟩; go_big_quiet_on)) | go_big_quiet_skip)
            (first | (go_big_quiet_want; go_big_quiet_op; first | go_big_quiet_on | (refine ⟨_, fun _ _ => rfl, ?_⟩; go_big_quiet_on)) | go_big_quiet_skip)
            (first | (go_big_quiet_want; go_big_quiet_op; first | go_big_quiet_on | (refine ⟨_, fun _ _ => rfl, ?_⟩; go_big_quiet_on)) | go_big_quiet_skip)
            (first | (go_big_quiet_want; go_big_quiet_op; first | go_big_quiet_on | (refine ⟨_, fun _ _ => rfl, ?_⟩; go_big_quiet_on)) | go_big_quiet_skip)
            (first | (go_big_quiet_want; go_big_quiet_op; first | go_big_quiet_on | (refine ⟨_, fun _ _ => rfl, ?_⟩; go_big_quiet_on)) | go_big_quiet_skip)
            (first | (go_big_quiet_want; go_big_quiet_op; first | go_big_quiet_on | (refine ⟨_, fun _ _ => rfl, ?_⟩; go_big_quiet_on)) | go_big_quiet_skip)
            (first | (go_big_quiet_want; go_big_quiet_op; first | go_big_quiet_on | (refine ⟨_, fun _ _ => rfl, ?_⟩; go_big_quiet_on)) | go_big_quiet_skip)
            (first | (go_big_quiet_want; go_big_quiet_op; first | go_big_quiet_on | (refine ⟨_, fun _ _ => rfl, ?_⟩; go_big_quiet_on)) | go_big_quiet_skip)
            refine wpq (.bool true) rfl (qa_geq 3 _ _ _ .i64 (k : Int) (z1 : Int) true rfl Try.underlying3 rfl rfl (by rw [decide_eq_true_iff]; have := hk2H.out; omega)) rfl (fun K hK => ?_); go_simp; refine hK _ ?_; clear hK K
            (first | (go_big_quiet_want; go_big_quiet_op; first | go_big_quiet_on | (refine ⟨_, fun _ _ => rfl, ?_⟩; go_big_quiet_on)) | go_big_quiet_skip)
            (first | (go_big_quiet_want; go_big_quiet_op; first | go_big_quiet_on | (refine ⟨_, fun _ _ => rfl, ?_⟩; go_big_quiet_on)) | go_big_quiet_skip)
            (first | (go_big_quiet_want; go_big_quiet_op; first | go_big_quiet_on | (refine ⟨_, fun _ _ => rfl, ?_⟩; go_big_quiet_on)) | go_big_quiet_skip)
            (first | (go_big_quiet_want; go_big_quiet_op; first | go_big_quiet_on | (refine ⟨_, fun _ _ => rfl, ?_⟩; go_big_quiet_on)) | go_big_quiet_skip)
            refine wpq (.int .i64 x) rfl (quiet_cell 3 _ rfl bd (od + k) rfl (.int .i64 x) (fun wz h => qd'.out wz h) Try.isAgg3) rfl (fun K hK => ?_); go_simp; refine hK _ ?_; clear hK K
            (first | (go_big_quiet_want; go_big_quiet_op; first | go_big_quiet_on | (refine ⟨_, fun _ _ => rfl, ?_⟩; go_big_quiet_on)) | go_big_quiet_skip)
            (first | (go_big_quiet_want; go_big_quiet_op; first | go_big_quiet_on | (refine ⟨_, fun _ _ => rfl, ?_⟩; go_big_quiet_on)) | go_big_quiet_skip)
            (first | (go_big_quiet_want; go_big_quiet_op; first | go_big_quiet_on | (refine ⟨_, fun _ _ => rfl, ?_⟩; go_big_quiet_on)) | go_big_quiet_skip)
            (first | (go_big_quiet_want; go_big_quiet_op; first | go_big_quiet_on | (refine ⟨_, fun _ _ => rfl, ?_⟩; go_big_quiet_on)) | go_big_quiet_skip)
            (first | (go_big_quiet_want; go_big_quiet_op; first | go_big_quiet_on | (refine ⟨_, fun _ _ => rfl, ?_⟩; go_big_quiet_on)) | go_big_quiet_skip)
            (first | (go_big_quiet_want; go_big_quiet_op; first | go_big_quiet_on | (refine ⟨_, fun _ _ => rfl, ?_⟩; go_big_quiet_on)) | go_big_quiet_skip)
            refine wpq (.int .i64 y) rfl (quiet_cell 3 _ rfl bf (of + j) rfl (.int .i64 y) (fun wz h => qf'.out wz h) Try.isAgg3) rfl (fun K hK => ?_); go_simp; refine hK _ ?_; clear hK K
            (first | (go_big_quiet_want; go_big_quiet_op; first | go_big_quiet_on | (refine ⟨_, fun _ _ => rfl, ?_⟩; go_big_quiet_on)) | go_big_quiet_skip)
            (first | (go_big_quiet_want; go_big_quiet_op; first | go_big_quiet_on | (refine ⟨_, fun _ _ => rfl, ?_⟩; go_big_quiet_on)) | go_big_quiet_skip)
            (first | (go_big_quiet_want; go_big_quiet_op; first | go_big_quiet_on | (refine ⟨_, fun _ _ => rfl, ?_⟩; go_big_quiet_on)) | go_big_quiet_skip)
            (first | (go_big_quiet_want; go_big_quiet_op; first | go_big_quiet_on | (refine ⟨_, fun _ _ => rfl, ?_⟩; go_big_quiet_on)) | go_big_quiet_skip)
            (first | (go_big_quiet_want; go_big_quiet_op; first | go_big_quiet_on | (refine ⟨_, fun _ _ => rfl, ?_⟩; go_big_quiet_on)) | go_big_quiet_skip)
            refine wpQuiet_nil ?_
            intro w' h'
            have h9' := Lib.hid h'
            clear h'
            go_wp2
            go_roundw
            case rel => exact ⟨k + 1, by omega, by go_num, hX.out.trans (h9'.out.mono hX.out.size)⟩
            case measure => simp [intOf]; omega
        · obtain rfl : k = z0 := by omega
          have hsm2 := hsum.out
          have hwl : IntKind.i64.wrap (Z2 + (k : Int)) = Z0 := by rw [IntWalk.i64_in _ (by omega)]; omega
          have hpp := hpos.out
          have hf := Lib.hid (hfin.out _ hX.out)
          have y8 := Lib.hid (fun wz (h : Below wr.heap.size wr wz) => r8.out wz (hX.out.trans (h.mono hX.out.size)))
          have yb := Lib.hid (fun wz (h : Below wr.heap.size wr wz) => rb.out wz (hX.out.trans (h.mono hX.out.size)))
          have yS := Lib.hid (fun wz (h : Below wr.heap.size wr wz) => kS.out wz (hX.out.trans (h.mono hX.out.size)))
          have yS2 := Lib.hid (fun wz (h : Below wr.heap.size wr wz) => kS2.out wz (hX.out.trans (h.mono hX.out.size)))
          go_upto_region 15 with fail
          refine wp_region_quiet (C := fun w' => Below wr.heap.size wr w') (by kernel_rfl) (by kernel_rfl) ((Below.refl _ _).drew) ?_
          simp only []
          (first | (go_big_quiet_want; go_big_quiet_op; first | go_big_quiet_on | (refine ⟨_, fun _ _ => rfl, ?_⟩; go_big_quiet_on)) | go_big_quiet_skip)
          (first | (go_big_quiet_want; go_big_quiet_op; first | go_big_quiet_on | (refine ⟨_, fun _ _ => rfl, ?_⟩; go_big_quiet_on)) | go_big_quiet_skip)
          (first | (go_big_quiet_want; go_big_quiet_op; first | go_big_quiet_on | (refine ⟨_, fun _ _ => rfl, ?_⟩; go_big_quiet_on)) | go_big_quiet_skip)
          refine wpq (.slice la n lc) rfl (quiet_cell 22 _ rfl w.heap.size 0 rfl (.slice la n lc) (fun wz h => by rw [cell_of_row _ _ _ _ _ _ (yb.out wz h)]; rfl) Try.isAgg22) rfl (fun K hK => ?_); go_simp; refine hK _ ?_; clear hK K
          refine wpq (.int .i64 Z0) rfl (qa_call1 (.slice la n lc) rfl Try.func32 (by kernel_rfl) rfl rfl rfl (fun w9 h => (yS.out w9 h).mono fun e w' ⟨he, hd⟩ => ⟨he, h.trans (hd.mono h.size)⟩)) rfl (fun K hK => ?_); go_simp; refine hK _ ?_; clear hK K
          (first | (go_big_quiet_want; go_big_quiet_op; first | go_big_quiet_on | (refine ⟨_, fun _ _ => rfl, ?_⟩; go_big_quiet_on)) | go_big_quiet_skip)
          refine wpq (.slice xa n xc) rfl (quiet_cell 22 _ rfl g8 0 rfl (.slice xa n xc) (fun wz h => by rw [cell_of_row _ _ _ _ _ _ (y8.out wz h)]; rfl) Try.isAgg22) rfl (fun K hK => ?_); go_simp; refine hK _ ?_; clear hK K
          refine wpq (.int .i64 Z2) rfl (qa_call1 (.slice xa n xc) rfl Try.func32 (by kernel_rfl) rfl rfl rfl (fun w9 h => (yS2.out w9 h).mono fun e w' ⟨he, hd⟩ => ⟨he, h.trans (hd.mono h.size)⟩)) rfl (fun K hK => ?_); go_simp; refine hK _ ?_; clear hK K
          (first | (go_big_quiet_want; go_big_quiet_op; first | go_big_quiet_on | (refine ⟨_, fun _ _ => rfl, ?_⟩; go_big_quiet_on)) | go_big_quiet_skip)
          (first | (go_big_quiet_want; go_big_quiet_op; first | go_big_quiet_on | (refine ⟨_, fun _ _ => rfl, ?_⟩; go_big_quiet_on)) | go_big_quiet_skip)
          (first | (go_big_quiet_want; go_big_quiet_op; first | go_big_quiet_on | (refine ⟨_, fun _ _ => rfl, ?_⟩; go_big_quiet_on)) | go_big_quiet_skip)
          (first | (go_big_quiet_want; go_big_quiet_op; first | go_big_quiet_on | (refine ⟨_, fun _ _ => rfl, ?_⟩; go_big_quiet_on)) | go_big_quiet_skip)
          (first | (go_big_quiet_want; go_big_quiet_op; first | go_big_quiet_on | (refine ⟨_, fun _ _ => rfl, ?_⟩; go_big_quiet_on)) | go_big_quiet_skip)
          (first | (go_big_quiet_want; go_big_quiet_op; first | go_big_quiet_on | (refine ⟨_, fun _ _ => rfl, ?_⟩; go_big_quiet_on)) | go_big_quiet_skip)
          (first | (go_big_quiet_want; go_big_quiet_op; first | go_big_quiet_on | (refine ⟨_, fun _ _ => rfl, ?_⟩; go_big_quiet_on)) | go_big_quiet_skip)
          (first | (go_big_quiet_want; go_big_quiet_op; first | go_big_quiet_on | (refine ⟨_, fun _ _ => rfl, ?_⟩; go_big_quiet_on)) | go_big_quiet_skip)
          (first | (go_big_quiet_want; go_big_quiet_op; first | go_big_quiet_on | (refine ⟨_, fun _ _ => rfl, ?_⟩; go_big_quiet_on)) | go_big_quiet_skip)
          (first | (go_big_quiet_want; go_big_quiet_op; first | go_big_quiet_on | (refine ⟨_, fun _ _ => rfl, ?_⟩; go_big_quiet_on)) | go_big_quiet_skip)
          refine wpq (.slice xa n xc) rfl (quiet_cell 22 _ rfl g8 0 rfl (.slice xa n xc) (fun wz h => by rw [cell_of_row _ _ _ _ _ _ (y8.out wz h)]; rfl) Try.isAgg22) rfl (fun K hK => ?_); go_simp; refine hK _ ?_; clear hK K
          refine wpq (.int .i64 Z2) rfl (qa_call1 (.slice xa n xc) rfl Try.func32 (by kernel_rfl) rfl rfl rfl (fun w9 h => (yS2.out w9 h).mono fun e w' ⟨he, hd⟩ => ⟨he, h.trans (hd.mono h.size)⟩)) rfl (fun K hK => ?_); go_simp; refine hK _ ?_; clear hK K
          (first | (go_big_quiet_want; go_big_quiet_op; first | go_big_quiet_on | (refine ⟨_, fun _ _ => rfl, ?_⟩; go_big_quiet_on)) | go_big_quiet_skip)
          (first | (go_big_quiet_want; go_big_quiet_op; first | go_big_quiet_on | (refine ⟨_, fun _ _ => rfl, ?_⟩; go_big_quiet_on)) | go_big_quiet_skip)
          (first | (go_big_quiet_want; go_big_quiet_op; first | go_big_quiet_on | (refine ⟨_, fun _ _ => rfl, ?_⟩; go_big_quiet_on)) | go_big_quiet_skip)
          (first | (go_big_quiet_want; go_big_quiet_op; first | go_big_quiet_on | (refine ⟨_, fun _ _ => rfl, ?_⟩; go_big_quiet_on)) | go_big_quiet_skip)
          refine wpQuiet_nil ?_
          intro w' h'
          have hF := Lib.hid (hf.out.trans (h'.mono hf.out.size))
          clear h'
          go_wp2
          go_ret
          exact ⟨ret_bool (by
            have e : decide ((0 : Int) < ((AN.length : Nat) : Int)) = decide (0 < Z2) := by rw [Bool.eq_iff_iff, decide_eq_true_iff, decide_eq_true_iff, ← hpp]; omega
            first | (simp [e]; done) | (rw [e]; simp) | simp), hF.out⟩
end Go.Proofs.Ytdebeimognikiaa.con
namespace Go.Proofs.Ytdebeimognikiaa
open Go.ChangeShapes Go.WideShapes Go.ChangeAt Go.WideMaps Go.WideElems Go.RowKit Go.Ytdebeimognikiaa
set_option linter.unusedVariables false
theorem own : ownKnob Try.prog.godebug = none := by kernel_rfl
theorem laidOut : laidOutB Try.prog = true := by kernel_rfl
section
variable {H : Type} {enc : TypeId × Value → H} {P : Program} {w : World} {base : Nat} {sp : Nat → Bool} {held : Bool}
theorem trodAll_stays (hl : laidOutB P = true) {W W' : World} {sp' : Nat → Bool} : ∀ {ts : List TypeId} {vs : List Value} {ds : List (DataW H)} {ps : List MemPlace}, (∀ t ∈ ts, P.readableRec t = true ∧ t < P.types.size) →
    DataW.TrodAll enc P W base (fun _ => true) true ts vs ds ps → (∀ p ∈ ps, W.sameAt W' p) → (∀ p ∈ ps, sp' p.block = true) → DataW.TrodAll enc P W' base sp' true ts vs ds ps
  | [], [], [], _, _, h, _, _ => h
  | [], [], _ :: _, _, _, h, _, _ => h.elim
  | [], _ :: _, _, _, _, h, _, _ => by cases ‹List (DataW H)› <;> exact h.elim
  | _ :: _, [], _, _, _, h, _, _ => by cases ‹List (DataW H)› <;> exact h.elim
  | _ :: _, _ :: _, [], _, _, h, _, _ => h.elim
  | t :: ts, v :: vs, d :: ds, ps, ht, h, hs, hp => by
    obtain ⟨p, q, h1, h2, rfl⟩ := h
    obtain ⟨r1, r2⟩ := ht t List.mem_cons_self
    exact ⟨p, q, Trod_stays hl r1 r2 h1 (fun x hx => hs x (List.mem_append_left _ hx)) (fun x hx => hp x (List.mem_append_left _ hx)),
      trodAll_stays hl (fun u hu => ht u (List.mem_cons_of_mem _ hu)) h2 (fun x hx => hs x (List.mem_append_right _ hx)) (fun x hx => hp x (List.mem_append_right _ hx)), rfl⟩
/-- A law's end: true, in a world whose old memory is as' it was. -/
theorem law_post {f : Func} {s : ChangeSpec} {apart fresh handsOn : Bool} {W W' : World} {args : Array Value} {v : Value} {ds gs : List (DataW H)} {before : List MemPlace} (hl : laidOutB P = true)
    (hts : ∀ t ∈ f.params.toList, P.readableRec t = true ∧ t < P.types.size) (hvs : varsRowed P s.vars = true)
    (hW : DataW.Whole enc P f.params.toList s.vars apart W args.toList ds gs before) (hb : Below W.heap.size W W')
    (hres : ∀ (b : Nat) (sp : Nat → Bool) (hd : Bool), DataW.TrodAll enc P W' b sp hd f.resultTypes.toList (v.resultList f.resultTypes.size) (s.fn H (ds ++ gs)).results [])
    (hargs : (s.fn H (ds ++ gs)).args = ds) (hvars : (s.fn H (ds ++ gs)).vars = gs) :
    s.post enc P f apart fresh handsOn false W args v W' := by
  have hW2 := hW
  have hlt : ∀ p ∈ before, p.block < W.heap.size := fun p hp => hW.lt p hp
  obtain ⟨p, q, hA, hV, rfl, hfz, hnd⟩ := hW
  refine ⟨ds, gs, p ++ q, [], p, q, hW2, hres _ _ _, ?_, ?_, hb.frame _, fun h => by cases h⟩
  · rw [hargs]
    exact trodAll_stays hl hts hA (fun x hx => hb.same (hlt x (List.mem_append_left _ hx))) (fun x hx => by simpa using hlt x (List.mem_append_left _ hx))
  · rw [hvars]
    exact Below.trodVars hl hb hvs hV
end
section
variable {H : Type} {enc : TypeId × Value → H} {P : Program} {W : World}
end
theorem boundsOf64 (x : Int) (h : (Lit.int .i64 x).wf = true) : -9223372036854775808 ≤ x ∧ x ≤ 9223372036854775807 := by
  simpa [Lit.wf, IntKind.min, IntKind.max, IntKind.signed, IntKind.bits] using h
end Go.Proofs.Ytdebeimognikiaa
namespace Go.Proofs.Ytdebeimognikiaa.con
open Go.ChangeShapes Go.WideShapes Go.ChangeAt Go.WideMaps Go.WideElems Go.RowKit Go.Joins Go.Ytdebeimognikiaa
set_option linter.unusedVariables false
section
variable {H : Type} {enc : TypeId × Value → H} {P : Program} {W : World}
theorem trod_intsN {t e : TypeId} (ht : P.underlying t = some (.slice e)) (he : P.underlying e = some (.int .i64)) (hc : P.cellsOf e = 1) {fuel : Nat} {cs : List Value} {x : DataW H × List MemPlace}
    (h : DataW.trod enc P W 0 (fun _ => true) true fuel t cs = some x) : ∃ v l, cs = [v] ∧ RdN W v l ∧ ∀ k ∈ l, -9223372036854775808 ≤ k ∧ k ≤ 9223372036854775807 := by
  rcases open_ints ht he hc h with ⟨rfl, _⟩ | ⟨a, len, cap, zs, rfl, hb, hl, hm, hz, _, hcell, hwf⟩
  · exact ⟨_, [], rfl, .inl ⟨none, 0, rfl, fun _ => rfl, rfl⟩, fun k hk => by cases hk⟩
  · simp only [if_true] at hz
    refine ⟨_, zs.take len, rfl, ?_, fun k hk => boundsOf64 k (hwf k (List.mem_of_mem_take hk))⟩
    have hln : (zs.take len).length = len := by rw [List.length_take]; omega
    by_cases h0 : len = 0
    · subst h0
      exact .inl ⟨some a, cap, rfl, (fun h => by cases h), rfl⟩
    · obtain ⟨b, o, spot⟩ := a
      have hspot : spot = none := by simpa [Addr.add] using World.cell?_spot (hcell 0 (by omega))
      subst hspot
      refine .inr ⟨b, o, cap, by rw [hln], by rw [hln]; exact hl, hm, World.block_lt_of_cell? _ _ (hcell 0 (by omega)), fun i hi => ?_⟩
      rw [hln] at hi
      have := hcell i (by omega)
      rw [addr_add] at this
      rw [this]
      simp [ith, List.getD, hi]
theorem open_intsN {t e : TypeId} {v : Value} {d : DataW H} {p : List MemPlace} (ht : P.underlying t = some (.slice e)) (he : P.underlying e = some (.int .i64)) (hc : P.cellsOf e = 1) (hct : P.cellsOf t = 1)
    {r : Reach} {b0 : Nat} (hv : Value.okWide P W r b0 t v) (h : DataW.Trod enc P W 0 (fun _ => true) true t v d p) : ∃ l, RdN W v l ∧ ∀ k ∈ l, -9223372036854775808 ≤ k ∧ k ≤ 9223372036854775807 := by
  obtain ⟨fuel, hf⟩ := h
  obtain ⟨v', l, h1, h2, h3⟩ := trod_intsN ht he hc hf
  refine ⟨l, ?_, h3⟩
  unfold Value.okWide at hv
  rw [ht] at hv
  simp only [Cell.okWide, ht] at hv
  cases v <;> simp [Cell.ok, ht] at hv
  simp [Value.cells] at h1
  rw [h1]; exact h2
end
theorem array2 {α : Type} {cs : Array α} (h : cs.size = 2) : ∃ c0 c1, cs = #[c0, c1] := by
  obtain ⟨l⟩ := cs
  match l, h with
  | [c0, c1], _ => exact ⟨c0, c1, rfl⟩
section
variable {H : Type} {enc : TypeId × Value → H} {W : World}
set_option maxRecDepth 10000 in
theorem open_tasks {v : Value} {d : DataW H} {p : List MemPlace} {r : Reach} {b0 : Nat} (hv : Value.okWide Try.prog W r b0 24 v) (h : DataW.Trod enc Try.prog W 0 (fun _ => true) true 24 v d p) :
    ∃ (lv av : Value) (L A : List Int), v = .agg (tkC lv av) ∧ RdN W lv L ∧ RdN W av A := by
  obtain ⟨cs, rfl, hsz⟩ := okWide_struct Try.underlying24 hv
  obtain ⟨c0, c1, rfl⟩ := array2 (hsz.trans (by kernel_rfl))
  obtain ⟨fuel, hf⟩ := h
  obtain ⟨y0, y1, n, _, _, e0, e1⟩ := trod_struct2 Try.underlying24 hf
  have kI : Try.prog.cellsOf 22 = 1 := by kernel_rfl
  dsimp only at e0 e1
  rw [kI] at e0 e1
  simp only [Value.cells, List.drop_zero, List.take_succ_cons, List.take_zero, List.drop_succ_cons] at e0 e1
  obtain ⟨lv, L, a0, hL, _⟩ := trod_intsN Try.underlying22 Try.underlying3 (by kernel_rfl) e0
  obtain ⟨av, A, a1, hA, _⟩ := trod_intsN Try.underlying22 Try.underlying3 (by kernel_rfl) e1
  refine ⟨lv, av, L, A, ?_, hL, hA⟩
  rw [(List.cons.inj a0).1, (List.cons.inj a1).1]
end
end Go.Proofs.Ytdebeimognikiaa.con

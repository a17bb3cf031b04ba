/- Contracts of package wire: strings. -/
import Derived.Test.YtegffpjhdodldaaW02
namespace Go.Proofs.Ytegffpjhdodldaa
open Go.RowKit Go.Ytegffpjhdodldaa
set_option linter.unusedVariables false
theorem rdB_len0 {w : World} {v : Value} {r : List Int} (h : RdB w v r) (h0 : r.length = 0) : ∃ a c, v = .slice a 0 c := by
  obtain ⟨a, c, rfl⟩ := h.slice
  exact ⟨a, c, by rw [h0]⟩
theorem step_copyB {P : Program} {ops : Array Oper} {o : Oper} {a : Act} {w : World} {K : Act → World → Prop} {Q : Exit → Act → World → Prop} {E : Prop} (hgd : o.guard = none) (d s : Operand) (dT sT : TypeId)
    (ho : o.op = .call { callee := .builtin .copy, args := #[d, s], argTypes := #[dT, sT] }) (elem : TypeId) (hu : P.underlying dT = some (.slice elem)) (hsz : (P.info? elem).map (·.size) = some 1)
    (dp : Option Addr) (g off dLen dCap : Nat) (hd : a.eval d = .slice dp dLen dCap) (sv : Value) (hs : a.eval s = sv) (r : List Int) (hr : RdB w sv r) (hdp : 0 < r.length → dp = some ⟨g, off, none⟩)
    (cs : List Int) (t : TypeId) (hg : w.heap[g]? = some (.cells (u8s cs) t (0, 0))) (hle : r.length ≤ dLen) (hfit : off + r.length ≤ cs.length)
    (h : ∀ w', Hid (w' = w.setRow g (u8s (overlay cs off r))) → K (a.put o.dst (goInt r.length)) w') :
    if Region.wanted o (yielded ops a.tmps) = true then Oper.wp P o a w K Q else E := by
  have hw : Region.wanted o (yielded ops a.tmps) = true := by simp [Region.wanted, hgd]
  rw [if_pos hw]
  have h := h _ (show _ = _ from rfl)
  by_cases h0 : r.length = 0
  · obtain ⟨sa, sc, rfl⟩ := rdB_len0 hr h0
    obtain rfl : r = [] := List.eq_nil_of_length_eq_zero h0
    have hrun := run_copy_none (P := P) w dT sT o.type elem dp sa dLen dCap 0 sc hu hsz (Nat.zero_min _)
    unfold Oper.wp
    simp [execOp, ho, resolve, invoke, builtin, hd, hs, hrun, Result.andThen]
    have e : overlay cs off [] = cs := by simp [overlay]
    rw [e, setRow_self w g _ t _ hg] at h
    exact h
  · obtain rfl := hdp (by omega)
    rcases hr with ⟨sa, sc, rfl, _, rfl⟩ | ⟨b, o', c, rfl, h1, h2, h3, h4⟩
    · simp at h0
    · have hrun := run_copy_row (P := P) w dT sT o.type elem g off dLen dCap ⟨b, o', none⟩ r.length c (u8s cs) t (u8v r) hu hsz hg (by rw [u8v_length]; exact (Nat.min_eq_left hle).symm) (RdB.src h4) (by rw [u8v_length, u8s_size]; exact hfit) (u8v_one r)
      unfold Oper.wp
      simp [execOp, ho, resolve, invoke, builtin, hd, hs, hrun, Result.andThen]
      have e : ((u8s cs).toList.take off ++ (u8v r ++ (u8s cs).toList.drop (off + r.length))).toArray = u8s (overlay cs off r) := by
        simp [u8s, u8v, overlay]
      rw [u8v_length, e]; exact h
theorem below_drewG (B : Nat) (w : World) : Below B w w.drew := ((Draws.refl _).drewN 1).below (Below.refl _ _)
theorem below_drew (w : World) : Below w.heap.size w w.drew := below_drewG _ w
/-- A function without a result has come to its end. -/
def IsRet (e : Ending) : Prop := ∃ v, e = .returned v
theorem put_some (g A T : Nat) (B : List Int) (rv : Value) (r : List Int) (w : World) (hT : B.length = T) (hb : w.heap[g]? = some (.cells (u8s B) 5 (0, 0)))
    (hv : w.heap[g + 1]? = some (.cells #[.slice (some ⟨g, 0, none⟩) T T] 29 (0, 0))) (ha : w.heap[g + 2]? = some (.cells #[.int .i64 (A : Int)] 3 (0, 0)))
    (hr : RdB w rv r) (hfit : A + r.length ≤ T) (hm : T ≤ 1000000) (hlt : A < T) :
    Calls Try.prog 60 #[rv, .pointer (some ⟨g + 2, 0, none⟩), .pointer (some ⟨g + 1, 0, none⟩)] w fun e w' => IsRet e ∧ w'.heap[g]? = some (.cells (u8s (overlay B A r)) 5 (0, 0)) ∧ w'.heap[g + 1]? = some (.cells #[.slice (some ⟨g, 0, none⟩) T T] 29 (0, 0)) ∧ w'.heap[g + 2]? = some (.cells #[.int .i64 ((A + r.length : Nat) : Int)] 3 (0, 0)) ∧ Below g w w' := by
  have c1 : w.cell? ⟨g + 1, 0, none⟩ = some (.slice (some ⟨g, 0, none⟩) T T) := by rw [cell_of_row _ _ _ _ _ _ hv]; rfl
  have c2 : w.cell? ⟨g + 2, 0, none⟩ = some (.int .i64 (A : Int)) := by rw [cell_of_row _ _ _ _ _ _ ha]; rfl
  have f2 := frozen_of_row _ _ 0 _ _ ha
  have hrs := hr
  obtain ⟨ra, rc, rfl⟩ := hr.slice
  have hr' := Lib.hid hrs; have hb' := Lib.hid hb; have hv' := Lib.hid hv; have ha' := Lib.hid ha; have hT' := Lib.hid hT
  clear hr hrs hb hv ha hT
  generalize hn : r.length = n at *
  have hn' := Lib.hid hn
  clear hn
  have g1 : A ≤ T := by omega
  have g2 : ¬ T = A := by omega
  go_enter Try.func60, Try.ntmps60
  have hwr : IntKind.i64.wrap ((A : Int) + (n : Int)) = (A : Int) + (n : Int) := IntWalk.i64_in _ (by omega)
  have k0 := Lib.hid (fun (w4 : World) (h : w4 = w.drew.setRow g (u8s (overlay B A r))) => (show w4.heap[g + 2]? = some (.cells #[.int .i64 (A : Int)] 3 (0, 0)) from by rw [h]; exact (setRow_other w.drew g (g + 2) _ (by omega)).trans ha'.out))
  go_wp2
  go_region_law ((refine step_copyB rfl _ _ 29 29 rfl 5 Try.underlying29 (by kernel_rfl) (some ⟨g, A, none⟩) g A (T - A) (T - A) rfl _ rfl r (hr'.out.mono (below_drew w)) (fun _ => rfl) B 5 hb'.out (by rw [hn'.out]; omega) (by rw [hn'.out, hT'.out]; omega) ?_; intro w4 hw4; have k2 : w4.cell? ⟨g + 2, 0, none⟩ = some (.int .i64 (A : Int)) := (by rw [cell_of_row _ _ _ _ _ _ (k0.out _ hw4.out)]; rfl); have k3 : w4.frozen? ⟨g + 2, 0, none⟩ = false := (frozen_of_row _ _ 0 _ _ (k0.out _ hw4.out)); rw [hn'.out]))
  all_goals
    go_end0
    refine ⟨⟨_, rfl⟩, ?_, ?_, ?_, ?_⟩
    · rw [hw4.out]
      exact (setCell_rows _ _ _ _ (by omega)).trans (setRow_heap w.drew g _ _ _ _ hb'.out)
    · rw [hw4.out]
      exact (setCell_rows _ _ _ _ (by omega)).trans ((setRow_other w.drew g (g + 1) _ (by omega)).trans hv'.out)
    · exact setCell_row (k0.out _ hw4.out) 0 (.int .i64 ((A : Int) + (n : Int)))
    · rw [hw4.out]
      exact (below_setRow' (below_drewG g w) (Nat.le_refl _) _).setCell (by simp) _
theorem put_end (g A T : Nat) (B : List Int) (rv : Value) (r : List Int) (w : World) (hT : B.length = T) (hb : w.heap[g]? = some (.cells (u8s B) 5 (0, 0)))
    (hv : w.heap[g + 1]? = some (.cells #[.slice (some ⟨g, 0, none⟩) T T] 29 (0, 0))) (ha : w.heap[g + 2]? = some (.cells #[.int .i64 (A : Int)] 3 (0, 0)))
    (hr : RdB w rv r) (hfit : A + r.length ≤ T) (hm : T ≤ 1000000) (hlt : A = T) :
    Calls Try.prog 60 #[rv, .pointer (some ⟨g + 2, 0, none⟩), .pointer (some ⟨g + 1, 0, none⟩)] w fun e w' => IsRet e ∧ w'.heap[g]? = some (.cells (u8s (overlay B A r)) 5 (0, 0)) ∧ w'.heap[g + 1]? = some (.cells #[.slice (some ⟨g, 0, none⟩) T T] 29 (0, 0)) ∧ w'.heap[g + 2]? = some (.cells #[.int .i64 ((A + r.length : Nat) : Int)] 3 (0, 0)) ∧ Below g w w' := by
  subst hlt
  have c1 : w.cell? ⟨g + 1, 0, none⟩ = some (.slice (some ⟨g, 0, none⟩) A A) := by rw [cell_of_row _ _ _ _ _ _ hv]; rfl
  have c2 : w.cell? ⟨g + 2, 0, none⟩ = some (.int .i64 (A : Int)) := by rw [cell_of_row _ _ _ _ _ _ ha]; rfl
  have f2 := frozen_of_row _ _ 0 _ _ ha
  have hrs := hr
  obtain ⟨ra, rc, rfl⟩ := hr.slice
  have hr' := Lib.hid hrs; have hb' := Lib.hid hb; have hv' := Lib.hid hv; have ha' := Lib.hid ha; have hT' := Lib.hid hT
  clear hr hrs hb hv ha hT
  generalize hn : r.length = n at *
  have hn' := Lib.hid hn
  clear hn
  go_enter Try.func60, Try.ntmps60
  have hwr : IntKind.i64.wrap ((A : Int) + (n : Int)) = (A : Int) + (n : Int) := IntWalk.i64_in _ (by omega)
  have k0 := Lib.hid (fun (w4 : World) (h : w4 = w.drew.setRow g (u8s (overlay B A r))) => (show w4.heap[g + 2]? = some (.cells #[.int .i64 (A : Int)] 3 (0, 0)) from by rw [h]; exact (setRow_other w.drew g (g + 2) _ (by omega)).trans ha'.out))
  go_wp2
  go_region_law ((refine step_copyB rfl _ _ 29 29 rfl 5 Try.underlying29 (by kernel_rfl) (some ⟨g, 0, none⟩) g A 0 0 rfl _ rfl r (hr'.out.mono (below_drew w)) (fun h => by rw [hn'.out] at h; omega) B 5 hb'.out (by rw [hn'.out]; omega) (by rw [hn'.out, hT'.out]; omega) ?_; intro w4 hw4; have k2 : w4.cell? ⟨g + 2, 0, none⟩ = some (.int .i64 (A : Int)) := (by rw [cell_of_row _ _ _ _ _ _ (k0.out _ hw4.out)]; rfl); have k3 : w4.frozen? ⟨g + 2, 0, none⟩ = false := (frozen_of_row _ _ 0 _ _ (k0.out _ hw4.out)); rw [hn'.out]))
  all_goals
    go_end0
    refine ⟨⟨_, rfl⟩, ?_, ?_, ?_, ?_⟩
    · rw [hw4.out]
      exact (setCell_rows _ _ _ _ (by omega)).trans (setRow_heap w.drew g _ _ _ _ hb'.out)
    · rw [hw4.out]
      exact (setCell_rows _ _ _ _ (by omega)).trans ((setRow_other w.drew g (g + 1) _ (by omega)).trans hv'.out)
    · exact setCell_row (k0.out _ hw4.out) 0 (.int .i64 ((A : Int) + (n : Int)))
    · rw [hw4.out]
      exact (below_setRow' (below_drewG g w) (Nat.le_refl _) _).setCell (by simp) _
theorem put_any (g A T : Nat) (B : List Int) (rv : Value) (r : List Int) (w : World) (hT : B.length = T) (hb : w.heap[g]? = some (.cells (u8s B) 5 (0, 0)))
    (hv : w.heap[g + 1]? = some (.cells #[.slice (some ⟨g, 0, none⟩) T T] 29 (0, 0))) (ha : w.heap[g + 2]? = some (.cells #[.int .i64 (A : Int)] 3 (0, 0)))
    (hr : RdB w rv r) (hfit : A + r.length ≤ T) (hm : T ≤ 1000000) :
    Calls Try.prog 60 #[rv, .pointer (some ⟨g + 2, 0, none⟩), .pointer (some ⟨g + 1, 0, none⟩)] w fun e w' => IsRet e ∧ w'.heap[g]? = some (.cells (u8s (overlay B A r)) 5 (0, 0)) ∧ w'.heap[g + 1]? = some (.cells #[.slice (some ⟨g, 0, none⟩) T T] 29 (0, 0)) ∧ w'.heap[g + 2]? = some (.cells #[.int .i64 ((A + r.length : Nat) : Int)] 3 (0, 0)) ∧ Below g w w' := by
  rcases Nat.lt_or_ge A T with h | h
  · exact put_some g A T B rv r w hT hb hv ha hr hfit hm h
  · exact put_end g A T B rv r w hT hb hv ha hr hfit hm (by omega)
theorem below_a1 (w : World) (o : Obj) : Below w.heap.size w (w.alloc o) := (Below.refl _ _).alloc (Nat.le_refl _) o
theorem overlay_zero (h : List Int) (n : Nat) : overlay (zerosB (h.length + n)) 0 h = h ++ zerosB n := by
  unfold overlay zerosB
  rw [List.take_zero, List.nil_append, Nat.zero_add, List.drop_replicate, Nat.add_sub_cancel_left]
theorem counted_any (k n : Nat) (hk : k < 9223372036854775808) (hn : n ≤ 900000) (w : World) :
    Calls Try.prog 55 #[.int .i64 (k : Int), .int .i64 (n : Int)] w fun e w' => ∃ g, e = .returned (.tuple #[.slice (some ⟨g, 0, none⟩) (numL k + n) (numL k + n), .func (.func 60) #[] #[.pointer (some ⟨g + 2, 0, none⟩), .pointer (some ⟨g + 1, 0, none⟩)]]) ∧ w.heap.size ≤ g ∧
      w'.heap[g]? = some (.cells (u8s (numB k ++ zerosB n)) 5 (0, 0)) ∧ w'.heap[g + 1]? = some (.cells #[.slice (some ⟨g, 0, none⟩) (numL k + n) (numL k + n)] 29 (0, 0)) ∧ w'.heap[g + 2]? = some (.cells #[.int .i64 (numL k : Nat)] 3 (0, 0)) ∧ Below w.heap.size w w' := by
  have hmf : ∀ (fn : Fn) (first cap : Array Value) (w : World), (Instr.makeFunc fn first cap).run Try.prog w = .ok (.func fn first cap) w := fun _ _ _ _ => rfl
  have hN := Lib.hid (number_any k (by omega) w)
  have hL9 := numL_le k (by omega)
  have hlen := Lib.hid (numB_length k)
  generalize numL k = L at *
  generalize numB k = B at *
  have hmk := fun (wx : World) => run_makeB (P := Try.prog) wx 29 5 Try.underlying29 (by kernel_rfl) (L + n) (L + n) (Nat.le_refl _) (by omega)
  have hmk' : ∀ wx : World, (Instr.makeSlice 29 (.int .i64 ((L : Int) + (n : Int))) (.int .i64 ((L : Int) + (n : Int)))).run Try.prog wx = .ok (.slice (some ⟨wx.heap.size, 0, none⟩) (L + n) (L + n)) (wx.alloc (.cells (u8s (zerosB (L + n))) 5)) := fun wx => by
    have h := hmk wx
    rw [show ((L + n : Nat) : Int) = (L : Int) + (n : Int) by omega] at h
    exact h
  clear hmk
  go_enter Try.func55, Try.ntmps55
  go_wp2_with (go_at_call 40; (with_reducible refine (hN.out).mono ?_); rintro e w1 ⟨rfl, hg, hb⟩; have hg' := Lib.hid hg; have hb' := Lib.hid hb; clear hg hb; refine Stop.go'' _ ?_)
  refine StopP.go ?_
  have hz := hb'.out.size
  have k0 := Lib.hid (fun (W2 : World) (h : W2 = (w1.alloc (.cells (u8s (zerosB (L + n))) 5)).alloc (.cells #[.slice (some ⟨w1.heap.size, 0, none⟩) (L + n) (L + n)] 29)) => (show RdB W2 (.slice (some ⟨w.heap.size, 0, none⟩) L L) B ∧ W2.heap[w1.heap.size]? = some (.cells (u8s (zerosB (L + n))) 5 (0, 0)) ∧ W2.heap[w1.heap.size + 1]? = some (.cells #[.slice (some ⟨w1.heap.size, 0, none⟩) (L + n) (L + n)] 29 (0, 0)) ∧ Below w.heap.size w W2 ∧ W2.heap.size = w1.heap.size + 2 from by
    subst h
    refine ⟨(rdB_row hg'.out L hlen.out (by unfold maxLen; omega)).mono ((below_a1 w1 _).trans ((below_a1 _ _).mono (by simp))), (hp1 _ _ _ (by simp)).trans (heap_alloc_new w1 _), hn2 w1 _ _, hb'.out.trans (((below_a1 w1 _).trans ((below_a1 _ _).mono (by simp))).mono hz), by simp⟩))
  have kA := Lib.hid (k0.out _ rfl)
  have kB := Lib.hid (show overlay (zerosB (L + n)) 0 B = B ++ zerosB n by have h := overlay_zero B n; rw [hlen.out] at h; exact h)
  clear hN hg' hb'
  go_wp2_with (refine copyB rfl _ _ 29 29 rfl 5 Try.underlying29 (by kernel_rfl) w1.heap.size 0 (L + n) (L + n) rfl _ rfl B (kA.out.1) (zerosB (L + n)) 5 (kA.out.2.1) (by rw [hlen.out]; omega) (by rw [hlen.out, zerosB_length]; omega) ?_)
  intro w2 hw2
  have r0 := Lib.hid (show w2.heap[w1.heap.size]? = some (.cells (u8s (B ++ zerosB n)) 5 (0, 0)) by rw [hw2.out, kB.out]; exact setRow_heap _ _ _ _ _ _ kA.out.2.1)
  have r1 := Lib.hid (show w2.heap[w1.heap.size + 1]? = some (.cells #[.slice (some ⟨w1.heap.size, 0, none⟩) (L + n) (L + n)] 29 (0, 0)) by rw [hw2.out]; exact (setRow_other _ _ _ _ (by omega)).trans kA.out.2.2.1)
  have r2 := Lib.hid (show Below w.heap.size w w2 by rw [hw2.out]; exact below_setRow' kA.out.2.2.2.1 hz _)
  have r3 := Lib.hid (show w2.heap.size = w1.heap.size + 2 by rw [hw2.out]; simp only [World.setRow, Array.size_modify]; exact kA.out.2.2.2.2)
  have r4 := Lib.hid (show (w2.alloc (.cells #[.int .i64 (L : Int)] 3)).cell? ⟨w1.heap.size + 1, 0, none⟩ = some (.slice (some ⟨w1.heap.size, 0, none⟩) (L + n) (L + n)) by
    rw [cell_of_row _ _ _ _ _ _ ((hp1 _ _ _ (by rw [r3.out]; omega)).trans r1.out)]; rfl)
  have r5 := Lib.hid hlen.out
  clear hw2 kA kB k0
  refine Stop.go ?_
  rw [hlen.out]
  have r6 := r4.out
  clear r4
  go_wp2
  go_ret2
  refine ⟨w1.heap.size, ?_, hz, ?_, ?_, ?_, ?_⟩
  · rw [r3.out]; rfl
  · exact (hp1 _ _ _ (by rw [r3.out]; omega)).trans r0.out
  · exact (hp1 _ _ _ (by rw [r3.out]; omega)).trans r1.out
  · have h := heap_alloc_new w2 (.cells #[.int .i64 (L : Int)] 3)
    rw [r3.out] at h
    exact h
  · exact r2.out.alloc r2.out.size _
/-- The bytes of a string. -/
def textB (l : List Int) : List Int := numB l.length ++ l
theorem textB_length (l : List Int) : (textB l).length = numL l.length + l.length := by rw [textB, List.length_append, numB_length]
theorem overlay_end (h r : List Int) : overlay (h ++ zerosB r.length) h.length r = h ++ r := by
  unfold overlay
  rw [List.take_left' rfl, List.drop_eq_nil_of_le (by rw [List.length_append, zerosB_length]; omega), List.append_nil]
theorem bytes_any (sv : Value) (l : List Int) (w : World) (hr : RdB w sv l) (hl : l.length ≤ 10000) :
    Calls Try.prog 42 #[sv] w fun e w' => ∃ g, e = .returned (.tuple #[.slice (some ⟨g, 0, none⟩) (textB l).length (textB l).length, .int .i64 0]) ∧ w.heap.size ≤ g ∧ w'.heap[g]? = some (.cells (u8s (textB l)) 5 (0, 0)) ∧ Below w.heap.size w w' := by
  have hc := Lib.hid (counted_any l.length l.length (by omega) (by omega) w)
  have hL9 := numL_le l.length (by omega)
  have hpt := Lib.hid (fun (g : Nat) (w1 : World) (hg : w.heap.size ≤ g) (hB : Below w.heap.size w w1) h1 h2 h3 => put_any g (numL l.length) (numL l.length + l.length) (numB l.length ++ zerosB l.length) sv l w1 (by rw [List.length_append, numB_length, zerosB_length]) h1 h2 h3 (hr.mono hB) (Nat.le_refl _) (by omega))
  have hov := Lib.hid (show overlay (numB l.length ++ zerosB l.length) (numL l.length) l = textB l by have h := overlay_end (numB l.length) l; rw [numB_length] at h; exact h)
  rw [textB_length]
  obtain ⟨a, c, rfl⟩ := hr.slice
  clear hr
  generalize textB l = TB at *
  generalize numB l.length ++ zerosB l.length = B0 at *
  generalize numL l.length = L at *
  generalize l.length = n at *
  go_enter Try.func42, Try.ntmps42
  go_wp2_with (go_at_call 55; (with_reducible refine (hc.out).mono ?_); rintro e w1 ⟨g, rfl, hg, h1, h2, h3, hb⟩; have hp := Lib.hid (hpt.out g w1 hg hb h1 h2 h3); have hb' := Lib.hid hb; clear h1 h2 h3 hb)
  go_wp2_with (go_at_call 60; (with_reducible refine (hp.out).mono ?_); rintro e w2 ⟨⟨v, rfl⟩, r0, r1, r2, hb2⟩; have r0' := Lib.hid r0; have hb2' := Lib.hid hb2; clear r0 r1 r2 hb2)
  go_ret2
  exact ⟨g, rfl, hg, by rw [← hov.out]; exact r0'.out, hb'.out.trans (hb2'.out.mono hg)⟩
theorem bytes_many (a : Option Addr) (n c : Nat) (w : World) (hn : 10000 < n) :
    Calls Try.prog 42 #[.slice a n c] w fun e w' => e = .returned (.tuple #[.slice none 0 0, .int .i64 4]) ∧ w = w' := by
  go_enter Try.func42, Try.ntmps42
  go_wp2
  go_ret2
  exact ⟨rfl, rfl⟩
end Go.Proofs.Ytegffpjhdodldaa

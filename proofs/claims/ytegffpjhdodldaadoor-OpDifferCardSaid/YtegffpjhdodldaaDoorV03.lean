/- Contracts of package value and of its reference: which values are valid. -/
import Derived.Test.YtegffpjhdodldaaDoorV02
import Derived.Deep.Cut
import Derived.Deep.DeepCutAuto
import Derived.BigQuiet
namespace Go.Proofs.YtegffpjhdodldaaDoor.wir.val
open Go.RowKit Go.YtegffpjhdodldaaDoor
set_option linter.unusedVariables false
def validV (k n : Int) (b : Nat) (s : ByteArray) : Bool :=
  if k = 1 then decide (b = 0) && decide (s.size = 0) else if k = 2 then decide (n = 0) && (decide (canF b = b) && decide (s.size = 0)) else if k = 3 then decide (n = 0) && (decide (b = 0) && (decide (s.size ≤ 30) && okB (sI s))) else false
abbrev vC (k n : Int) (b : Nat) (s : ByteArray) : Array Value := #[.int .u8 k, .int .i64 n, .int .u64 (b : Int), .string s]
theorem cellsV {w : World} {g : Nat} {k n : Int} {b : Nat} {s : ByteArray} (h : w.heap[g]? = some (.cells (vC k n b s) 26 (0, 0))) :
    w.cell? ⟨g, 0, none⟩ = some (.int .u8 k) ∧ w.cell? ⟨g, 1, none⟩ = some (.int .i64 n) ∧ w.cell? ⟨g, 2, none⟩ = some (.int .u64 (b : Int)) ∧ w.cell? ⟨g, 3, none⟩ = some (.string s) :=
  ⟨cell_of_row _ _ _ _ _ _ h, cell_of_row _ _ _ _ _ _ h, cell_of_row _ _ _ _ _ _ h, cell_of_row _ _ _ _ _ _ h⟩
theorem str_empty (s : ByteArray) : (s.toList == ([] : List UInt8)) = decide (s.size = 0) := by
  rw [ByteArray.toList_eq]
  obtain ⟨⟨l⟩⟩ := s
  cases l <;> rfl
theorem bytes_eq (s t : ByteArray) : (s.toList == t.toList) = decide (s = t) := by
  rw [ByteArray.toList_eq, ByteArray.toList_eq]
  obtain ⟨⟨l⟩⟩ := s
  obtain ⟨⟨m⟩⟩ := t
  simp only [ByteArray.mk.injEq, Array.mk.injEq]
  exact Bool.eq_iff_iff.2 (by simp)
def eqB (k n : Int) (b : Nat) (s : ByteArray) (k' n' : Int) (b' : Nat) (s' : ByteArray) : Bool := decide (k = k') && (decide (n = n') && (decide (b = b') && decide (s = s')))
set_option maxRecDepth 100000 in
theorem eqlV (k n : Int) (b : Nat) (s : ByteArray) (k' n' : Int) (b' : Nat) (s' : ByteArray) (w : World) :
    (binOp .eql 26 (vA k n b s) (vA k' n' b' s')).run Tryd.prog w = .ok (.bool (eqB k n b s k' n' b' s')) w := by
  rw [run_eql_struct]
  have h0 : Tryd.prog.underlying 26 = some (.struct (Tryd.prog.fieldsOf 26)) := by kernel_rfl
  have h1 : Tryd.prog.stoodInHeld 26 = false := by kernel_rfl
  rw [run_equalIn_agg _ _ _ _ _ h0 h1]
  have hb := bytes_eq s s'
  simp [go_sem, hb]
  clear hb h0 h1
  unfold eqB
  split
  · split
    · split
      · split <;> first | (simp_all; done) | (have := ‹(b : Int) = (b' : Int)›; simp_all; done) | (simp_all; omega)
      · simp_all <;> omega
    · simp_all
  · simp_all
theorem qa_eqlV {ops : Array Oper} {C : World → Prop} {a : Act} {o : Oper} (x y : Operand) (k n : Int) (b : Nat) (s : ByteArray) (k' n' : Int) (b' : Nat) (s' : ByteArray) (B : Bool) (ho : o.op = .binOp .eql 26 x y 26)
    (hx : a.eval x = vA k n b s) (hy : a.eval y = vA k' n' b' s') (h : eqB k n b s k' n' b' s' = B) : ∀ w, C w → o.quietAt Tryd.prog a C w (.bool B) := by
  intro w _; subst h; refine qa_ok ?_
  have h0 : Tryd.prog.eqGuardType Tryd.prog.depth 26 = false := by kernel_rfl
  have hg := run_eqGuard_agg (P := Tryd.prog) w .eql 26 x y #[.int .u8 k, .int .i64 n, .int .u64 (b : Int), .string s] #[.int .u8 k', .int .i64 n', .int .u64 (b' : Int), .string s'] h0
  have he := eqlV k n b s k' n' b' s' w
  unfold execOp
  generalize a.eval = ev at *
  simp only [ho]
  simp only [hx, hy] at *
  have hb := bytes_eq s s'
  simp [go_sem, hb]
  clear hb h0 hx hy hg he ho
  unfold eqB
  split
  · split
    · split
      · split <;> first | (simp_all; done) | (have := ‹(b : Int) = (b' : Int)›; simp_all; done) | (simp_all; omega)
      · simp_all <;> omega
    · simp_all
  · simp_all
set_option maxRecDepth 100000 in
theorem valid_any (k n : Int) (b : Nat) (s : ByteArray) (hk : 0 ≤ k ∧ k < 256) (hb : b < 18446744073709551616) (hs : s.size ≤ 1000000) (w : World) :
    Calls Tryd.prog 76 #[vA k n b s] w fun e w' => e = .returned (.bool (validV k n b s)) ∧ Below w.heap.size w w' := by
  have hrow := Lib.hid (heap_alloc_new w (.cells (vC k n b s) 26))
  have hb1 := Lib.hid ((Below.refl w.heap.size w).alloc (Nat.le_refl _) (.cells (vC k n b s) 26))
  have hse := str_empty s
  by_cases h1 : k = 1
  · subst h1
    have e : validV 1 n b s = eqB 1 n b s 1 n 0 ⟨#[]⟩ := by
      unfold validV eqB
      rw [if_pos rfl, ← bytes_eq s ⟨#[]⟩, show (⟨#[]⟩ : ByteArray).toList = [] from by rw [ByteArray.toList_eq], hse]
      simp
    have e' := Lib.hid e
    have hN := Lib.hid (fun w => number_val n w)
    clear hb e hse
    clear hk hs
    go_enter Tryd.func76, Tryd.ntmps76
    go_upto_region 3 with fail
    have hg1 : w.heap.size < (w.alloc (.cells (vC 1 n b s) 26)).heap.size := by simp
    generalize hw1 : w.alloc (.cells (vC 1 n b s) 26) = w1 at *
    have hg1' := Lib.hid hg1
    clear hw1 hg1
    refine wp_region_quiet (C := fun w' => Below w1.heap.size w1 w') (by kernel_rfl) (by kernel_rfl) ((Below.refl _ _).drew) ?_
    simp only []
    repeat (first | (refine wpq _ rfl (quiet_row 26 _ rfl w.heap.size rfl 26 (vC 1 n b s) (0, 0) _ (fun w h => rowB hrow.out h hg1'.out) Tryd.underlying26 rfl info_val) rfl (fun K hK => ?_); go_simp; refine hK _ ?_; clear hK K)
                  | (refine wpq _ rfl (quiet_cell 2 _ rfl w.heap.size 1 rfl (.int .i64 n) (fun w h => (cellsV (rowB hrow.out h hg1'.out)).2.1) Tryd.isAgg2) rfl (fun K hK => ?_); go_simp; refine hK _ ?_; clear hK K)
                  | (refine wpq (vA 1 n 0 ⟨#[]⟩) rfl (qa_call1 (.int .i64 n) rfl Tryd.func89 (by kernel_rfl) rfl rfl rfl (fun w h => (hN.out w).mono fun e w' ⟨he, hb⟩ => ⟨he, h.trans (hb.mono h.size)⟩)) rfl (fun K hK => ?_); go_simp; refine hK _ ?_; clear hK K)
                  | (refine wpq (.bool (eqB 1 n b s 1 n 0 ⟨#[]⟩)) rfl (qa_eqlV (ops := #[]) _ _ 1 n b s 1 n 0 ⟨#[]⟩ _ rfl rfl rfl rfl) rfl (fun K hK => ?_); go_simp; refine hK _ ?_; clear hK K)
                  | (go_big_quiet_want; go_big_quiet_op; first | go_big_quiet_on | (refine ⟨_, fun _ _ => rfl, ?_⟩; go_big_quiet_on)))
    refine wpQuiet_nil ?_
    intro w2 h2
    have h2' := Lib.hid h2
    clear h2
    go_wp2
    go_ret
    exact ⟨ret_bool e'.out.symm, hb1.out.trans (h2'.out.mono (Nat.le_of_lt hg1'.out))⟩
  by_cases h2 : k = 2
  · subst h2
    have e : validV 2 n b s = eqB 2 n b s 2 0 (canF b) ⟨#[]⟩ := by
      unfold validV eqB
      rw [if_neg (by decide), if_pos rfl, ← bytes_eq s ⟨#[]⟩, show (⟨#[]⟩ : ByteArray).toList = [] from by rw [ByteArray.toList_eq], hse, show decide (b = canF b) = decide (canF b = b) from Bool.eq_iff_iff.2 (by simp; exact eq_comm)]
      simp
    have e' := Lib.hid e
    have hN := Lib.hid (fun w => float_val b hb w)
    generalize canF b = D at *
    clear hb e hse h1
    clear hk hs
    go_enter Tryd.func76, Tryd.ntmps76
    go_upto_region 5 with fail
    have hg1 : w.heap.size < (w.alloc (.cells (vC 2 n b s) 26)).heap.size := by simp
    generalize hw1 : w.alloc (.cells (vC 2 n b s) 26) = w1 at *
    have hg1' := Lib.hid hg1
    clear hw1 hg1
    refine wp_region_quiet (C := fun w' => Below w1.heap.size w1 w') (by kernel_rfl) (by kernel_rfl) ((Below.refl _ _).drew) ?_
    simp only []
    repeat (first | (refine wpq _ rfl (quiet_row 26 _ rfl w.heap.size rfl 26 (vC 2 n b s) (0, 0) _ (fun w h => rowB hrow.out h hg1'.out) Tryd.underlying26 rfl info_val) rfl (fun K hK => ?_); go_simp; refine hK _ ?_; clear hK K)
                  | (refine wpq _ rfl (quiet_cell 24 _ rfl w.heap.size 2 rfl (.int .u64 (b : Int)) (fun w h => (cellsV (rowB hrow.out h hg1'.out)).2.2.1) Tryd.isAgg24) rfl (fun K hK => ?_); go_simp; refine hK _ ?_; clear hK K)
                  | (refine wpq (vA 2 0 D ⟨#[]⟩) rfl (qa_call1 (.int .u64 (b : Int)) rfl Tryd.func90 (by kernel_rfl) rfl rfl rfl (fun w h => (hN.out w).mono fun e w' ⟨he, hb⟩ => ⟨he, h.trans (hb.mono h.size)⟩)) rfl (fun K hK => ?_); go_simp; refine hK _ ?_; clear hK K)
                  | (refine wpq (.bool (eqB 2 n b s 2 0 D ⟨#[]⟩)) rfl (qa_eqlV (ops := #[]) _ _ 2 n b s 2 0 D ⟨#[]⟩ _ rfl rfl rfl rfl) rfl (fun K hK => ?_); go_simp; refine hK _ ?_; clear hK K)
                  | (go_big_quiet_want; go_big_quiet_op; first | go_big_quiet_on | (refine ⟨_, fun _ _ => rfl, ?_⟩; go_big_quiet_on)))
    refine wpQuiet_nil ?_
    intro w2 h2
    have h2' := Lib.hid h2
    clear h2
    go_wp2
    go_ret
    exact ⟨ret_bool e'.out.symm, hb1.out.trans (h2'.out.mono (Nat.le_of_lt hg1'.out))⟩
  by_cases h3 : k = 3
  · subst h3
    have hT := Lib.hid (fun w => text_any s hs w)
    have hz := Lib.hid (fun (w : World) => heap_alloc_new w (.cells (vC 3 n b s) 26))
    unfold txtV at hT
    by_cases ht : txtE s = 0
    · have e : validV 3 n b s = eqB 3 n b s 3 0 0 s := by
        unfold txtE at ht
        unfold validV eqB
        rw [if_neg (by decide), if_neg (by decide), if_pos rfl]
        have h1 : s.size ≤ 30 := by
          rcases Nat.lt_or_ge 30 s.size with h | h
          · rw [if_pos h] at ht; exact absurd ht (by decide)
          · exact h
        rw [if_neg (by omega)] at ht
        have h2 : okB (sI s) = true := by
          cases ho : okB (sI s)
          · rw [ho] at ht; exact absurd ht (by decide)
          · rfl
        simp [h1, h2]
      have e' := Lib.hid e
      rw [if_pos ht, ht] at hT
      clear hb hk hs e hse h1 h2 ht hb1
      go_enter Tryd.func76, Tryd.ntmps76
      go_wp2_with (first | (go_at_call 91; (with_reducible refine (hT.out _).mono ?_); rintro e w2 ⟨rfl, hb2⟩; have hr2 := Lib.hid (rowB hrow.out hb2 (by simp)); have hb2' := Lib.hid (((Below.refl w.heap.size w).alloc (Nat.le_refl _) _).trans (hb2.mono (by simp))); clear hb2; refine Stop.go'' _ ?_))
      refine StopP.go ?_
      clear hrow hz
      have hlt := Lib.hid (Array.getElem?_eq_some_iff.1 hr2.out).1
      have hrow3 := Lib.hid (heap_alloc_new w2 (.cells (vC 3 0 0 s) 26))
      have hr3 := Lib.hid (rowB hr2.out ((Below.refl w2.heap.size w2).alloc (Nat.le_refl _) (.cells (vC 3 0 0 s) 26)) hlt.out)
      have hb3 := Lib.hid (hb2'.out.alloc (Nat.le_of_lt hlt.out) (.cells (vC 3 0 0 s) 26))
      go_wp2_with (first | (refine wpList_load_row_g rfl 26 _ rfl w.heap.size rfl 26 (vC 3 n b s) (0, 0) _ hr3.out Tryd.underlying26 rfl info_val ?_) | (refine wpList_load_row_g rfl 26 _ rfl w2.heap.size rfl 26 (vC 3 0 0 s) (0, 0) _ hrow3.out Tryd.underlying26 rfl info_val ?_))
      all_goals
        go_ret
        refine ⟨ret_bool ?_, hb3.out⟩
        rw [e'.out]
        simp_all [eqB]
    · have e : validV 3 n b s = false := by
        have h2 : ¬ (s.size ≤ 30 ∧ okB (sI s) = true) := fun h => ht (by unfold txtE; rw [if_neg (by omega), if_pos h.2])
        unfold validV
        rw [if_neg (by decide), if_neg (by decide), if_pos rfl]
        by_cases h1 : s.size ≤ 30
        · have h4 : okB (sI s) = false := by
            cases ho : okB (sI s)
            · rfl
            · exact absurd ⟨h1, ho⟩ h2
          simp [h4]
        · simp [h1]
      have e' := Lib.hid e
      rw [if_neg ht] at hT
      have htb : (txtE s == 0) = false := by simpa using ht
      generalize txtE s = E at *
      clear hb hk hs e hse hb1
      go_enter Tryd.func76, Tryd.ntmps76
      go_wp2_with (first | (go_at_call 91; (with_reducible refine (hT.out _).mono ?_); rintro e w2 ⟨rfl, hb2⟩; have hb2' := Lib.hid (((Below.refl w.heap.size w).alloc (Nat.le_refl _) _).trans (hb2.mono (by simp))); clear hb2; refine Stop.go'' _ ?_))
      refine StopP.go ?_
      clear hrow hz
      have hlt := Lib.hid hb2'.out.size
      have hb3 := Lib.hid (hb2'.out.alloc hlt.out (.cells (vC 0 0 0 ⟨#[]⟩) 26))
      go_wp2
      go_ret
      exact ⟨ret_bool e'.out.symm, hb3.out⟩
  · have e : validV k n b s = false := by unfold validV; rw [if_neg h1, if_neg h2, if_neg h3]
    have e' := Lib.hid e
    have k1 : (k == 1) = false := by simpa using h1
    have k2 : (k == 2) = false := by simpa using h2
    have k3 : (k == 3) = false := by simpa using h3
    clear hb hk hs e hse h1 h2 h3
    go_enter Tryd.func76, Tryd.ntmps76
    go_wp2
    go_ret
    exact ⟨ret_bool e'.out.symm, hb1.out⟩
def chkE (k n : Int) (b : Nat) (s : ByteArray) : Int := if validV k n b s = true then 0 else 8
set_option maxRecDepth 100000 in
theorem check_any (k n : Int) (b : Nat) (s : ByteArray) (hk : 0 ≤ k ∧ k < 256) (hb : b < 18446744073709551616) (hs : s.size ≤ 1000000) (w : World) :
    Calls Tryd.prog 67 #[vA k n b s] w fun e w' => e = .returned (.int .i64 (chkE k n b s)) ∧ Below w.heap.size w w' := by
  have hrow := Lib.hid (heap_alloc_new w (.cells (vC k n b s) 26))
  have hb1 := Lib.hid ((Below.refl w.heap.size w).alloc (Nat.le_refl _) (.cells (vC k n b s) 26))
  have hV := Lib.hid (fun w => valid_any k n b s hk hb hs w)
  unfold chkE
  clear hk hb hs
  cases hv : validV k n b s
  all_goals
    rw [hv] at hV
    clear hv
    go_enter Tryd.func67, Tryd.ntmps67
    go_wp2_with (first | (go_at_call 76; (with_reducible refine (hV.out _).mono ?_); rintro e w2 ⟨rfl, hb2⟩; have hb2' := Lib.hid (hb1.out.trans (hb2.mono (by simp))); clear hb2) | (refine wpList_load_row_g rfl 26 _ rfl w.heap.size rfl 26 (vC k n b s) (0, 0) _ hrow.out Tryd.underlying26 rfl info_val ?_))
    go_ret
    exact ⟨rfl, hb2'.out⟩
theorem below_a (w : World) (o : Obj) : Below w.heap.size w (w.alloc o) := (Below.refl _ _).alloc (Nat.le_refl _) o
set_option maxHeartbeats 4000000 in
set_option maxRecDepth 100000 in
theorem rcheck_any (k n : Int) (b : Nat) (s : ByteArray) (hk : 0 ≤ k ∧ k < 256) (hb : b < 18446744073709551616) (hs : s.size ≤ 1000000) (w : World) :
    Calls Tryd.prog 82 #[vA k n b s] w fun e w' => e = .returned (.int .i64 (chkE k n b s)) ∧ Below w.heap.size w w' := by
  have hse := str_empty s
  by_cases h1 : k = 1
  · subst h1
    have e' := Lib.hid (show chkE 1 n b s = if (decide (b = 0) && decide (s.size = 0)) = true then 0 else 8 from rfl)
    generalize chkE 1 n b s = E at *
    clear hb hk hs
    go_enter Tryd.func82, Tryd.ntmps82
    go_wp2
    all_goals
      go_ret
      refine ⟨ret_int ?_, below_a _ _⟩
      rw [e'.out]
      simp_all
  by_cases h2 : k = 2
  · subst h2
    have hC := Lib.hid (fun w => rcanon_any b hb w)
    have e' := Lib.hid (show chkE 2 n b s = if (decide (n = 0) && (decide (canF b = b) && decide (s.size = 0))) = true then 0 else 8 from rfl)
    generalize chkE 2 n b s = E at *
    generalize canF b = D at *
    clear hb hk hs h1
    by_cases hn : n = 0 <;> by_cases hz : s.size = 0 <;> by_cases hD : D = b
    all_goals
      simp only [hz, decide_true, decide_false] at hse
      have e2 := e'.out
      clear e'
      simp only [hz, hn, hD, decide_true, decide_false, Bool.and_true, Bool.and_false, if_true, Bool.false_eq_true, if_false] at e2
      have e3 := Lib.hid e2
      clear e2
      have hDb : ((D : Int) == (b : Int)) = decide (D = b) := Bool.eq_iff_iff.2 (by simp; omega)
      try simp only [hD, decide_true, decide_false] at hDb
      have hn2 := Lib.hid hn
      go_enter Tryd.func82, Tryd.ntmps82
      go_wp2
      go_quiet ((go_at_call 93; exact Calls.quiet_of_same ((hC.out _).mono fun e w' ⟨he, hw⟩ => ⟨he, hw.symm⟩)))
      go_wp2
      go_ret
      exact ⟨ret_int e3.out.symm, ((Draws.refl _).drewN _).below (below_a _ _)⟩
  by_cases h3 : k = 3
  · subst h3
    have hC := Lib.hid (fun w => printable_any s hs w)
    have e' := Lib.hid (show chkE 3 n b s = if (decide (n = 0) && (decide (b = 0) && (decide (s.size ≤ 30) && okB (sI s)))) = true then 0 else 8 from rfl)
    generalize chkE 3 n b s = E at *
    clear hb hk hs h1 h2 hse
    cases okB (sI s)
    all_goals
      go_enter Tryd.func82, Tryd.ntmps82
      go_wp2_with (go_at_call 94; (with_reducible refine (hC.out _).mono ?_); rintro e w2 ⟨rfl, rfl⟩)
      all_goals
        go_ret
        refine ⟨ret_int ?_, below_a _ _⟩
        rw [e'.out]
        simp_all <;> first | omega | (intro h; omega)
  · have e' := Lib.hid (show chkE k n b s = 8 by unfold chkE validV; rw [if_neg h1, if_neg h2, if_neg h3]; rfl)
    have k1 : (k == 1) = false := by simpa using h1
    have k2 : (k == 2) = false := by simpa using h2
    have k3 : (k == 3) = false := by simpa using h3
    clear hb hk hs h1 h2 h3
    go_enter Tryd.func82, Tryd.ntmps82
    go_wp2
    go_ret
    exact ⟨ret_int e'.out.symm, below_a _ _⟩
end Go.Proofs.YtegffpjhdodldaaDoor.wir.val

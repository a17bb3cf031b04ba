/- Steps of the laws over values. -/
import Derived.Test.YtpklfohaifeboaaV10
namespace Go.Proofs.Ytpklfohaifeboaa
open Go.RowKit Go.Ytpklfohaifeboaa
set_option linter.unusedVariables false
theorem run_eqlV {a : Act} {o : Oper} (x y : Operand) (k n : Int) (b : Nat) (s : ByteArray) (k' n' : Int) (b' : Nat) (s' : ByteArray) (B : Bool) (ho : o.op = .binOp .eql 26 x y 26)
    (hx : a.eval x = vA k n b s) (hy : a.eval y = vA k' n' b' s') (h : eqB k n b s k' n' b' s' = B) : ∀ w, (execOp a.eval o).run Try.prog w = .ok (.value (.bool B)) w := by
  intro w; subst h
  have h0 : Try.prog.eqGuardType Try.prog.depth 26 = false := by kernel_rfl
  have hg := run_eqGuard_agg (P := Try.prog) w .eql 26 x y #[.int .u8 k, .int .i64 n, .int .u64 (b : Int), .string s] #[.int .u8 k', .int .i64 n', .int .u64 (b' : Int), .string s'] h0
  unfold execOp
  generalize a.eval = ev at *
  simp only [ho]
  simp only [hx, hy] at *
  have hb := bytes_eq s s'
  simp [go_sem, hx, hy, hb]
  clear hb h0 hx hy hg ho
  unfold eqB
  split
  · split
    · split
      · split <;> first | (simp_all; done) | (have := ‹(b : Int) = (b' : Int)›; simp_all; done) | (simp_all; omega)
      · simp_all <;> omega
    · simp_all
  · simp_all
theorem run_neqV {a : Act} {o : Oper} (x y : Operand) (k n : Int) (b : Nat) (s : ByteArray) (k' n' : Int) (b' : Nat) (s' : ByteArray) (B : Bool) (ho : o.op = .binOp .neq 26 x y 26)
    (hx : a.eval x = vA k n b s) (hy : a.eval y = vA k' n' b' s') (h : eqB k n b s k' n' b' s' = B) : ∀ w, (execOp a.eval o).run Try.prog w = .ok (.value (.bool (!B))) w := by
  intro w; subst h
  have h0 : Try.prog.eqGuardType Try.prog.depth 26 = false := by kernel_rfl
  have hg := run_eqGuard_agg (P := Try.prog) w .neq 26 x y #[.int .u8 k, .int .i64 n, .int .u64 (b : Int), .string s] #[.int .u8 k', .int .i64 n', .int .u64 (b' : Int), .string s'] h0
  unfold execOp
  generalize a.eval = ev at *
  simp only [ho]
  simp only [hx, hy] at *
  have hb := bytes_eq s s'
  simp [go_sem, hx, hy, hb]
  clear hb h0 hx hy hg ho
  unfold eqB
  split
  · split
    · split
      · split <;> first | (simp_all; done) | (have := ‹(b : Int) = (b' : Int)›; simp_all; done) | (simp_all; omega)
      · simp_all <;> omega
    · simp_all
  · simp_all
theorem wpList_run_g {P : Program} {ops : Array Oper} {rest : List Oper} {o : Oper} {a : Act} {w : World} {Q : Exit → Act → World → Prop} (hw : Region.wanted o (yielded ops a.tmps) = true) (v : Value)
    (hrun : ∀ w, (execOp a.eval o).run P w = .ok (.value v) w) (h : wpList P ops Q rest (a.put o.dst v) w) : wpList P ops Q (o :: rest) a w :=
  wpList_step fun K hK => by
    rw [if_pos hw]
    unfold Oper.wp
    rw [hrun w]
    exact hK _ _ h
theorem map_inj : ∀ (l m : List UInt8), l.map (fun c => (c.toNat : Int)) = m.map (fun c => (c.toNat : Int)) → l = m
  | [], [], _ => rfl
  | [], _ :: _, h => by simp at h
  | _ :: _, [], h => by simp at h
  | a :: l, b :: m, h => by
    simp only [List.map_cons, List.cons.injEq] at h
    have hab : a = b := UInt8.toNat_inj.1 (by omega)
    rw [hab, map_inj l m h.2]
theorem eqB_refl (k n : Int) (b : Nat) (s : ByteArray) : eqB k n b s k n b s = true := by simp [eqB]
/-- Two valid values of which neither comes before the other are the same. -/
theorem cmp_same (u v : Va) (fu : u.fit) (fv : v.fit) (hu : u.ok = true) (hv : v.ok = true) (h : u.cmp v = 0) : eqB u.k u.n u.b u.s v.k v.n v.b v.s = true := by
  obtain ⟨k, n, b, s⟩ := u
  obtain ⟨k', n', b', s'⟩ := v
  simp only [Va.cmp, cmpV, Va.ok, Va.fit] at *
  have k1 := valid_kind hu
  have k2 := valid_kind hv
  have hP : plP k n b = plP k' n' b' ∧ cmpF (sI s) (sI s') = 0 := by
    unfold orI at h
    split at h
    · rename_i h0
      refine ⟨?_, h⟩
      unfold cmpI at h0
      split at h0
      · cases h0
      · split at h0
        · cases h0
        · omega
    · contradiction
  obtain ⟨hP, hS⟩ := hP
  have hk := plP_kind k n b k' n' b' k1 k2 hP
  subst hk
  have hs : s = s' := by
    have h1 := cmp_zero _ _ hS
    have h2 : s.data.toList = s'.data.toList := by
      exact map_inj _ _ h1
    cases s; cases s'
    simp only [ByteArray.mk.injEq]
    exact Array.ext' h2
  subst hs
  rcases (show k = 1 ∨ k = 2 ∨ k = 3 by omega) with rfl | rfl | rfl
  · have hn := plP_num_inj n n' fu.n fv.n b b' hP
    subst hn
    unfold validB at hu hv
    rw [if_pos rfl] at hu hv
    simp only [Bool.and_eq_true, decide_eq_true_eq] at hu hv
    obtain ⟨rfl, _⟩ := hu
    obtain ⟨rfl, _⟩ := hv
    exact eqB_refl _ _ _ _
  · have hb := plP_flt_inj n n' b b' fu.b fv.b hP
    subst hb
    unfold validB at hu hv
    rw [if_neg (by decide), if_pos rfl] at hu hv
    simp only [Bool.and_eq_true, decide_eq_true_eq] at hu hv
    obtain ⟨rfl, _⟩ := hu
    obtain ⟨rfl, _⟩ := hv
    exact eqB_refl _ _ _ _
  · unfold validB at hu hv
    rw [if_neg (by decide), if_neg (by decide), if_pos rfl] at hu hv
    simp only [Bool.and_eq_true, decide_eq_true_eq] at hu hv
    obtain ⟨rfl, rfl, _⟩ := hu
    obtain ⟨rfl, rfl, _⟩ := hv
    exact eqB_refl _ _ _ _
theorem eqB_eq {k n : Int} {b : Nat} {s : ByteArray} {k' n' : Int} {b' : Nat} {s' : ByteArray} (h : eqB k n b s k' n' b' s' = true) : k = k' ∧ n = n' ∧ b = b' ∧ s = s' := by
  simpa [eqB] using h
theorem cmp_eqB (u v : Va) (fu : u.fit) (fv : v.fit) (hu : u.ok = true) (hv : v.ok = true) : eqB u.k u.n u.b u.s v.k v.n v.b v.s = (u.cmp v == 0) := by
  cases h : eqB u.k u.n u.b u.s v.k v.n v.b v.s
  · cases h2 : (u.cmp v == 0)
    · rfl
    · rw [cmp_same u v fu fv hu hv (by simpa using h2)] at h; cases h
  · obtain ⟨h1, h2, h3, h4⟩ := eqB_eq h
    obtain ⟨k, n, b, s⟩ := u
    obtain ⟨k', n', b', s'⟩ := v
    simp only at h1 h2 h3 h4
    subst h1 h2 h3 h4
    rw [cmpV_self]; rfl
theorem cmpI_in (a b : Int) : -1 ≤ cmpI a b ∧ cmpI a b ≤ 1 := by
  unfold cmpI; split
  · omega
  · split <;> omega
theorem cmpV_in (u v : Va) : -1 ≤ u.cmp v ∧ u.cmp v ≤ 1 := by
  unfold Va.cmp cmpV orI
  split
  · rcases cmp_range (sI u.s) (sI v.s) with h | h | h <;> omega
  · exact cmpI_in _ _
theorem cmpV_trans (u v z : Va) (h1 : u.cmp v ≤ 0) (h2 : v.cmp z ≤ 0) : u.cmp z ≤ 0 := by
  unfold Va.cmp cmpV at *
  generalize plP u.k u.n u.b = a at *
  generalize plP v.k v.n v.b = b at *
  generalize plP z.k z.n z.b = c at *
  have t := cmp_trans (sI u.s) (sI v.s) (sI z.s)
  generalize cmpF (sI u.s) (sI v.s) = p at *
  generalize cmpF (sI v.s) (sI z.s) = q at *
  generalize cmpF (sI u.s) (sI z.s) = r at *
  unfold orI cmpI at *
  rcases Int.lt_trichotomy a b with h | h | h
  · rw [if_pos h] at h1
    rcases Int.lt_trichotomy b c with g | g | g
    · rw [if_pos (show a < c by omega)]; simp
    · rw [if_pos (show a < c by omega)]; simp
    · simp only [if_neg (show ¬ b < c by omega), if_pos g] at h2
      exact absurd h2 (by simp)
  · subst h
    simp only [Int.lt_irrefl, if_false, if_true] at h1
    rcases Int.lt_trichotomy a c with g | g | g
    · rw [if_pos g]; simp
    · subst g
      simp only [Int.lt_irrefl, if_false, if_true] at h2 ⊢
      exact t h1 h2
    · simp only [if_neg (show ¬ a < c by omega), if_pos g] at h2
      exact absurd h2 (by simp)
  · simp only [if_neg (show ¬ a < b by omega), if_pos h] at h1
    exact absurd h1 (by simp)
end Go.Proofs.Ytpklfohaifeboaa

/- Texts that the row stands on, part 3. -/
import Derived.Test.YtfaojjleapenaabRWritesFq02
import Derived.OpenShut
import Derived.OpenVars
import Derived.ChangeSlices
import Derived.Lib.SmallJoins
import Derived.ChangeMaps5
namespace Go
namespace Ytfaojjleapenaab
set_option linter.unusedVariables false
section
variable {P : Program} {ops : Array Oper} {md : Region.Mode} {Q : Exit → Act → World → Prop}
/-- What an operation that ends well leaves: a value and a world, of which R is true. -/
def fxUpon (P : Program) (R : Value → World → Prop) : Result Next → Prop
  | .ok (.value v) w' => R v w'
  | .ok .skip w' => R undef w'
  | .ok (.enter f args) w' => Calls P f args w' fun e w'' => ∃ v, e = .returned v ∧ R v w''
  | _ => False
def FxStep (P : Program) (ops : Array Oper) (o : Oper) (a : Act) (w : World) (R : Value → World → Prop) : Prop :=
  if Region.wanted o (yielded ops a.tmps) = true then fxUpon P R ((execOp a.eval o).run P w) else R undef w
theorem fx_wpOp {i : Nat} {o : Oper} {a : Act} {w : World} {R : Value → World → Prop} {K : Act → World → Prop} (hi : ops[i]? = some o) (h : FxStep P ops o a w R) (hK : ∀ v w', R v w' → K (a.put o.dst v) w') : wpOp P ops Q i K a w := by
  unfold wpOp
  simp only [hi]
  unfold FxStep at h
  split
  · rename_i hw
    rw [if_pos hw] at h
    refine .inl ?_
    unfold Oper.wp
    generalize (execOp a.eval o).run P w = r at h
    cases r with
    | halt x w' => cases x <;> exact h.elim
    | ok nx w' =>
      cases nx with
      | value v => exact hK v w' h
      | skip => exact hK undef w' h
      | defer d => exact h.elim
      | row r a => exact h.elim
      | enter f args =>
        refine Calls.mono h fun e w'' he => ?_
        obtain ⟨v, rfl, hR⟩ := he
        exact hK v w'' hR
      | _ => exact h.elim
  · rename_i hw
    rw [if_neg hw] at h
    exact hK undef w h
/-- The frame: those of the first k operations that L names have put their values. -/
def fxF (ops : Array Oper) (vs : Nat → Value) (L : Nat → Bool) (a0 : Act) : Nat → Act
  | 0 => a0
  | k + 1 => if L k = true then (fxF ops vs L a0 k).put ((ops[k]?).bind (·.dst)) (vs k) else fxF ops vs L a0 k
abbrev fxT : Nat → Bool := fun _ => true
theorem put_tmps_ne (a : Act) (x : Option Tmp) (v : Value) (t : Tmp) (h : x ≠ some t) : (a.put x v).tmps[t]? = a.tmps[t]? := by
  cases x with
  | none => rfl
  | some d =>
    have hne : d ≠ t := fun e => h (by rw [e])
    simp [Act.put, Array.getElem?_setIfInBounds_ne hne]
theorem put_tmps_congr (a b : Act) (x : Option Tmp) (v : Value) (t : Tmp) (h : a.tmps[t]? = b.tmps[t]?) : (a.put x v).tmps[t]? = (b.put x v).tmps[t]? := by
  cases x with
  | none => exact h
  | some d =>
    by_cases e : d = t
    · subst e
      simp only [Act.put, Array.getElem?_setIfInBounds, if_true]
      have h1 : d < a.tmps.size ↔ d < b.tmps.size := by
        constructor
        · intro hl
          rw [Array.getElem?_eq_getElem hl] at h
          exact (Array.getElem?_eq_some_iff.1 h.symm).1
        · intro hl
          rw [Array.getElem?_eq_getElem hl] at h
          exact (Array.getElem?_eq_some_iff.1 h).1
      by_cases hl : d < a.tmps.size
      · rw [if_pos hl, if_pos (h1.1 hl)]
      · rw [if_neg hl, if_neg (fun h2 => hl (h1.2 h2))]
    · simp only [Act.put, Array.getElem?_setIfInBounds_ne e]; exact h
theorem eval_tmps (a b : Act) (x : Operand) (h : ∀ t, x = .tmp t → a.tmps[t]? = b.tmps[t]?) : a.eval x = b.eval x := by
  cases x with
  | tmp t => simp only [Act.eval, Array.getD_eq_getD_getElem?, h t rfl]
  | _ => rfl
/-- A slot that the operation i looks at: it has what the lexical order gives. -/
theorem fxF_look (vs : Nat → Value) (L : Nat → Bool) (a0 : Act) (n i : Nat) (hi : i ≤ n) (t : Tmp) (hl : ∀ j, j < n → (ops[j]?).bind (·.dst) = some t → (j < i → L j = true) ∧ (i ≤ j → L j = false)) :
    (fxF ops vs L a0 n).tmps[t]? = (fxF ops vs fxT a0 i).tmps[t]? := by
  have h1 : ∀ k, k ≤ i → (fxF ops vs L a0 k).tmps[t]? = (fxF ops vs fxT a0 k).tmps[t]? := by
    intro k
    induction k with
    | zero => intro _; rfl
    | succ k ih =>
      intro hk
      have ih := ih (by omega)
      simp only [fxF, fxT, if_true]
      by_cases hd : (ops[k]?).bind (·.dst) = some t
      · rw [if_pos ((hl k (by omega) hd).1 (by omega))]
        exact put_tmps_congr _ _ _ _ _ ih
      · rw [put_tmps_ne _ _ _ _ hd]
        split
        · rw [put_tmps_ne _ _ _ _ hd]; exact ih
        · exact ih
  have h2 : ∀ d, i + d ≤ n → (fxF ops vs L a0 (i + d)).tmps[t]? = (fxF ops vs L a0 i).tmps[t]? := by
    intro d
    induction d with
    | zero => intro _; rfl
    | succ d ih =>
      intro hk
      rw [← ih (by omega)]
      show (fxF ops vs L a0 (i + d + 1)).tmps[t]? = _
      simp only [fxF]
      split
      · rename_i hL
        refine put_tmps_ne _ _ _ _ fun hd => ?_
        rw [(hl (i + d) (by omega) hd).2 (by omega)] at hL; cases hL
      · rfl
  have := h2 (n - i) (by omega)
  rw [show i + (n - i) = n by omega] at this
  rw [this, h1 i (Nat.le_refl _)]
theorem fxF_agree (vs vs' : Nat → Value) (L L' : Nat → Bool) (a0 : Act) (k : Nat) (h : ∀ j, j < k → L j = L' j ∧ (L j = true → vs j = vs' j)) : fxF ops vs L a0 k = fxF ops vs' L' a0 k := by
  induction k with
  | zero => rfl
  | succ k ih =>
    have h1 := h k (Nat.lt_succ_self _)
    simp only [fxF]
    rw [ih fun j hj => h j (by omega), ← h1.1]
    split
    · rename_i hL; rw [h1.2 hL]
    · rfl
theorem fxF_put (vs : Nat → Value) (L : Nat → Bool) (a0 : Act) (n i : Nat) (v : Value) (hin : i < n) (hL : L i = false) (hd : ∀ k, i < k → k < n → L k = true → ∀ d, (ops[i]?).bind (·.dst) = some d → (ops[k]?).bind (·.dst) ≠ some d) :
    (fxF ops vs L a0 n).put ((ops[i]?).bind (·.dst)) v = fxF ops (fun j => if j = i then v else vs j) (fun j => if j = i then true else L j) a0 n := by
  have key : ∀ d, i + 1 + d ≤ n → (fxF ops vs L a0 (i + 1 + d)).put ((ops[i]?).bind (·.dst)) v = fxF ops (fun j => if j = i then v else vs j) (fun j => if j = i then true else L j) a0 (i + 1 + d) := by
    intro d
    induction d with
    | zero =>
      intro _
      simp only [fxF, Nat.add_zero, if_true, hL]
      rw [if_neg (by decide)]
      congr 1
      exact fxF_agree _ _ _ _ _ _ fun j hj => by
        have hne : j ≠ i := by omega
        simp [hne]
    | succ d ih =>
      intro hk
      have ih := ih (by omega)
      have hne : i + 1 + d ≠ i := by omega
      show (fxF ops vs L a0 (i + 1 + d + 1)).put _ v = fxF ops _ _ a0 (i + 1 + d + 1)
      simp only [fxF, if_neg hne]
      by_cases hLk : L (i + 1 + d) = true
      · rw [if_pos hLk, if_pos hLk, ← ih]
        exact (Act.put_comm _ _ _ fun d' hd' hd2 => hd (i + 1 + d) (by omega) (by omega) hLk d' hd2 hd').trans rfl
      · rw [if_neg hLk, if_neg hLk]; exact ih
  have := key (n - (i + 1)) (by omega)
  rwa [show i + 1 + (n - (i + 1)) = n by omega] at this
/-- The waiting of the operations, and the frames, as' they are to be; A names for each operation all that must come before it. -/
def fxB (ops : Array Oper) (n : Nat) (A : List (List Nat)) : Bool :=
  Region.noSelect ops && decide (n ≤ ops.size) &&
  ((List.range ops.size).all fun i => match ops[i]? with
    | none => true
    | some o => (o.after.all fun e => !Region.binds .any e || decide (e.on < i)) && ((A.getD i []).all fun j => decide (j < i) && o.after.any fun e => Region.binds .any e && (e.on == j || (A.getD e.on []).contains j))) &&
  ((List.range ops.size).all fun i => decide (i < n) || (List.range n).all fun j => (A.getD i []).contains j) &&
  ((List.range n).all fun i => match ops[i]? with
    | none => true
    | some o => (List.range n).all fun j => match (ops[j]?).bind (·.dst) with
      | none => true
      | some d => (!(o.looksAt ops).contains d || (decide (j < i) && (A.getD i []).contains j) || (decide (i < j) && (A.getD j []).contains i) || decide (j = i)) &&
        (!(o.dst == some d) || decide (j ≤ i) || (A.getD j []).contains i)) &&
  Region.seqB .any ops (ops.size - n) n ((Array.replicate n true) ++ (Array.replicate (ops.size - n) false))
structure FxOk (ops : Array Oper) (n : Nat) (A : List (List Nat)) : Prop where
  sel : Region.noSelect ops = true
  le : n ≤ ops.size
  aft : ∀ i o, ops[i]? = some o → ∀ e ∈ o.after, Region.binds .any e = true → e.on < i
  anc : ∀ i o, ops[i]? = some o → ∀ j ∈ A.getD i [], j < i ∧ ∃ e ∈ o.after, Region.binds .any e = true ∧ (e.on = j ∨ j ∈ A.getD e.on [])
  tail : ∀ i, n ≤ i → i < ops.size → ∀ j, j < n → j ∈ A.getD i []
  look : ∀ i o j d, i < n → j < n → ops[i]? = some o → (ops[j]?).bind (·.dst) = some d → d ∈ o.looksAt ops → (j < i ∧ j ∈ A.getD i []) ∨ (i < j ∧ i ∈ A.getD j []) ∨ j = i
  dst : ∀ i o j d, i < n → j < n → ops[i]? = some o → (ops[j]?).bind (·.dst) = some d → o.dst = some d → i < j → i ∈ A.getD j []
  seq : Region.seqB .any ops (ops.size - n) n ((Array.replicate n true) ++ (Array.replicate (ops.size - n) false)) = true
theorem fxB_ok {n : Nat} {A : List (List Nat)} (h : fxB ops n A = true) : FxOk ops n A := by
  unfold fxB at h
  simp only [Bool.and_eq_true, decide_eq_true_eq] at h
  obtain ⟨⟨⟨⟨⟨h1, h2⟩, h3⟩, h4⟩, h5⟩, h6⟩ := h
  refine ⟨h1, h2, fun i o ho e he hb => ?_, fun i o ho j hj => ?_, fun i hi hs j hj => ?_, fun i o j d hi hj ho hd hl => ?_, fun i o j d hi hj ho hd hl hij => ?_, h6⟩
  · have hi := (Array.getElem?_eq_some_iff.1 ho).1
    have k := List.all_eq_true.1 h3 i (List.mem_range.2 hi)
    simp only [ho, Bool.and_eq_true] at k
    have k1 := Array.all_eq_true'.1 k.1 e he
    simpa [hb] using k1
  · have hi := (Array.getElem?_eq_some_iff.1 ho).1
    have k := List.all_eq_true.1 h3 i (List.mem_range.2 hi)
    simp only [ho, Bool.and_eq_true] at k
    have k1 := List.all_eq_true.1 k.2 j hj
    simp only [Bool.and_eq_true, decide_eq_true_eq] at k1
    refine ⟨k1.1, ?_⟩
    obtain ⟨e, he, hb⟩ := Array.any_eq_true'.1 k1.2
    simp only [Bool.and_eq_true, Bool.or_eq_true, beq_iff_eq, List.contains_iff_mem] at hb
    exact ⟨e, he, hb.1, hb.2⟩
  · have k := List.all_eq_true.1 h4 i (List.mem_range.2 hs)
    rw [Bool.or_eq_true, decide_eq_true_eq] at k
    rcases k with k | k
    · omega
    · have := List.all_eq_true.1 k j (List.mem_range.2 hj)
      simpa using this
  · have k := List.all_eq_true.1 h5 i (List.mem_range.2 hi)
    simp only [ho] at k
    have k1 := List.all_eq_true.1 k j (List.mem_range.2 hj)
    simp only [hd, Bool.and_eq_true] at k1
    have k2 := k1.1
    simp only [Bool.or_eq_true, Bool.and_eq_true, decide_eq_true_eq, List.contains_iff_mem, Bool.not_eq_true'] at k2
    rcases k2 with ((k2 | k2) | k2) | k2
    · have : (o.looksAt ops).contains d = true := by simpa using hl
      rw [this] at k2; cases k2
    · exact .inl k2
    · exact .inr (.inl k2)
    · exact .inr (.inr k2)
  · have k := List.all_eq_true.1 h5 i (List.mem_range.2 hi)
    simp only [ho] at k
    have k1 := List.all_eq_true.1 k j (List.mem_range.2 hj)
    simp only [hd, Bool.and_eq_true] at k1
    have k2 := k1.2
    simp only [Bool.or_eq_true, decide_eq_true_eq, List.contains_iff_mem, Bool.not_eq_true'] at k2
    rcases k2 with (k2 | k2) | k2
    · rw [hl] at k2; simp at k2
    · omega
    · exact k2
theorem looks_tmp {o : Oper} {t : Tmp} (h : .tmp t ∈ o.op.operands) : t ∈ o.looksAt ops := by
  unfold Oper.looksAt
  rw [List.mem_append]
  refine .inl ?_
  rw [List.mem_filterMap]
  exact ⟨.tmp t, by simpa using h, rfl⟩
theorem looks_guard {o : Oper} {g : Nat} {b : Bool} (h : o.guard = some (g, b)) {t : Tmp} (ht : (ops[g]?).bind (·.dst) = some t) : t ∈ o.looksAt ops := by
  unfold Oper.looksAt
  rw [List.mem_append]
  refine .inr ?_
  simp [h, ht]
theorem fx_same {o : Oper} (hs : ∀ cs b, o.op ≠ .select cs b) (a b : Act) (h : ∀ t, t ∈ o.looksAt ops → a.tmps[t]? = b.tmps[t]?) (w : World) (R : Value → World → Prop) : FxStep P ops o a w R = FxStep P ops o b w R := by
  have h1 : execOp a.eval o = execOp b.eval o := execOp_congr o hs fun x hx => eval_tmps a b x fun t ht => h t (looks_tmp (by rw [← ht]; exact hx))
  have h2 : Region.wanted o (yielded ops a.tmps) = Region.wanted o (yielded ops b.tmps) := by
    unfold Region.wanted
    cases hg : o.guard with
    | none => rfl
    | some gw =>
      obtain ⟨g, wnt⟩ := gw
      simp only
      have h3 : yielded ops a.tmps g = yielded ops b.tmps g := by
        unfold yielded
        cases hd : (ops[g]?).bind (·.dst) with
        | none => rfl
        | some t => simp only [Option.bind_some, h t (looks_guard hg hd)]
      rw [h3]
  unfold FxStep
  rw [h1, h2]
theorem anc_listed {n : Nat} {A : List (List Nat)} (hB : FxOk ops n A) {listed : Array Bool} (cl : Closed .any ops listed) :
    ∀ i o, ops[i]? = some o → (∀ e ∈ o.after, Region.binds .any e = true → listed.getD e.on false = true) → ∀ j ∈ A.getD i [], listed.getD j false = true := by
  intro i
  induction i using Nat.strongRecOn with
  | _ i ih =>
    intro o ho hall j hj
    obtain ⟨_, e, he, hb, h | h⟩ := hB.anc i o ho j hj
    · rw [← h]; exact hall e he hb
    · have hon := hB.aft i o ho e he hb
      have hlt : e.on < ops.size := Nat.lt_trans hon (Array.getElem?_eq_some_iff.1 ho).1
      exact ih e.on hon _ (Array.getElem?_eq_getElem hlt) (fun e2 he2 hb2 => cl.2 _ _ (Array.getElem?_eq_getElem hlt) (hall e he hb) e2 he2 hb2) j h
/-- How many of the first n are not listed. -/
def fxLeft (listed : Array Bool) (n : Nat) : Nat := ((List.range n).filter fun j => !listed.getD j false).length
theorem fxLeft_set {listed : Array Bool} {n i : Nat} (hi : i < n) (hs : i < listed.size) (h : listed.getD i false = false) : fxLeft (listed.setIfInBounds i true) n + 1 = fxLeft listed n := by
  have gi : (listed.setIfInBounds i true).getD i false = true := by simp [hs]
  have go : ∀ j, j ≠ i → (listed.setIfInBounds i true).getD j false = listed.getD j false := fun j hj => getD_set_ne false (fun e => hj e.symm)
  have key : ∀ m, fxLeft (listed.setIfInBounds i true) m + (if i < m then 1 else 0) = fxLeft listed m := by
    intro m
    induction m with
    | zero => rfl
    | succ m ih =>
      unfold fxLeft at ih ⊢
      rw [List.range_succ, List.filter_append, List.filter_append, List.length_append, List.length_append, ← ih]
      by_cases e : m = i
      · subst e
        rw [if_neg (Nat.lt_irrefl m), if_pos (Nat.lt_succ_self m)]
        simp only [List.filter_cons, List.filter_nil, gi, h, Bool.not_true, Bool.not_false, if_true, Bool.false_eq_true, if_false, List.length_nil, List.length_cons]
      · rw [show (if i < m + 1 then 1 else 0) = (if i < m then 1 else 0) by
          by_cases h1 : i < m
          · rw [if_pos h1, if_pos (by omega)]
          · rw [if_neg h1, if_neg (by omega)]]
        simp only [List.filter_cons, List.filter_nil, go m e]
        omega
  have := key n
  rw [if_pos hi] at this
  exact this
theorem fxLeft_zero {listed : Array Bool} {n : Nat} (h : fxLeft listed n = 0) : ∀ j, j < n → listed.getD j false = true := fun j hj => by
  have h1 := List.eq_nil_of_length_eq_zero h
  rw [List.filter_eq_nil_iff] at h1
  simpa using h1 j (List.mem_range.2 hj)
theorem fxLeft_pos {listed : Array Bool} {n : Nat} (h : fxLeft listed n ≠ 0) : ∃ j, j < n ∧ listed.getD j false = false := by
  refine Classical.byContradiction fun hn => h ?_
  unfold fxLeft
  rw [List.length_eq_zero_iff, List.filter_eq_nil_iff]
  intro j hj
  have hj := List.mem_range.1 hj
  cases hb : listed.getD j false with
  | true => simp
  | false => exact absurd ⟨j, hj, hb⟩ hn
/-- The operation i may come behind j, if j does not have to come behind i. -/
def fxAfter (A : List (List Nat)) (i j : Nat) : Bool := decide (i ≠ j) && !(A.getD j []).contains i
/-- The operation i may come before j. -/
def fxBefore (A : List (List Nat)) (i j : Nat) : Bool := decide (i ≠ j) && !(A.getD i []).contains j
section
variable {n : Nat} {A : List (List Nat)} {Ψ : Nat → World → Prop} {Φ : Nat → Value → World → Prop} {G : Nat → World → World → Prop} {Inv : World → Prop} {a0 : Act}
theorem fx_any (hB : FxOk ops n A) (hI : ∀ i w w', i < n → Inv w → G i w w' → Inv w')
    (hG : ∀ i j v w w', i < n → j < n → fxAfter A i j = true → Inv w → Φ j v w → G i w w' → Φ j v w')
    (hP : ∀ i j w w', i < n → j < n → fxBefore A i j = true → Inv w → Ψ j w → G i w w' → Ψ j w')
    (hstep : ∀ i o vs w, i < n → ops[i]? = some o → Inv w → Ψ i w → (∀ j, j ∈ A.getD i [] → Φ j (vs j) w) → FxStep P ops o (fxF ops vs fxT a0 i) w fun v w' => Φ i v w' ∧ G i w w')
    (hdone : ∀ vs w, Inv w → (∀ j, j < n → Φ j (vs j) w) → wpList P ops Q (ops.toList.drop n) (fxF ops vs fxT a0 n) w) :
    ∀ (d : Nat) (listed : Array Bool) (vs : Nat → Value) (w : World), Closed .any ops listed → (∀ j, n ≤ j → j < ops.size → listed.getD j false = false) → fxLeft listed n = d → Inv w → (∀ j, j < n → listed.getD j false = false → Ψ j w) →
      (∀ j, j < n → listed.getD j false = true → Φ j (vs j) w) → wpAny P .any ops Q (d + (ops.size - n)) listed (fxF ops vs (fun j => listed.getD j false) a0 n) w := by
  intro d
  induction d with
  | zero =>
    intro listed vs w cl hout hleft hinv hpre hf
    have hall := fxLeft_zero hleft
    have hL : listed = (Array.replicate n true) ++ (Array.replicate (ops.size - n) false) := by
      refine Array.ext (by rw [cl.1]; have := hB.le; simp; omega) fun j hj1 hj2 => ?_
      have e : listed.getD j false = listed[j] := by simp [Array.getD, hj1]
      rw [← e]
      by_cases hjn : j < n
      · rw [hall j hjn, Array.getElem_append_left (by simpa using hjn)]; simp
      · rw [hout j (by omega) (by rw [← cl.1]; exact hj1), Array.getElem_append_right (by simpa using hjn)]; simp
    have hfr : fxF ops vs (fun j => listed.getD j false) a0 n = fxF ops vs fxT a0 n := fxF_agree _ _ _ _ _ _ fun j hj => ⟨hall j hj, fun _ => rfl⟩
    rw [hfr, Nat.zero_add]
    have hlen : (ops.toList.drop n).length = ops.size - n := by simp
    have h := wpAny_of_seq (P := P) (ops := ops) (md := .any) (Q' := Q) (ops.toList.drop n) n listed (fxF ops vs fxT a0 n) w (fun j => by simp [List.getElem?_drop]) (by rw [hlen, hL]; exact hB.seq) (hdone vs w hinv fun j hj => hf j hj (hall j hj))
    rwa [hlen] at h
  | succ d ih =>
    intro listed vs w cl hout hleft hinv hpre hf
    rw [show d + 1 + (ops.size - n) = (d + (ops.size - n)) + 1 by omega]
    refine ⟨fun hnil => ?_, fun i hi => ?_⟩
    · exfalso
      obtain ⟨j, hj, hju⟩ := fxLeft_pos (listed := listed) (n := n) (by omega)
      have hex : ∃ j, j ∈ Region.ready .any ops listed := by
        clear hnil
        induction j using Nat.strongRecOn with
        | _ j jh =>
          have hlt : j < ops.size := Nat.lt_of_lt_of_le hj hB.le
          by_cases ha : ∀ e ∈ ops[j].after, Region.binds .any e = true → listed.getD e.on false = true
          · refine ⟨j, mem_ready.2 ⟨?_, _, Array.getElem?_eq_getElem hlt, ha⟩⟩
            have hjs : j < listed.size := by rw [cl.1]; exact hlt
            simp [Array.getD, hjs] at hju ⊢
            exact hju
          · obtain ⟨e, he⟩ := Classical.not_forall.1 ha
            obtain ⟨he1, he2⟩ := Classical.not_imp.1 he
            obtain ⟨hb, hu⟩ := Classical.not_imp.1 he2
            have hon := hB.aft j _ (Array.getElem?_eq_getElem hlt) e he1 hb
            exact jh e.on hon (by omega) (by simpa using hu)
      obtain ⟨j', hj'⟩ := hex
      rw [hnil] at hj'; cases hj'
    · obtain ⟨hiu, o, ho, hall⟩ := mem_ready.1 hi
      have his : i < ops.size := (Array.getElem?_eq_some_iff.1 ho).1
      have hils : i < listed.size := by rw [cl.1]; exact his
      have hif : listed.getD i false = false := by simp [Array.getD, hils] at hiu ⊢; exact hiu
      have hanc := anc_listed hB cl i o ho hall
      rcases Nat.lt_or_ge i n with hin | hin
      · have hlk : ∀ t, t ∈ o.looksAt ops → (fxF ops vs (fun j => listed.getD j false) a0 n).tmps[t]? = (fxF ops vs fxT a0 i).tmps[t]? := fun t ht =>
          fxF_look vs _ a0 n i (Nat.le_of_lt hin) t fun j hj hd => by
            rcases hB.look i o j t hin hj ho hd ht with ⟨h1, h2⟩ | ⟨h1, h2⟩ | h1
            · exact ⟨fun _ => hanc j h2, fun h => by omega⟩
            · refine ⟨fun h => by omega, fun _ => ?_⟩
              cases hb : listed.getD j false with
              | false => rfl
              | true =>
                have hjs : j < ops.size := Nat.lt_of_lt_of_le hj hB.le
                have := anc_listed hB cl j _ (Array.getElem?_eq_getElem hjs) (fun e he hb2 => cl.2 j _ (Array.getElem?_eq_getElem hjs) hb e he hb2) i h2
                rw [hif] at this; cases this
            · subst h1; exact ⟨fun h => by omega, fun _ => hif⟩
        have hsel : ∀ cs b, o.op ≠ .select cs b := fun cs b => Region.noSelect_spec hB.sel i o cs b ho
        have hst := hstep i o vs w hin ho hinv (hpre i hin hif) fun j hj => hf j (by have := (hB.anc i o ho j hj).1; omega) (hanc j hj)
        rw [← fx_same hsel _ _ hlk] at hst
        refine fx_wpOp ho hst fun v w' ⟨hΦ, hg⟩ => ?_
        have hdd : o.dst = (ops[i]?).bind (·.dst) := by rw [ho]; rfl
        have hfp := fxF_put (ops := ops) vs (fun j => listed.getD j false) a0 n i v hin hif fun k hk hkn hLk d' hd' hd2 => by
          have hks : k < ops.size := Nat.lt_of_lt_of_le hkn hB.le
          rw [ho] at hd'
          have h2 := hB.dst i o k d' hin hkn ho hd2 hd' hk
          have := anc_listed hB cl k _ (Array.getElem?_eq_getElem hks) (fun e he hb2 => cl.2 k _ (Array.getElem?_eq_getElem hks) hLk e he hb2) i h2
          rw [hif] at this; cases this
        rw [hdd, hfp]
        have hfr : fxF ops (fun j => if j = i then v else vs j) (fun j => if j = i then true else listed.getD j false) a0 n = fxF ops (fun j => if j = i then v else vs j) (fun j => (listed.setIfInBounds i true).getD j false) a0 n := fxF_agree _ _ _ _ _ _ fun j hj => by
          refine ⟨?_, fun _ => rfl⟩
          by_cases e : j = i
          · subst e; simp [hils]
          · rw [if_neg e, getD_set_ne false (fun h => e h.symm)]
        rw [hfr]
        refine ih _ _ _ (cl.set hi) (fun j h1 h2 => ?_) ?_ (hI i w w' hin hinv hg) (fun j hj hjl => ?_) fun j hj hjl => ?_
        · rw [getD_set_ne false (by omega)]; exact hout j h1 h2
        · have := fxLeft_set hin hils hif; omega
        · by_cases e : j = i
          · subst e; simp [hils] at hjl
          · rw [getD_set_ne false (fun h => e h.symm)] at hjl
            refine hP i j w w' hin hj ?_ hinv (hpre j hj hjl) hg
            unfold fxBefore
            have hni : j ∉ A.getD i [] := fun hm => by rw [hanc j hm] at hjl; cases hjl
            rw [Bool.and_eq_true, decide_eq_true_eq]
            exact ⟨fun h => e h.symm, by simpa using hni⟩
        · by_cases e : j = i
          · subst e; simp only [if_true]; exact hΦ
          · simp only [if_neg e]
            rw [getD_set_ne false (fun h => e h.symm)] at hjl
            refine hG i j (vs j) w w' hin hj ?_ hinv (hf j hj hjl) hg
            unfold fxAfter
            have hjs : j < ops.size := Nat.lt_of_lt_of_le hj hB.le
            have hni : i ∉ A.getD j [] := fun hm => by
              have := anc_listed hB cl j _ (Array.getElem?_eq_getElem hjs) (fun e he hb2 => cl.2 j _ (Array.getElem?_eq_getElem hjs) hjl e he hb2) i hm
              rw [hif] at this; cases this
            rw [Bool.and_eq_true, decide_eq_true_eq]
            exact ⟨fun h => e h.symm, by simpa using hni⟩
      · exfalso
        obtain ⟨j, hj, hju⟩ := fxLeft_pos (listed := listed) (n := n) (by omega)
        have := hanc j (hB.tail i hin his j hj)
        rw [hju] at this; cases this
/-- **A region that draws its order**: one fact for each of its first n operations, kept by all that may come behind it; what comes behind them is walked as' a list. -/
theorem wp_region_fx {id : Nat} {w : World} {l : List Oper} (n : Nat) (A : List (List Nat)) (hm : P.follows .mixedOrders = true) (hB : fxB l.toArray n A = true)
    (Φ : Nat → Value → World → Prop) (G : Nat → World → World → Prop) (Inv : World → Prop) (Ψ : Nat → World → Prop) (h0 : Inv { w with drawn := w.drawn + 1 }) (hp0 : ∀ j, j < n → Ψ j { w with drawn := w.drawn + 1 })
    (hI : ∀ i w w', i < n → Inv w → G i w w' → Inv w')
    (hG : ∀ i j v w w', i < n → j < n → fxAfter A i j = true → Inv w → Φ j v w → G i w w' → Φ j v w')
    (hP : ∀ i j w w', i < n → j < n → fxBefore A i j = true → Inv w → Ψ j w → G i w w' → Ψ j w')
    (hstep : ∀ i o vs w, i < n → l.toArray[i]? = some o → Inv w → Ψ i w → (∀ j, j ∈ A.getD i [] → Φ j (vs j) w) → FxStep P l.toArray o (fxF l.toArray vs fxT a0 i) w fun v w' => Φ i v w' ∧ G i w w')
    (hdone : ∀ vs w, Inv w → (∀ j, j < n → Φ j (vs j) w) → wpList P l.toArray Q (l.drop n) (fxF l.toArray vs fxT a0 n) w) : (Code.region id l.toArray true).wp P Q a0 w := by
  have hk := fxB_ok hB
  have cl0 : Closed .any l.toArray (Array.replicate l.toArray.size false) := ⟨by simp, fun j oj _ hl => (by rw [getD_replicate_false] at hl; cases hl)⟩
  have hl0 : fxLeft (Array.replicate l.toArray.size false) n = n := by
    unfold fxLeft
    rw [List.filter_eq_self.2 (fun j _ => by rw [getD_replicate_false]; rfl), List.length_range]
  have h := fx_any (a0 := a0) hk hI hG hP hstep (fun vs w h1 h2 => by simpa using hdone vs w h1 h2) n (Array.replicate l.toArray.size false) (fun _ => undef) { w with drawn := w.drawn + 1 } cl0 (fun j _ _ => getD_replicate_false _ _) hl0 h0 (fun j hj _ => hp0 j hj) (fun j _ hl => by rw [getD_replicate_false] at hl; cases hl)
  have hfr : fxF l.toArray (fun _ => undef) (fun j => (Array.replicate l.toArray.size false).getD j false) a0 n = a0 := by
    have : ∀ k, fxF l.toArray (fun _ => undef) (fun j => (Array.replicate l.toArray.size false).getD j false) a0 k = a0 := by
      intro k
      induction k with
      | zero => rfl
      | succ k ih =>
        show (if (Array.replicate l.toArray.size false).getD k false = true then _ else _) = a0
        rw [getD_replicate_false, if_neg (by decide)]; exact ih
    exact this n
  rw [hfr, show n + (l.toArray.size - n) = l.toArray.size by have := hk.le; omega] at h
  exact wp_region_any hm h
end
/-- The last of the first i operations that puts its value into the slot t. -/
def fxLast (ops : Array Oper) (t : Tmp) : Nat → Option Nat
  | 0 => none
  | k + 1 => if ((ops[k]?).bind (·.dst) == some t) = true then some k else fxLast ops t k
theorem fx_old {vs : Nat → Value} {a0 : Act} {t : Tmp} : ∀ i, fxLast ops t i = none → (fxF ops vs fxT a0 i).eval (.tmp t) = a0.eval (.tmp t)
  | 0, _ => rfl
  | k + 1, h => by
    unfold fxLast at h
    split at h
    · cases h
    · rename_i hd
      simp only [fxF, fxT, if_true]
      rw [eval_tmps _ (fxF ops vs fxT a0 k) (.tmp t) (fun t' e => by
        injection e with e
        subst e
        exact put_tmps_ne _ _ _ _ (by simpa using hd))]
      exact fx_old k h
theorem fxF_size {vs : Nat → Value} {a0 : Act} (k : Nat) : (fxF ops vs fxT a0 k).tmps.size = a0.tmps.size := by
  induction k with
  | zero => rfl
  | succ k ih =>
    simp only [fxF, fxT, if_true]
    cases (ops[k]?).bind (·.dst) with
    | none => exact ih
    | some d => simp [Act.put, ih]
theorem fx_new {vs : Nat → Value} {a0 : Act} {t : Tmp} {j : Nat} (ht : t < a0.tmps.size) : ∀ i, fxLast ops t i = some j → (fxF ops vs fxT a0 i).eval (.tmp t) = vs j
  | 0, h => by cases h
  | k + 1, h => by
    unfold fxLast at h
    simp only [fxF, fxT, if_true]
    split at h
    · rename_i hd
      injection h with h
      subst h
      rw [show (ops[k]?).bind (·.dst) = some t by simpa using hd]
      have hs : t < (fxF ops vs fxT a0 k).tmps.size := by rw [fxF_size]; exact ht
      simp [Act.eval, Act.put, Array.getD_eq_getD_getElem?, hs]
    · rename_i hd
      rw [eval_tmps _ (fxF ops vs fxT a0 k) (.tmp t) (fun t' e => by
        injection e with e
        subst e
        exact put_tmps_ne _ _ _ _ (by simpa using hd))]
      exact fx_new ht k h
section
variable {o : Oper} {a : Act} {w : World} {R : Value → World → Prop}
theorem fx_val {v : Value} {w' : World} (hw : Region.wanted o (yielded ops a.tmps) = true) (h : (execOp a.eval o).run P w = .ok (.value v) w') (hR : R v w') : FxStep P ops o a w R := by
  unfold FxStep
  rw [if_pos hw, h]
  exact hR
theorem fx_move (x : Operand) (hg : o.guard = none) (ho : o.op = .move x) (hR : R (a.eval x) w) : FxStep P ops o a w R :=
  fx_val (v := a.eval x) (w' := w) (by simp [Region.wanted, hg]) (by unfold execOp; simp [ho, go_sem]) hR
end
end
end Ytfaojjleapenaab
end Go
namespace Go.Proofs.Ytfaojjleapenaab
open Go.RowKit Go.Ytfaojjleapenaab
set_option linter.unusedVariables false
theorem setRow_sameF {w : World} {g : Nat} {cs : Array Value} {t : TypeId} {fr : Nat × Nat} (h : w.heap[g]? = some (.cells cs t fr)) : w.setRow g cs = w := by
  have e : (w.setRow g cs).heap = w.heap := by
    apply Array.ext_getElem?
    intro i
    by_cases hi : i = g
    · subst hi; rw [setRow_heap _ _ _ cs _ _ h, h]
    · exact setRow_other w g i cs hi
  unfold World.setRow at e ⊢
  simp only at e
  rw [e]
theorem run_clone {P : Program} (w : World) (B : Nat) (t ty e : TypeId) (i : TypeInfo) (z : Value) (size bytes : Nat) (ht : P.underlying t = some (.slice e)) (hi : P.info? e = some i) (hz : i.zero = some z)
    (hsize : i.size = size) (hby : i.bytes = bytes) (hzs : z.cells.size = size) (hsz : 0 < size) (g : Nat) (hg : w.heap[g]? = some (.cells #[] e (0, 0))) (hB : B ≤ g)
    (a : Addr) (m c : Nat) (news : List Value) (hl : news.length = m * size) (hnews : ∀ j u, news[j]? = some u → w.cell? (a.add j) = some u) (h1 : ∀ u ∈ news, u.oneCell' = true)
    (h63 : m ≤ maxLen) (hbytes : m * bytes ≤ 140737488355328) :
    ∃ v' w', (Builtin.append_ #[t, t] ty #[.slice (some ⟨g, 0, none⟩) 0 0, .slice (some a) m c]).run P w = .ok v' w' ∧ w'.ownsRow B e size v' m news ∧ Below w.heap.size w w' := by
  subst hsize
  subst hby
  have hgl := (Array.getElem?_eq_some_iff.1 hg).1
  by_cases hm : m = 0
  · subst hm
    have hn : news = [] := List.eq_nil_of_length_eq_zero (by simpa using hl)
    subst hn
    have hr := run_append_room (P := P) w t ty e i ht hi g 0 0 #[] hg a 0 c [] hl hnews h1 (Nat.le_refl _) (by simp)
    have hs : w.setRow g #[] = w := setRow_sameF hg
    refine ⟨_, _, hr, ?_, ?_⟩
    · simp only [List.append_nil, List.take_nil, List.drop_nil, List.append_nil]
      rw [show ([] : List Value).toArray = #[] from rfl]
      first
        | (rw [hs]; exact ⟨by simp, .inr ⟨g, 0, #[], rfl, hB, hg, Nat.le_refl _, by decide, by simp, by simp⟩⟩)
        | (refine ⟨by simp, .inr ⟨g, 0, _, rfl, hB, setRow_heap w g #[] _ e _ hg, Nat.le_refl _, by decide, by simp, by simp⟩⟩)
    · have : (w.setRow g (([] : List Value)).toArray) = w := hs
      first
        | (simp only [List.append_nil, List.take_nil, List.drop_nil]; rw [this]; exact Below.refl _ _)
        | (rw [show _ = w from hs]; exact Below.refl _ _)
  · have hmx := h63
    unfold maxLen at hmx
    have hr := run_append_grow (P := P) w t ty e i z ht hi hz ⟨g, 0, none⟩ 0 0 [] (by simp) (fun j u h => by cases h) a m c news hl hnews (by omega) (by omega) (growslice_fits (by omega) (by simpa using hbytes))
    have hge := grownCap_ge w (0 + m) 0 e
    have hcm : grownCap w (0 + m) 0 e ≤ maxLen := grownCap_le_maxLen w (0 + m) 0 e (by simpa using h63)
    refine ⟨_, _, hr, ⟨by simpa using hl, .inr ⟨w.heap.size, grownCap w (0 + m) 0 e, _, by simp, Nat.le_of_lt (Nat.lt_of_le_of_lt hB hgl), heap_alloc_new w.drew _, by simpa using hge, hcm, ?_, ?_⟩⟩, ((Below.refl w.heap.size w).drew).alloc (Nat.le_refl _) _⟩
    · simp only [Array.size_append, List.size_toArray, size_zeroCells, hzs, hl, ← Nat.add_mul, List.length_nil, Nat.zero_add, List.nil_append, Array.size_empty]
      have hge' : m ≤ grownCap w m 0 e := by simpa using hge
      rw [show m + (grownCap w m 0 e - m) = grownCap w m 0 e by omega]
    · simp only [Array.toList_append, List.append_assoc, List.nil_append]
      first | (rw [← hl]; exact List.take_left) | simp [hl]
theorem clone_B {P : Program} (w : World) (B : Nat) (t ty e : TypeId) (ht : P.underlying t = some (.slice e)) (hinfo : (P.info? e).map (fun i => (i.zero, i.size, i.bytes)) = some (some (.int .u8 0), 1, 1))
    (g : Nat) (hg : w.heap[g]? = some (.cells #[] e (0, 0))) (hB : B ≤ g) (sv : Value) (l : List Int) (hr : RdB w sv l) (hlen : l.length ≤ 1000000) :
    ∃ v' w', (Builtin.append_ #[t, t] ty #[.slice (some ⟨g, 0, none⟩) 0 0, sv]).run P w = .ok v' w' ∧ OwnB B e w' v' l ∧ Below w.heap.size w w' := by
  obtain ⟨i, hi, hz, hs, hb⟩ := info_parts hinfo
  have how : OwnB B e w (.slice (some ⟨g, 0, none⟩) 0 0) [] := ⟨rfl, .inr ⟨g, 0, _, rfl, hB, hg, Nat.le_refl _, by decide, rfl, rfl⟩⟩
  rcases hr with ⟨sa, sc, rfl, hsn, rfl⟩ | ⟨b, o, c, rfl, h1, h2, h3, h4⟩
  · cases sa with
    | some sa =>
      obtain ⟨v', w', hrun, ho, hbe⟩ := run_clone (P := P) w B t ty e i (.int .u8 0) 1 1 ht hi hz hs hb rfl (by omega) g hg hB sa 0 sc (u8v []) (by rw [u8v_length]; rfl) (fun k x hx => by cases hx) (u8v_one []) (by decide) (by omega)
      exact ⟨v', w', hrun, ho, hbe⟩
    | none =>
      obtain rfl := hsn rfl
      exact ⟨_, w, run_append_owned_none (P := P) (w := w) B t ty e i 1 ht hi _ 0 (u8v []) how, how, Below.refl _ _⟩
  · obtain ⟨v', w', hrun, ho, hbe⟩ := run_clone (P := P) w B t ty e i (.int .u8 0) 1 1 ht hi hz hs hb rfl (by omega) g hg hB ⟨b, o, none⟩ l.length c (u8v l) (by rw [u8v_length]; omega) (RdB.src h4) (u8v_one l) (by unfold maxLen; omega) (by omega)
    exact ⟨v', w', hrun, ho, hbe⟩
theorem clone_I {P : Program} (w : World) (B : Nat) (t ty e : TypeId) (ht : P.underlying t = some (.slice e)) (hinfo : (P.info? e).map (fun i => (i.zero, i.size, i.bytes)) = some (some (.agg (u8s (zerosB 32))), 32, 32))
    (g : Nat) (hg : w.heap[g]? = some (.cells #[] e (0, 0))) (hB : B ≤ g) (sv : Value) (m : Nat) (G : List Int) (hr : RdI w sv m G) (hlen : m ≤ 1000000) :
    ∃ v' w', (Builtin.append_ #[t, t] ty #[.slice (some ⟨g, 0, none⟩) 0 0, sv]).run P w = .ok v' w' ∧ OwnI B e w' v' m G ∧ Below w.heap.size w w' := by
  obtain ⟨i, hi, hz, hs, hb⟩ := info_parts hinfo
  have hlG := hr.len
  have how : OwnI B e w (.slice (some ⟨g, 0, none⟩) 0 0) 0 [] := ⟨rfl, .inr ⟨g, 0, _, rfl, hB, hg, Nat.le_refl _, by decide, rfl, rfl⟩⟩
  rcases hr with ⟨sa, sc, rfl, hsn, rfl, rfl⟩ | ⟨b, o, c, rfl, h1, h2, h3, h4, h5⟩
  · cases sa with
    | some sa =>
      obtain ⟨v', w', hrun, ho, hbe⟩ := run_clone (P := P) w B t ty e i (.agg (u8s (zerosB 32))) 32 32 ht hi hz hs hb (by simp [Value.cells, u8s_size, zerosB_length]) (by omega) g hg hB sa 0 sc (u8v []) (by rw [u8v_length]; rfl) (fun k x hx => by cases hx) (u8v_one []) (by decide) (by omega)
      exact ⟨v', w', hrun, ho, hbe⟩
    | none =>
      obtain rfl := hsn rfl
      exact ⟨_, w, run_append_owned_none (P := P) (w := w) B t ty e i 32 ht hi _ 0 (u8v []) how, how, Below.refl _ _⟩
  · obtain ⟨v', w', hrun, ho, hbe⟩ := run_clone (P := P) w B t ty e i (.agg (u8s (zerosB 32))) 32 32 ht hi hz hs hb (by simp [Value.cells, u8s_size, zerosB_length]) (by omega) g hg hB ⟨b, o, none⟩ m c (u8v G) (by rw [u8v_length]; omega) (RdB.src h5) (u8v_one G) (by unfold maxLen; omega) (by omega)
    exact ⟨v', w', hrun, ho, hbe⟩
end Go.Proofs.Ytfaojjleapenaab
namespace Go.Proofs.Ytfaojjleapenaab
open Go.RowKit Go.Ytfaojjleapenaab
set_option linter.unusedVariables false
theorem fx_cellF {P : Program} {ops : Array Oper} {o : Oper} {a : Act} {w : World} {R : Value → World → Prop} (ty : TypeId) (x : Operand) (hg : o.guard = none) (ho : o.op = .load ty x) (g k : Nat) (hx : a.eval x = .pointer (some ⟨g, k, none⟩)) (v : Value) (hc : w.cell? ⟨g, k, none⟩ = some v)
    (hu : (isAgg ty).run P w = .ok false w) (hR : R v w) : FxStep P ops o a w R :=
  fx_val (v := v) (w' := w) (by simp [Region.wanted, hg]) (by
    unfold execOp
    generalize a.eval = ev at *
    simp only [ho]
    simp [go_sem, hx, hu, hc]) hR
theorem fx_appF {P : Program} {ops : Array Oper} {o : Oper} {a : Act} {w w' : World} {R : Value → World → Prop} {v v' u : Value} (s x : Operand) (t : TypeId) (hg : o.guard = none) (ho : o.op = .call { callee := .builtin .append, args := #[s, x], argTypes := #[t, t] })
    (hs : a.eval s = v) (hx : a.eval x = u) (hrun : (Builtin.append_ #[t, t] o.type #[v, u]).run P w = .ok v' w') (hR : R v' w') : FxStep P ops o a w R :=
  fx_val (v := v') (w' := w') (by simp [Region.wanted, hg]) (by
    unfold execOp
    simp only [ho, resolve, invoke, builtin, Sem.run_bind, Sem.run_pure, Result.andThen_ok, List.map_toArray, List.map_cons, List.map_nil, hs, hx, hrun]) hR
theorem own_not {B z : Nat} {E T : TypeId} {w : World} {v : Value} {n : Nat} {xs : List Value} (h : w.ownsRow B E z v n xs) {g : Nat} {cs : Array Value} {fr : Nat × Nat} (hg : w.heap[g]? = some (.cells cs T fr)) (hT : T ≠ E) : some g ≠ v.ownBlock := by
  rcases h.2 with ⟨rfl, _⟩ | ⟨k, cap, cur, rfl, _, hk, _⟩
  · intro e; cases e
  · intro e
    have e2 : g = k := by simpa [Value.ownBlock] using e
    subst e2
    rw [hg] at hk
    injection hk with hk
    injection hk with _ h2 _
    exact hT h2
def t1A : List (List Nat) := [[], [0], [], [2], [], [], [5], [4, 5, 6], [0, 1, 2, 3, 4, 5, 6, 7], [], [0, 1, 2, 3, 4, 5, 6, 7, 8, 9]]
def t1F (B g0 : Nat) (f : Fr) (iv : Value) : Nat → Value → World → Prop
  | 0, v, _ => v = .pointer (some ⟨g0, 0, none⟩)
  | 1, v, _ => v = .int .u8 f.k
  | 2, v, _ => v = .pointer (some ⟨g0, 1, none⟩)
  | 3, v, _ => v = .int .u64 (f.N : Int)
  | 4, v, w => ∃ g, v = .slice (some ⟨g, 0, none⟩) 0 0 ∧ B ≤ g ∧ w.heap[g]? = some (.cells #[] 47 (0, 0))
  | 5, v, _ => v = .pointer (some ⟨g0, 2, none⟩)
  | 6, v, _ => v = iv
  | 7, v, w => OwnI B 47 w v f.n f.F
  | 8, v, w => ∃ q, v = .agg #[.int .u8 f.k, .int .u64 (f.N : Int), q, .slice none 0 0] ∧ OwnI B 47 w q f.n f.F
  | _, v, w => ∃ g, v = .pointer (some ⟨g, 0, none⟩) ∧ B ≤ g ∧ w.heap[g]? = some (.cells #[.int .u8 0, .int .u64 0, .slice none 0 0, .slice none 0 0] 26 (0, 0))
theorem t1_keep {B g0 : Nat} {f : Fr} {iv : Value} (j : Nat) (v : Value) (w w' : World) (hj : j < 10) (h : t1F B g0 f iv j v w) (hb : Below w.heap.size w w') : t1F B g0 f iv j v w' := by
  match j, hj with
  | 0, _ => exact h
  | 1, _ => exact h
  | 2, _ => exact h
  | 3, _ => exact h
  | 4, _ => obtain ⟨g, e, h1, h2⟩ := h; exact ⟨g, e, h1, rowB h2 hb (Array.getElem?_eq_some_iff.1 h2).1⟩
  | 5, _ => exact h
  | 6, _ => exact h
  | 7, _ => exact OwnI.kept h hb
  | 8, _ => obtain ⟨q, e, h1⟩ := h; exact ⟨q, e, OwnI.kept h1 hb⟩
  | 9, _ => obtain ⟨g, e, h1, h2⟩ := h; exact ⟨g, e, h1, rowB h2 hb (Array.getElem?_eq_some_iff.1 h2).1⟩
  | j' + 10, hj' => exact absurd hj' (by omega)
def t5A : List (List Nat) := [[], [0], [], [], [3], [], [3, 4, 5], [3, 4, 5, 6], [2, 3, 4, 5, 6, 7], [2, 3, 4, 5, 6, 7, 8], [0, 1, 2, 3, 4, 5, 6, 7, 8, 9], [0, 1, 2, 3, 4, 5, 6, 7, 8, 9, 10], [0, 1, 2, 3, 4, 5, 6, 7, 8, 9, 10, 11]]
def t5F (B S g0 g3 j b o : Nat) (pv ov s : Value) (l : List Int) (M : List (List Int)) : Nat → Value → World → Prop
  | 0, v, _ => v = .pointer (some ⟨g3, 3, none⟩)
  | 1, v, _ => v = pv
  | 2, v, w => ∃ g, v = .slice (some ⟨g, 0, none⟩) 0 0 ∧ S ≤ g ∧ w.heap[g]? = some (.cells #[] 5 (0, 0))
  | 3, v, _ => v = .pointer (some ⟨g0, 3, none⟩)
  | 4, v, _ => v = ov
  | 5, v, _ => v = .int .i64 (j : Int)
  | 6, v, _ => v = .pointer (some ⟨b, o + j, none⟩)
  | 7, v, _ => v = s
  | 8, v, w => OwnB B 5 w v l
  | 9, v, w => ∃ g u, v = .slice (some ⟨g, 0, none⟩) 1 1 ∧ S ≤ g ∧ w.heap[g]? = some (.cells #[u] 29 (0, 0)) ∧ OwnB B 5 w u l
  | 10, v, w => OwnL B 5 29 w v (M ++ [l])
  | _, v, _ => v = .pointer (some ⟨g3, 3, none⟩)
def t5G (B : Nat) (pv : Value) (M : List (List Int)) (i : Nat) (w w' : World) : Prop := Below w.heap.size w w' ∨ (i = 10 ∧ OwnL B 5 29 w pv M ∧ w.grownBy w' pv.ownBlock ∧ Below B w w')
def t5I (B g3 : Nat) (W5 : World) (cs : Array Value) (q : Value) (n : Nat) (F : List Int) (w : World) : Prop := Below B W5 w ∧ W5.heap.size ≤ w.heap.size ∧ w.heap[g3]? = some (.cells cs 26 (0, 0)) ∧ OwnI B 47 w q n F
theorem t5_inv {B g3 : Nat} {W5 : World} {cs : Array Value} {q pv : Value} {n : Nat} {F : List Int} {M : List (List Int)} (hBW : B ≤ W5.heap.size) (i : Nat) (w w' : World) (h : t5I B g3 W5 cs q n F w) (hg : t5G B pv M i w w') : t5I B g3 W5 cs q n F w' := by
  obtain ⟨h1, h2, h3, h4⟩ := h
  rcases hg with hb | ⟨rfl, ho, hgr, hB⟩
  · exact ⟨h1.trans (hb.mono (Nat.le_trans hBW h2)), Nat.le_trans h2 hb.size, rowB h3 hb (Array.getElem?_eq_some_iff.1 h3).1, OwnI.kept h4 hb⟩
  · obtain ⟨vs, _, ho1, _⟩ := ho
    refine ⟨h1.trans hB, Nat.le_trans h2 hgr.size, (hgr.block g3 (Array.getElem?_eq_some_iff.1 h3).1 (own_not ho1 h3 (by decide))).trans h3, World.ownsRow.kept h4 hgr (owns_ne h4 ho1 (by decide))⟩
theorem t5_keep {B S g0 g3 jj b o : Nat} {pv ov s : Value} {l : List Int} {M : List (List Int)} (hS : ∀ k, pv.ownBlock = some k → k < S) (i j : Nat) (v : Value) (w w' : World) (hj : j < 12) (ha : fxAfter t5A i j = true) (h : t5F B S g0 g3 jj b o pv ov s l M j v w) (hg : t5G B pv M i w w') : t5F B S g0 g3 jj b o pv ov s l M j v w' := by
  rcases hg with hb | ⟨rfl, ho, hgr, hB⟩
  · match j, hj with
    | 0, _ => exact h
    | 1, _ => exact h
    | 2, _ => obtain ⟨g, e, h1, h2⟩ := h; exact ⟨g, e, h1, rowB h2 hb (Array.getElem?_eq_some_iff.1 h2).1⟩
    | 3, _ => exact h
    | 4, _ => exact h
    | 5, _ => exact h
    | 6, _ => exact h
    | 7, _ => exact h
    | 8, _ => exact OwnB.kept h hb
    | 9, _ => obtain ⟨g, u, e, h1, h2, h3⟩ := h; exact ⟨g, u, e, h1, rowB h2 hb (Array.getElem?_eq_some_iff.1 h2).1, OwnB.kept h3 hb⟩
    | 10, _ => exact OwnL.kept h hb
    | 11, _ => exact h
    | j' + 12, hj' => exact absurd hj' (by omega)
  · obtain ⟨vs, _, ho1, _⟩ := ho
    have hne : ∀ g, S ≤ g → some g ≠ pv.ownBlock := fun g hg e => by have := hS g e.symm; omega
    match j, hj with
    | 0, _ => exact h
    | 1, _ => exact h
    | 2, _ => obtain ⟨g, e, h1, h2⟩ := h; exact ⟨g, e, h1, (hgr.block g (Array.getElem?_eq_some_iff.1 h2).1 (hne g h1)).trans h2⟩
    | 3, _ => exact h
    | 4, _ => exact h
    | 5, _ => exact h
    | 6, _ => exact h
    | 7, _ => exact h
    | 8, _ => exact World.ownsRow.kept h hgr (owns_ne h ho1 (by decide))
    | 9, _ => obtain ⟨g, u, e, h1, h2, h3⟩ := h; exact ⟨g, u, e, h1, (hgr.block g (Array.getElem?_eq_some_iff.1 h2).1 (hne g h1)).trans h2, World.ownsRow.kept h3 hgr (owns_ne h3 ho1 (by decide))⟩
    | 10, _ => exact absurd ha (by decide)
    | 11, _ => exact absurd ha (by decide)
    | j' + 12, hj' => exact absurd hj' (by omega)
theorem ownL_setRow {B : Nat} {T8 TS T : TypeId} {w : World} {v : Value} {L : List (List Int)} (h : OwnL B T8 TS w v L) {g : Nat} {cs : Array Value} (hg : w.heap[g]? = some (.cells cs T (0, 0))) (h1 : T ≠ TS) (h2 : T ≠ T8) (cs' : Array Value) : OwnL B T8 TS (w.setRow g cs') v L := by
  have hgr : w.grownBy (w.setRow g cs') (some g) := ⟨rfl, rfl, rfl, by simp, fun k hk hne => setRow_other w g k _ (fun e => hne (by rw [e]))⟩
  have key : ∀ {E : TypeId} {z n : Nat} {u : Value} {xs : List Value}, w.ownsRow B E z u n xs → T ≠ E → (w.setRow g cs').ownsRow B E z u n xs := fun hu hT => World.ownsRow.kept hu hgr (by
    have := own_not hu hg hT
    cases hob : Value.ownBlock _ with
    | none => exact .inl rfl
    | some k => exact .inr (fun e => this (by rw [hob, ← e])))
  obtain ⟨vs, a1, a2, a3⟩ := h
  exact ⟨vs, a1, key a2 h1, fun i hi => by obtain ⟨s, b1, b2⟩ := a3 i hi; exact ⟨s, b1, key b2 h2⟩⟩
theorem ownI_setRowF {B : Nat} {E T : TypeId} {w : World} {v : Value} {n : Nat} {F : List Int} (h : OwnI B E w v n F) {g : Nat} {cs : Array Value} (hg : w.heap[g]? = some (.cells cs T (0, 0))) (hT : T ≠ E) (cs' : Array Value) : OwnI B E (w.setRow g cs') v n F := by
  have hgr : w.grownBy (w.setRow g cs') (some g) := ⟨rfl, rfl, rfl, by simp, fun k hk hne => setRow_other w g k _ (fun e => hne (by rw [e]))⟩
  refine World.ownsRow.kept h hgr ?_
  have := own_not h hg hT
  cases hob : Value.ownBlock _ with
  | none => exact .inl rfl
  | some k => exact .inr (fun e => this (by rw [hob, ← e]))
end Go.Proofs.Ytfaojjleapenaab
namespace Go.Proofs.Ytfaojjleapenaab
open Go.RowKit Go.Ytfaojjleapenaab
set_option linter.unusedVariables false
theorem ownI_sliceF {base : Nat} {E : TypeId} {w : World} {v : Value} {n : Nat} {F : List Int} (h : OwnI base E w v n F) : ∃ a c, v = .slice a n c := own_rowS h
theorem rdI_setRowF {B : Nat} {w : World} {v : Value} {n : Nat} {F : List Int} (h : RdI w v n F) (g : Nat) {cs : Array Value} {T : TypeId} (hg : w.heap[g]? = some (.cells cs T (0, 0))) (ho : OwnI B 47 w v n F) (hT : T ≠ 47) (cs' : Array Value) : RdI (w.setRow g cs') v n F :=
  (ownI_setRowF ho hg hT cs').rd
set_option maxHeartbeats 8000000 in
set_option maxRecDepth 100000 in
theorem twin_any (f : Fr) (sm : f.Small) (iv ov : Value) (w : World) (hi : RdI w iv f.n f.F) (ho : RdS w ov f.L) :
    Calls Try.prog 6 #[.agg (f.c iv ov)] w fun e w' => ∃ qa qc pa pc, e = .returned (.agg (f.c (.slice qa f.n qc) (.slice pa f.L.length pc))) ∧ RdI w' (.slice qa f.n qc) f.n f.F ∧ RdS w' (.slice pa f.L.length pc) f.L ∧ Below w.heap.size w w' := by
  obtain ⟨ia, ic, rfl⟩ := hi.slice
  obtain ⟨oa, oc, rfl⟩ := ho.slice
  obtain ⟨W, hW⟩ : ∃ W, W = (w.alloc (.cells (f.c (.slice ia f.n ic) (.slice oa f.L.length oc)) 26)).alloc (.cells #[.int .u8 0, .int .u64 0, .slice none 0 0, .slice none 0 0] 26) := ⟨_, rfl⟩
  have hb1 := Lib.hid (show Below w.heap.size w W by rw [hW]; exact ((Below.refl w.heap.size w).alloc (Nat.le_refl _) _).alloc (by simp) _)
  have r0 := Lib.hid (show W.heap[w.heap.size]? = some (.cells (f.c (.slice ia f.n ic) (.slice oa f.L.length oc)) 26 (0, 0)) by rw [hW]; exact rowB (heap_alloc_new w _) (below_a _ _) (by simp))
  have r1 := Lib.hid (show W.heap[w.heap.size + 1]? = some (.cells #[.int .u8 0, .int .u64 0, .slice none 0 0, .slice none 0 0] 26 (0, 0)) by rw [hW]; exact hn2 w _ _)
  have hWs := Lib.hid (show W.heap.size = w.heap.size + 2 by rw [hW]; simp)
  have g0l := Lib.hid (Array.getElem?_eq_some_iff.1 r0.out).1
  have hI := Lib.hid (fun (wz : World) (h : Below W.heap.size W wz) => (hi.mono hb1.out).mono h)
  have hO := Lib.hid (fun (wz : World) (h : Below W.heap.size W wz) => (ho.mono hb1.out).mono h)
  have hcf := Lib.hid (fun (wz : World) (h : Below W.heap.size W wz) => cellsF (rowB r0.out h g0l.out))
  have hn := Lib.hid (show f.n ≤ 1000000 by have := sm.1; omega)
  have hls := Lib.hid (show ∀ i, (nthL f.L i).length ≤ 1000000 from fun i => by have := sm.2.2 i; omega)
  have hL20 := Lib.hid sm.2.1
  clear hi ho sm
  obtain ⟨m, hm⟩ : ∃ m, f.L.length = m := ⟨_, rfl⟩
  have hmh := Lib.hid hm
  rw [hm] at r0 hO hcf hW hL20 ⊢
  clear hm
  go_enter Try.func6, Try.ntmps6
  go_upto_region 1 with fail
  rw [← hW]
  clear hW
  refine wp_region_fx 10 t1A (by kernel_rfl) (by kernel_rfl) (t1F W.heap.size w.heap.size f (.slice ia f.n ic)) (fun _ a b => Below a.heap.size a b) (fun wz => Below W.heap.size W wz) (fun _ _ => True)
    (Below.refl _ _).drew (fun _ _ => trivial) (fun i a b hi h hg => h.trans (Below.mono hg h.size)) (fun i j v a b hi hj ha _ h hg => t1_keep j v a b hj h hg) (fun i j a b hi hj ha _ h hg => trivial) ?hstep ?hdone
  case hstep =>
    intro i op vs wz hi hop hinv hpre hd
    match i, hi with
    | 0, _ =>
      simp only [List.getElem?_toArray, List.getElem?_cons_zero, List.getElem?_cons_succ, Option.some.injEq] at hop
      subst hop
      generalize hfr : fxF _ vs fxT _ 0 = fr
      have e : fr.eval (.tmp 1) = .pointer (some ⟨w.heap.size, 0, none⟩) := by rw [← hfr]; exact fx_old 0 (by kernel_rfl)
      clear hfr
      refine fx_val (v := .pointer (some ⟨w.heap.size, 0, none⟩)) (w' := wz) rfl ?_ ⟨rfl, Below.refl _ _⟩
      unfold execOp
      generalize fr.eval = ev at e ⊢
      simp [go_sem, e]
    | 1, _ =>
      simp only [List.getElem?_toArray, List.getElem?_cons_zero, List.getElem?_cons_succ, Option.some.injEq] at hop
      subst hop
      have h0 : vs 0 = .pointer (some ⟨w.heap.size, 0, none⟩) := hd 0 (by decide)
      generalize hfr : fxF _ vs fxT _ 1 = fr
      have e : fr.eval (.tmp 5) = .pointer (some ⟨w.heap.size, 0, none⟩) := by rw [← hfr]; exact (fx_new (by simp) 1 (by kernel_rfl)).trans h0
      clear hfr
      exact fx_cellF 5 (.tmp 5) rfl rfl w.heap.size 0 e (.int .u8 f.k) (hcf.out wz hinv).1 (Try.isAgg5 wz) ⟨rfl, Below.refl _ _⟩
    | 2, _ =>
      simp only [List.getElem?_toArray, List.getElem?_cons_zero, List.getElem?_cons_succ, Option.some.injEq] at hop
      subst hop
      generalize hfr : fxF _ vs fxT _ 2 = fr
      have e : fr.eval (.tmp 1) = .pointer (some ⟨w.heap.size, 0, none⟩) := by rw [← hfr]; exact fx_old 2 (by kernel_rfl)
      clear hfr
      refine fx_val (v := .pointer (some ⟨w.heap.size, 1, none⟩)) (w' := wz) rfl ?_ ⟨rfl, Below.refl _ _⟩
      unfold execOp
      generalize fr.eval = ev at e ⊢
      simp [go_sem, e]
    | 3, _ =>
      simp only [List.getElem?_toArray, List.getElem?_cons_zero, List.getElem?_cons_succ, Option.some.injEq] at hop
      subst hop
      have h2 : vs 2 = .pointer (some ⟨w.heap.size, 1, none⟩) := hd 2 (by decide)
      generalize hfr : fxF _ vs fxT _ 3 = fr
      have e : fr.eval (.tmp 7) = .pointer (some ⟨w.heap.size, 1, none⟩) := by rw [← hfr]; exact (fx_new (by simp) 3 (by kernel_rfl)).trans h2
      clear hfr
      exact fx_cellF 22 (.tmp 7) rfl rfl w.heap.size 1 e (.int .u64 (f.N : Int)) (hcf.out wz hinv).2.1 (Try.isAgg22 wz) ⟨rfl, Below.refl _ _⟩
    | 4, _ =>
      simp only [List.getElem?_toArray, List.getElem?_cons_zero, List.getElem?_cons_succ, Option.some.injEq] at hop
      subst hop
      refine fx_val (v := .slice (some ⟨wz.heap.size, 0, none⟩) 0 0) (w' := wz.alloc (.cells #[] 47)) rfl ?_ ⟨⟨_, rfl, hinv.size, heap_alloc_new wz _⟩, below_a _ _⟩
      generalize fxF _ vs fxT _ 4 = fr
      unfold execOp
      generalize fr.eval = ev
      simp [go_sem]
    | 5, _ =>
      simp only [List.getElem?_toArray, List.getElem?_cons_zero, List.getElem?_cons_succ, Option.some.injEq] at hop
      subst hop
      generalize hfr : fxF _ vs fxT _ 5 = fr
      have e : fr.eval (.tmp 1) = .pointer (some ⟨w.heap.size, 0, none⟩) := by rw [← hfr]; exact fx_old 5 (by kernel_rfl)
      clear hfr
      refine fx_val (v := .pointer (some ⟨w.heap.size, 2, none⟩)) (w' := wz) rfl ?_ ⟨rfl, Below.refl _ _⟩
      unfold execOp
      generalize fr.eval = ev at e ⊢
      simp [go_sem, e]
    | 6, _ =>
      simp only [List.getElem?_toArray, List.getElem?_cons_zero, List.getElem?_cons_succ, Option.some.injEq] at hop
      subst hop
      have h5 : vs 5 = .pointer (some ⟨w.heap.size, 2, none⟩) := hd 5 (by decide)
      generalize hfr : fxF _ vs fxT _ 6 = fr
      have e : fr.eval (.tmp 10) = .pointer (some ⟨w.heap.size, 2, none⟩) := by rw [← hfr]; exact (fx_new (by simp) 6 (by kernel_rfl)).trans h5
      clear hfr
      exact fx_cellF 23 (.tmp 10) rfl rfl w.heap.size 2 e (.slice ia f.n ic) (hcf.out wz hinv).2.2.1 (Try.isAgg23 wz) ⟨rfl, Below.refl _ _⟩
    | 7, _ =>
      simp only [List.getElem?_toArray, List.getElem?_cons_zero, List.getElem?_cons_succ, Option.some.injEq] at hop
      subst hop
      obtain ⟨g4, h4, hg4, hr4⟩ : ∃ g, vs 4 = .slice (some ⟨g, 0, none⟩) 0 0 ∧ W.heap.size ≤ g ∧ wz.heap[g]? = some (.cells #[] 47 (0, 0)) := hd 4 (by decide)
      have h6 : vs 6 = .slice ia f.n ic := hd 6 (by decide)
      generalize hfr : fxF _ vs fxT _ 7 = fr
      have e1 : fr.eval (.tmp 9) = .slice (some ⟨g4, 0, none⟩) 0 0 := by rw [← hfr]; exact (fx_new (by simp) 7 (by kernel_rfl)).trans h4
      have e2 : fr.eval (.tmp 11) = .slice ia f.n ic := by rw [← hfr]; exact (fx_new (by simp) 7 (by kernel_rfl)).trans h6
      clear hfr
      obtain ⟨v', w', hrun, o1, o2⟩ := clone_I (P := Try.prog) wz W.heap.size 23 23 47 Try.underlying23 (by kernel_rfl) g4 hr4 hg4 (.slice ia f.n ic) f.n f.F (hI.out wz hinv) hn.out
      exact fx_appF (.tmp 9) (.tmp 11) 23 rfl rfl e1 e2 hrun ⟨o1, o2⟩
    | 8, _ =>
      simp only [List.getElem?_toArray, List.getElem?_cons_zero, List.getElem?_cons_succ, Option.some.injEq] at hop
      subst hop
      have h1 : vs 1 = .int .u8 f.k := hd 1 (by decide)
      have h3 : vs 3 = .int .u64 (f.N : Int) := hd 3 (by decide)
      have h7 : OwnI W.heap.size 47 wz (vs 7) f.n f.F := hd 7 (by decide)
      obtain ⟨qa, qc, h7v⟩ := ownI_sliceF h7
      generalize hfr : fxF _ vs fxT _ 8 = fr
      have e1 : fr.eval (.tmp 6) = .int .u8 f.k := by rw [← hfr]; exact (fx_new (by simp) 8 (by kernel_rfl)).trans h1
      have e2 : fr.eval (.tmp 8) = .int .u64 (f.N : Int) := by rw [← hfr]; exact (fx_new (by simp) 8 (by kernel_rfl)).trans h3
      have e3 : fr.eval (.tmp 12) = .slice qa f.n qc := by rw [← hfr]; exact (fx_new (by simp) 8 (by kernel_rfl)).trans h7v
      clear hfr
      rw [h7v] at h7
      refine fx_val (v := .agg #[.int .u8 f.k, .int .u64 (f.N : Int), .slice qa f.n qc, .slice none 0 0]) (w' := wz) rfl ?_ ⟨⟨_, rfl, h7⟩, Below.refl _ _⟩
      unfold execOp
      generalize fr.eval = ev at e1 e2 e3 ⊢
      simp [go_sem, e1, e2, e3]
    | 9, _ =>
      simp only [List.getElem?_toArray, List.getElem?_cons_zero, List.getElem?_cons_succ, Option.some.injEq] at hop
      subst hop
      refine fx_val (v := .pointer (some ⟨wz.heap.size, 0, none⟩)) (w' := wz.alloc (.cells #[.int .u8 0, .int .u64 0, .slice none 0 0, .slice none 0 0] 26)) rfl ?_ ⟨⟨_, rfl, hinv.size, heap_alloc_new wz _⟩, below_a _ _⟩
      generalize fxF _ vs fxT _ 9 = fr
      unfold execOp
      generalize fr.eval = ev
      simp [go_sem]
    | j + 10, hj => exact absurd hj (by omega)
  case hdone =>
    intro vs w1 hinv hf
    obtain ⟨q, h8, o8⟩ : ∃ q, vs 8 = .agg #[.int .u8 f.k, .int .u64 (f.N : Int), q, .slice none 0 0] ∧ OwnI W.heap.size 47 w1 q f.n f.F := hf 8 (by decide)
    obtain ⟨g3, h9, hg3, hr3⟩ : ∃ g, vs 9 = .pointer (some ⟨g, 0, none⟩) ∧ W.heap.size ≤ g ∧ w1.heap[g]? = some (.cells #[.int .u8 0, .int .u64 0, .slice none 0 0, .slice none 0 0] 26 (0, 0)) := hf 9 (by decide)
    obtain ⟨qa, qc, hq⟩ := ownI_sliceF o8
    subst hq
    simp only [fxF, fxT, if_true, List.drop_succ_cons, List.drop_zero, List.getElem?_toArray, List.getElem?_cons_zero, List.getElem?_cons_succ, Option.bind_some]
    rw [h8, h9]
    clear hf h8 h9
    generalize vs 0 = z0 at *
    generalize vs 1 = z1 at *
    generalize vs 2 = z2 at *
    generalize vs 3 = z3 at *
    generalize vs 4 = z4 at *
    generalize vs 5 = z5 at *
    generalize vs 6 = z6 at *
    generalize vs 7 = z7 at *
    have ow := Lib.hid (show OwnI W.heap.size 47 (w1.setRow g3 #[.int .u8 f.k, .int .u64 (f.N : Int), .slice qa f.n qc, .slice none 0 0]) (.slice qa f.n qc) f.n f.F from ownI_setRowF o8 hr3 (by decide) _)
    have rw3 := Lib.hid (setRow_heap w1 g3 _ #[.int .u8 f.k, .int .u64 (f.N : Int), .slice qa f.n qc, .slice none 0 0] _ _ hr3)
    have hB1 := Lib.hid (below_setRow' (g := g3) hinv hg3 #[.int .u8 f.k, .int .u64 (f.N : Int), .slice qa f.n qc, .slice none 0 0])
    have hg3 := Lib.hid hg3
    have hrr := Lib.hid hr3
    clear hinv o8 hr3
    refine wpList_store_row (P := Try.prog) rfl 26 (.tmp 3) (.tmp 13) rfl g3 #[.int .u8 f.k, .int .u64 (f.N : Int), .slice qa f.n qc, .slice none 0 0] (by kernel_rfl) (by kernel_rfl) 26 _ hrr.out info_frame rfl (by simp [Value.oneCell']) ?_
    generalize w1.setRow g3 #[.int .u8 f.k, .int .u64 (f.N : Int), .slice qa f.n qc, .slice none 0 0] = w2 at *
    clear hrr
    go_wp2
    go_loopw [4] (fun i wr => ∃ (j : Nat) (ya : Option Addr) (yc : Nat), j ≤ m ∧ i = .int .i64 (j : Int) ∧ wr.heap[g3]? = some (.cells #[.int .u8 f.k, .int .u64 (f.N : Int), .slice qa f.n qc, .slice ya j yc] 26 (0, 0)) ∧ OwnL W.heap.size 5 29 wr (.slice ya j yc) (f.L.take j) ∧ OwnI W.heap.size 47 wr (.slice qa f.n qc) f.n f.F ∧ Below W.heap.size W wr) (fun i _ => m - (intOf i).toNat)
    case atStart => exact ⟨0, none, 0, Nat.zero_le _, rfl, rw3.out, by rw [List.take_zero]; exact OwnL.nil _ _ _ _, ow.out, hB1.out⟩
    case round =>
      obtain ⟨j, ya, yc, hj, rfl, q1, q2, q3, q4⟩ := hrel
      have r3 := Lib.hid q1; have oL := Lib.hid q2; have oI := Lib.hid q3; have hbr := Lib.hid q4
      clear q1 q2 q3 q4
      obtain ⟨c0, c1, c2, c3⟩ := hcf.out wr hbr.out
      by_cases hlt : j < m
      · have hjl := Lib.hid hlt
        go_upto_region 5 with fail
        obtain ⟨b, o, hoa, hbl, s, hs, rs⟩ := (hO.out wr hbr.out).at j (by rw [hmh.out]; exact hlt)
        subst hoa
        obtain ⟨sa, sc, rfl⟩ := rs.slice
        have hbW := Lib.hid ((hO.out W (Below.refl _ _)).at j (by rw [hmh.out]; exact hlt))
        have hsl := Lib.hid (hls.out j)
        have hjm := Lib.hid (show (f.L.take j).length = j by rw [List.length_take, hmh.out]; omega)
        have hown : ∀ k, (Value.slice ya j yc).ownBlock = some k → k < wr.heap.size := by
          obtain ⟨_, _, ho1, _⟩ := oL.out
          exact fun k hk => (World.ownsRow.lt ho1 k hk).2
        have hsW : ∀ wz : World, Below W.heap.size W wz → wz.cell? ⟨b, o + j, none⟩ = some (.slice sa (nthL f.L j).length sc) ∧ RdB wz (.slice sa (nthL f.L j).length sc) (nthL f.L j) := by
          obtain ⟨b2, o2, he, hbl2, s2, hs2, rs2⟩ := hbW.out
          cases he
          have hc2 := (hbr.out.cell (p := (⟨b, o + j, none⟩ : Addr)) hbl2).trans hs2
          rw [hs] at hc2
          have hs3 := Option.some.inj hc2
          subst hs3
          exact fun wz h => ⟨(h.cell (p := (⟨b, o + j, none⟩ : Addr)) hbl2).trans hs2, rs2.mono h⟩
        have hsW := Lib.hid hsW; have hown := Lib.hid hown
        have hjI : (j : Int) < (m : Int) := by omega
        clear hs rs hbl c0 c1 c2 c3 hbW
        refine wp_region_fx 12 t5A (by kernel_rfl) (by kernel_rfl) (t5F W.heap.size wr.heap.size w.heap.size g3 j b o (.slice ya j yc) (.slice (some ⟨b, o, none⟩) m oc) (.slice sa (nthL f.L j).length sc) (nthL f.L j) (f.L.take j)) (t5G W.heap.size (.slice ya j yc) (f.L.take j)) (t5I W.heap.size g3 wr #[.int .u8 f.k, .int .u64 (f.N : Int), .slice qa f.n qc, .slice ya j yc] (.slice qa f.n qc) f.n f.F) (fun i wz => i = 10 → OwnL W.heap.size 5 29 wz (.slice ya j yc) (f.L.take j))
          ⟨(Below.refl _ _).drew, Nat.le_refl _, r3.out, OwnI.kept oI.out ((Below.refl _ _).drew)⟩ (fun j _ _ => OwnL.kept oL.out ((Below.refl _ _).drew)) (fun i a b hi h hg => t5_inv hbr.out.size i a b h hg) (fun i j v a b hi hj ha _ h hg => t5_keep hown.out i j v a b hj ha h hg) ?hp ?hstep ?hdone
        case hp =>
          intro i j a b hi hj ha hinv h hg e
          subst e
          rcases hg with hb | ⟨rfl, _⟩
          · exact OwnL.kept (h rfl) hb
          · exact absurd ha (by decide)
        case hstep =>
          intro i op vs wz hi hop hinv hpre hd
          obtain ⟨hi1, hi2, hi3, hi4⟩ := hinv
          have hbz : Below W.heap.size W wz := hbr.out.trans hi1
          have hBz : W.heap.size ≤ wz.heap.size := Nat.le_trans hbr.out.size hi2
          match i, hi with
          | 0, _ =>
            simp only [List.getElem?_toArray, List.getElem?_cons_zero, List.getElem?_cons_succ, Option.some.injEq] at hop
            subst hop
            generalize hfr : fxF _ vs fxT _ 0 = fr
            have e : fr.eval (.tmp 3) = .pointer (some ⟨g3, 0, none⟩) := by rw [← hfr]; exact fx_old 0 (by kernel_rfl)
            clear hfr
            refine fx_val (v := .pointer (some ⟨g3, 3, none⟩)) (w' := wz) rfl ?_ ⟨rfl, .inl (Below.refl _ _)⟩
            unfold execOp
            generalize fr.eval = ev at e ⊢
            simp [go_sem, e]
          | 1, _ =>
            simp only [List.getElem?_toArray, List.getElem?_cons_zero, List.getElem?_cons_succ, Option.some.injEq] at hop
            subst hop
            have h0 : vs 0 = .pointer (some ⟨g3, 3, none⟩) := hd 0 (by decide)
            generalize hfr : fxF _ vs fxT _ 1 = fr
            have e : fr.eval (.tmp 21) = .pointer (some ⟨g3, 3, none⟩) := by rw [← hfr]; exact (fx_new (by simp) 1 (by kernel_rfl)).trans h0
            clear hfr
            exact fx_cellF 24 (.tmp 21) rfl rfl g3 3 e (.slice ya j yc) (cell_of_row _ _ 3 _ _ _ hi3) (Try.isAgg24 wz) ⟨rfl, .inl (Below.refl _ _)⟩
          | 2, _ =>
            simp only [List.getElem?_toArray, List.getElem?_cons_zero, List.getElem?_cons_succ, Option.some.injEq] at hop
            subst hop
            refine fx_val (v := .slice (some ⟨wz.heap.size, 0, none⟩) 0 0) (w' := wz.alloc (.cells #[] 5)) rfl ?_ ⟨⟨_, rfl, hi2, heap_alloc_new wz _⟩, .inl (below_a _ _)⟩
            generalize fxF _ vs fxT _ 2 = fr
            unfold execOp
            generalize fr.eval = ev
            simp [go_sem]
          | 3, _ =>
            simp only [List.getElem?_toArray, List.getElem?_cons_zero, List.getElem?_cons_succ, Option.some.injEq] at hop
            subst hop
            generalize hfr : fxF _ vs fxT _ 3 = fr
            have e : fr.eval (.tmp 1) = .pointer (some ⟨w.heap.size, 0, none⟩) := by rw [← hfr]; exact fx_old 3 (by kernel_rfl)
            clear hfr
            refine fx_val (v := .pointer (some ⟨w.heap.size, 3, none⟩)) (w' := wz) rfl ?_ ⟨rfl, .inl (Below.refl _ _)⟩
            unfold execOp
            generalize fr.eval = ev at e ⊢
            simp [go_sem, e]
          | 4, _ =>
            simp only [List.getElem?_toArray, List.getElem?_cons_zero, List.getElem?_cons_succ, Option.some.injEq] at hop
            subst hop
            have h3 : vs 3 = .pointer (some ⟨w.heap.size, 3, none⟩) := hd 3 (by decide)
            generalize hfr : fxF _ vs fxT _ 4 = fr
            have e : fr.eval (.tmp 24) = .pointer (some ⟨w.heap.size, 3, none⟩) := by rw [← hfr]; exact (fx_new (by simp) 4 (by kernel_rfl)).trans h3
            clear hfr
            exact fx_cellF 24 (.tmp 24) rfl rfl w.heap.size 3 e (.slice (some ⟨b, o, none⟩) m oc) (hcf.out wz hbz).2.2.2 (Try.isAgg24 wz) ⟨rfl, .inl (Below.refl _ _)⟩
          | 5, _ =>
            simp only [List.getElem?_toArray, List.getElem?_cons_zero, List.getElem?_cons_succ, Option.some.injEq] at hop
            subst hop
            generalize hfr : fxF _ vs fxT _ 5 = fr
            have e : fr.eval (.tmp 4) = .int .i64 (j : Int) := by rw [← hfr]; exact fx_old 5 (by kernel_rfl)
            clear hfr
            refine fx_move (.tmp 4) rfl rfl ⟨e, .inl (Below.refl _ _)⟩
          | 6, _ =>
            simp only [List.getElem?_toArray, List.getElem?_cons_zero, List.getElem?_cons_succ, Option.some.injEq] at hop
            subst hop
            have h4 : vs 4 = .slice (some ⟨b, o, none⟩) m oc := hd 4 (by decide)
            have h5 : vs 5 = .int .i64 (j : Int) := hd 5 (by decide)
            generalize hfr : fxF _ vs fxT _ 6 = fr
            have e1 : fr.eval (.tmp 25) = .slice (some ⟨b, o, none⟩) m oc := by rw [← hfr]; exact (fx_new (by simp) 6 (by kernel_rfl)).trans h4
            have e2 : fr.eval (.tmp 26) = .int .i64 (j : Int) := by rw [← hfr]; exact (fx_new (by simp) 6 (by kernel_rfl)).trans h5
            clear hfr
            refine fx_val (v := .pointer (some ⟨b, o + j, none⟩)) (w' := wz) rfl ?_ ⟨rfl, .inl (Below.refl _ _)⟩
            unfold execOp
            generalize fr.eval = ev at e1 e2 ⊢
            simp [go_sem, e1, e2, hjI]
          | 7, _ =>
            simp only [List.getElem?_toArray, List.getElem?_cons_zero, List.getElem?_cons_succ, Option.some.injEq] at hop
            subst hop
            have h6 : vs 6 = .pointer (some ⟨b, o + j, none⟩) := hd 6 (by decide)
            generalize hfr : fxF _ vs fxT _ 7 = fr
            have e : fr.eval (.tmp 27) = .pointer (some ⟨b, o + j, none⟩) := by rw [← hfr]; exact (fx_new (by simp) 7 (by kernel_rfl)).trans h6
            clear hfr
            exact fx_cellF 29 (.tmp 27) rfl rfl b (o + j) e (.slice sa (nthL f.L j).length sc) (hsW.out wz hbz).1 (Try.isAgg29 wz) ⟨rfl, .inl (Below.refl _ _)⟩
          | 8, _ =>
            simp only [List.getElem?_toArray, List.getElem?_cons_zero, List.getElem?_cons_succ, Option.some.injEq] at hop
            subst hop
            obtain ⟨g2, h2, hg2, hr2⟩ : ∃ g, vs 2 = .slice (some ⟨g, 0, none⟩) 0 0 ∧ wr.heap.size ≤ g ∧ wz.heap[g]? = some (.cells #[] 5 (0, 0)) := hd 2 (by decide)
            have h7 : vs 7 = .slice sa (nthL f.L j).length sc := hd 7 (by decide)
            generalize hfr : fxF _ vs fxT _ 8 = fr
            have e1 : fr.eval (.tmp 23) = .slice (some ⟨g2, 0, none⟩) 0 0 := by rw [← hfr]; exact (fx_new (by simp) 8 (by kernel_rfl)).trans h2
            have e2 : fr.eval (.tmp 28) = .slice sa (nthL f.L j).length sc := by rw [← hfr]; exact (fx_new (by simp) 8 (by kernel_rfl)).trans h7
            clear hfr
            obtain ⟨v', w', hrun, o1, o2⟩ := clone_B (P := Try.prog) wz W.heap.size 29 29 5 Try.underlying29 (by kernel_rfl) g2 hr2 (Nat.le_trans hbr.out.size hg2) _ (nthL f.L j) (hsW.out wz hbz).2 hsl.out
            exact fx_appF (.tmp 23) (.tmp 28) 29 rfl rfl e1 e2 hrun ⟨o1, .inl o2⟩
          | 9, _ =>
            simp only [List.getElem?_toArray, List.getElem?_cons_zero, List.getElem?_cons_succ, Option.some.injEq] at hop
            subst hop
            have h8 : OwnB W.heap.size 5 wz (vs 8) (nthL f.L j) := hd 8 (by decide)
            obtain ⟨ua, uc, h8v⟩ := h8.rd.slice
            generalize hfr : fxF _ vs fxT _ 9 = fr
            have e : fr.eval (.tmp 29) = .slice ua (nthL f.L j).length uc := by rw [← hfr]; exact (fx_new (by simp) 9 (by kernel_rfl)).trans h8v
            clear hfr
            rw [h8v] at h8
            refine fx_val (v := .slice (some ⟨wz.heap.size, 0, none⟩) 1 1) (w' := wz.alloc (.cells #[.slice ua (nthL f.L j).length uc] 29)) rfl ?_ ⟨⟨_, _, rfl, hi2, heap_alloc_new wz _, OwnB.kept h8 (below_a _ _)⟩, .inl (below_a _ _)⟩
            unfold execOp
            generalize fr.eval = ev at e ⊢
            simp [go_sem, e]
          | 10, _ =>
            simp only [List.getElem?_toArray, List.getElem?_cons_zero, List.getElem?_cons_succ, Option.some.injEq] at hop
            subst hop
            have h1 : vs 1 = .slice ya j yc := hd 1 (by decide)
            obtain ⟨g9, u9, h9, hg9, hr9, ho9⟩ : ∃ g u, vs 9 = .slice (some ⟨g, 0, none⟩) 1 1 ∧ wr.heap.size ≤ g ∧ wz.heap[g]? = some (.cells #[u] 29 (0, 0)) ∧ OwnB W.heap.size 5 wz u (nthL f.L j) := hd 9 (by decide)
            generalize hfr : fxF _ vs fxT _ 10 = fr
            have e1 : fr.eval (.tmp 22) = .slice ya j yc := by rw [← hfr]; exact (fx_new (by simp) 10 (by kernel_rfl)).trans h1
            have e2 : fr.eval (.tmp 30) = .slice (some ⟨g9, 0, none⟩) 1 1 := by rw [← hfr]; exact (fx_new (by simp) 10 (by kernel_rfl)).trans h9
            clear hfr
            obtain ⟨v', w', hrun, o1, o2, o3⟩ := run_appendL (P := Try.prog) wz W.heap.size 5 24 24 29 Try.underlying24 (by kernel_rfl) (by decide) (.slice ya j yc) (f.L.take j) (hpre rfl) g9 1 u9 29 hr9 (nthL f.L j) ho9 (by have := hjm.out; have := hL20.out; omega) hBz
            exact fx_appF (.tmp 22) (.tmp 30) 24 rfl rfl e1 e2 hrun ⟨o1, .inr ⟨rfl, hpre rfl, o2, o3⟩⟩
          | 11, _ =>
            simp only [List.getElem?_toArray, List.getElem?_cons_zero, List.getElem?_cons_succ, Option.some.injEq] at hop
            subst hop
            generalize hfr : fxF _ vs fxT _ 11 = fr
            have e : fr.eval (.tmp 3) = .pointer (some ⟨g3, 0, none⟩) := by rw [← hfr]; exact fx_old 11 (by kernel_rfl)
            clear hfr
            refine fx_val (v := .pointer (some ⟨g3, 3, none⟩)) (w' := wz) rfl ?_ ⟨rfl, .inl (Below.refl _ _)⟩
            unfold execOp
            generalize fr.eval = ev at e ⊢
            simp [go_sem, e]
          | j' + 12, hj' => exact absurd hj' (by omega)
        case hdone =>
          intro vs w5 hinv hf
          obtain ⟨hi1, hi2, hi3, hi4⟩ := hinv
          have h10 : OwnL W.heap.size 5 29 w5 (vs 10) (f.L.take j ++ [nthL f.L j]) := hf 10 (by decide)
          have h11 : vs 11 = .pointer (some ⟨g3, 3, none⟩) := hf 11 (by decide)
          have htk : f.L.take j ++ [nthL f.L j] = f.L.take (j + 1) := by
            rw [List.take_add_one]
            unfold nthL
            rw [List.getElem?_eq_getElem (by rw [hmh.out]; exact hjl.out)]
            rfl
          rw [htk] at h10
          have hl1 : (f.L.take (j + 1)).length = j + 1 := by rw [List.length_take, hmh.out]; have := hjl.out; omega
          obtain ⟨xa, xc, hx⟩ := h10.slice
          rw [hl1] at hx
          rw [hx] at h10
          simp only [fxF, fxT, if_true, List.drop_succ_cons, List.drop_zero, List.getElem?_toArray, List.getElem?_cons_zero, List.getElem?_cons_succ, Option.bind_some]
          rw [hx, h11]
          have hset := setCell_eq hi3 3 (.slice xa (j + 1) xc)
          have hset : w5.setCell ⟨g3, 3, none⟩ (.slice xa (j + 1) xc) = w5.setRow g3 #[.int .u8 f.k, .int .u64 (f.N : Int), .slice qa f.n qc, .slice xa (j + 1) xc] := hset
          have rN := Lib.hid (setRow_heap w5 g3 _ #[.int .u8 f.k, .int .u64 (f.N : Int), .slice qa f.n qc, .slice xa (j + 1) xc] _ _ hi3)
          have lN := Lib.hid (ownL_setRow h10 hi3 (by decide) (by decide) #[.int .u8 f.k, .int .u64 (f.N : Int), .slice qa f.n qc, .slice xa (j + 1) xc])
          have iN := Lib.hid (ownI_setRowF hi4 hi3 (by decide) #[.int .u8 f.k, .int .u64 (f.N : Int), .slice qa f.n qc, .slice xa (j + 1) xc])
          have bN := Lib.hid (below_setRow' (g := g3) (hbr.out.trans hi1) hg3.out #[.int .u8 f.k, .int .u64 (f.N : Int), .slice qa f.n qc, .slice xa (j + 1) xc])
          have hset := Lib.hid hset
          have hfz : w5.frozen? ⟨g3, 3, none⟩ = false := frozen_of_row _ _ _ _ _ hi3
          have hc3 : w5.cell? ⟨g3, 3, none⟩ = some (.slice ya j yc) := cell_of_row _ _ 3 _ _ _ hi3
          clear hf h10 h11 htk hl1 hx hi1 hi2 hi3 hi4
          generalize vs 0 = z0 at *
          generalize vs 1 = z1 at *
          generalize vs 2 = z2 at *
          generalize vs 3 = z3 at *
          generalize vs 4 = z4 at *
          generalize vs 5 = z5 at *
          generalize vs 6 = z6 at *
          generalize vs 7 = z7 at *
          generalize vs 8 = z8 at *
          generalize vs 9 = z9 at *
          have hw1 : IntKind.i64.wrap ((j : Int) + 1) = ((j + 1 : Nat) : Int) := by rw [IntWalk.i64_in _ (by have := hjl.out; have := hL20.out; omega)]; omega
          go_wp2
          go_roundw
          case rel => exact ⟨j + 1, xa, xc, by have := hjl.out; omega, by go_num, by first | exact rN.out | (rw [hset.out]; exact rN.out), by first | exact lN.out | (rw [hset.out]; exact lN.out), by first | exact iN.out | (rw [hset.out]; exact iN.out), by first | exact bN.out | (rw [hset.out]; exact bN.out)⟩
          case measure => simp [intOf]; have := hjl.out; omega
      · obtain rfl : j = m := by omega
        have hfull : f.L.take j = f.L := by rw [← hmh.out]; exact List.take_length
        rw [hfull] at oL
        have hS := Lib.hid oL.out.rd
        have hR := Lib.hid oI.out.rd
        have rR := Lib.hid (rowB r1.out hbr.out (Array.getElem?_eq_some_iff.1 r1.out).1)
        clear hfull hlt
        go_wp2_with (first
          | (refine wpList_load_row_g rfl 26 _ rfl g3 rfl 26 #[.int .u8 f.k, .int .u64 (f.N : Int), .slice qa f.n qc, .slice ya j yc] (0, 0) _ r3.out Try.underlying26 rfl info_frame ?_)
          | (refine wpList_store_row rfl 26 _ _ rfl (w.heap.size + 1) #[.int .u8 f.k, .int .u64 (f.N : Int), .slice qa f.n qc, .slice ya j yc] rfl rfl 26 _ rR.out info_frame rfl (by simp [Value.oneCell']) ?_))
        have hbE := below_setRow' (g := w.heap.size + 1) (B := w.heap.size) (hb1.out.trans (hbr.out.mono hb1.out.size)) (by omega) #[.int .u8 f.k, .int .u64 (f.N : Int), .slice qa f.n qc, .slice ya j yc]
        refine bodyPost_ret (results_cell_row rfl _ _ (w.heap.size + 1) 26 _ _ _ rfl (setRow_heap _ _ _ _ _ _ rR.out) Try.underlying26 rfl info_frame) rfl ⟨qa, qc, ya, yc, rfl, ?_, ?_, hbE⟩
        · exact rdI_setRowF hR.out (w.heap.size + 1) rR.out oI.out (by decide) _
        · exact (ownL_setRow oL.out rR.out (by decide) (by decide) _).rd
end Go.Proofs.Ytfaojjleapenaab
namespace Go.Proofs.Ytfaojjleapenaab
open Go.ChangeShapes Go.WideShapes Go.ChangeAt Go.WideMaps Go.WideElems Go.RowKit Go.Ytfaojjleapenaab
set_option linter.unusedVariables false
theorem own : ownKnob Try.prog.godebug = none := by kernel_rfl
theorem laidOut : laidOutB Try.prog = true := by kernel_rfl
section
variable {H : Type} {enc : TypeId × Value → H} {P : Program} {w : World} {base : Nat} {sp : Nat → Bool} {held : Bool}
def theInt : Value → Int
  | .int _ k => k
  | _ => 0
theorem trod_ints {fuel : Nat} {t e : TypeId} {n : Nat} {kd : IntKind} {cs : List Value} {x : DataW H × List MemPlace} (ht : P.underlying t = some (.array n e)) (he : P.underlying e = some (.int kd)) (hc : P.cellsOf e = 1) (hct : P.cellsOf t = n)
    (h : DataW.trod enc P w base sp held fuel t cs = some x) : ∃ ks : List Int, cs = ks.map (Value.int kd) ∧ ks.length = n ∧ (∀ k ∈ ks, (Lit.int kd k).wf = true) ∧ x.1 = .agg (ks.map fun k => .lit (.int kd k)) := by
  obtain ⟨xs, m, rfl, rfl, hl, hn, hel⟩ := DataW.trod_array ht h
  have hlen : cs.length = n := hl.trans hct
  have key : ∀ i, i < n → ∃ k, cs[i]? = some (.int kd k) ∧ (Lit.int kd k).wf = true ∧ xs[i]? = some (.lit (.int kd k), []) := by
    intro i hi
    have hx : xs[i]? = some xs[i] := List.getElem?_eq_getElem (by omega)
    have h1 := hel i hi
    rw [hc, Nat.mul_one, hx] at h1
    obtain ⟨k, e1, e2, e3⟩ := DataW.trod_int he h1
    refine ⟨k, ?_, e3, by rw [hx, e2]⟩
    have e4 : ((cs.drop i).take 1)[0]? = some (.int kd k) := by rw [e1]; rfl
    simpa [List.getElem?_take, List.getElem?_drop] using e4
  refine ⟨cs.map theInt, ?_, by simp [hlen], ?_, ?_⟩
  · apply List.ext_getElem?
    intro i
    by_cases hi : i < n
    · obtain ⟨k, e1, _, _⟩ := key i hi
      simp [e1, theInt]
    · rw [List.getElem?_eq_none (by omega), List.getElem?_eq_none (by simp; omega)]
  · intro k hk
    obtain ⟨i, hi, rfl⟩ := List.getElem_of_mem hk
    have hi' : i < n := by simpa [hlen] using hi
    obtain ⟨k, e1, e2, _⟩ := key i hi'
    have : (cs.map theInt)[i]? = some k := by simp [e1, theInt]
    rw [List.getElem?_eq_getElem hi] at this
    rw [Option.some.inj this]; exact e2
  · show DataW.agg _ = DataW.agg _
    congr 1
    apply List.ext_getElem?
    intro i
    by_cases hi : i < n
    · obtain ⟨k, e1, _, e3⟩ := key i hi
      simp [e1, e3, theInt]
    · rw [List.getElem?_eq_none (by simp; omega), List.getElem?_eq_none (by simp; omega)]
theorem trodAll_stays (hl : laidOutB P = true) {W W' : World} {sp' : Nat → Bool} : ∀ {ts : List TypeId} {vs : List Value} {ds : List (DataW H)} {ps : List MemPlace}, (∀ t ∈ ts, P.readableRec t = true ∧ t < P.types.size) →
    DataW.TrodAll enc P W base (fun _ => true) true ts vs ds ps → (∀ p ∈ ps, W.sameAt W' p) → (∀ p ∈ ps, sp' p.block = true) → DataW.TrodAll enc P W' base sp' true ts vs ds ps
  | [], [], [], _, _, h, _, _ => h
  | [], [], _ :: _, _, _, h, _, _ => h.elim
  | [], _ :: _, _, _, _, h, _, _ => by cases ‹List (DataW H)› <;> exact h.elim
  | _ :: _, [], _, _, _, h, _, _ => by cases ‹List (DataW H)› <;> exact h.elim
  | _ :: _, _ :: _, [], _, _, h, _, _ => h.elim
  | t :: ts, v :: vs, d :: ds, ps, ht, h, hs, hp => by
    obtain ⟨p, q, h1, h2, rfl⟩ := h
    obtain ⟨r1, r2⟩ := ht t List.mem_cons_self
    exact ⟨p, q, Trod_stays hl r1 r2 h1 (fun x hx => hs x (List.mem_append_left _ hx)) (fun x hx => hp x (List.mem_append_left _ hx)),
      trodAll_stays hl (fun u hu => ht u (List.mem_cons_of_mem _ hu)) h2 (fun x hx => hs x (List.mem_append_right _ hx)) (fun x hx => hp x (List.mem_append_right _ hx)), rfl⟩
/-- A law's end: true, in a world whose old memory is as' it was. -/
theorem law_post {f : Func} {s : ChangeSpec} {apart fresh handsOn : Bool} {W W' : World} {args : Array Value} {v : Value} {ds gs : List (DataW H)} {before : List MemPlace} (hl : laidOutB P = true)
    (hts : ∀ t ∈ f.params.toList, P.readableRec t = true ∧ t < P.types.size) (hvs : varsRowed P s.vars = true)
    (hW : DataW.Whole enc P f.params.toList s.vars apart W args.toList ds gs before) (hb : Below W.heap.size W W')
    (hres : ∀ (b : Nat) (sp : Nat → Bool) (hd : Bool), DataW.TrodAll enc P W' b sp hd f.resultTypes.toList (v.resultList f.resultTypes.size) (s.fn H (ds ++ gs)).results [])
    (hargs : (s.fn H (ds ++ gs)).args = ds) (hvars : (s.fn H (ds ++ gs)).vars = gs) :
    s.post enc P f apart fresh handsOn false W args v W' := by
  have hW2 := hW
  have hlt : ∀ p ∈ before, p.block < W.heap.size := fun p hp => hW.lt p hp
  obtain ⟨p, q, hA, hV, rfl, hfz, hnd⟩ := hW
  refine ⟨ds, gs, p ++ q, [], p, q, hW2, hres _ _ _, ?_, ?_, hb.frame _, fun h => by cases h⟩
  · rw [hargs]
    exact trodAll_stays hl hts hA (fun x hx => hb.same (hlt x (List.mem_append_left _ hx))) (fun x hx => by simpa using hlt x (List.mem_append_left _ hx))
  · rw [hvars]
    exact Below.trodVars hl hb hvs hV
end
theorem bytes_of {ks : List Int} (h : ∀ k ∈ ks, (Lit.int .u8 k).wf = true) : Bytes ks := by
  intro i
  unfold ith
  cases e : ks[i]? with
  | none => simp
  | some k =>
    have h2 := h k (List.mem_of_getElem? e)
    have h3 : 0 ≤ k ∧ k ≤ 255 := by simpa [Lit.wf, IntKind.min, IntKind.max, IntKind.signed, IntKind.bits] using h2
    show 0 ≤ k ∧ k < 256
    omega
section
variable {H : Type} {enc : TypeId × Value → H} {P : Program} {W : World}
theorem trod_bytes {t e : TypeId} (ht : P.underlying t = some (.slice e)) (he : P.underlying e = some (.int .u8)) (hc : P.cellsOf e = 1) {fuel : Nat} {cs : List Value} {x : DataW H × List MemPlace}
    (h : DataW.trod enc P W 0 (fun _ => true) true fuel t cs = some x) : ∃ v l, cs = [v] ∧ RdB W v l ∧ Bytes l := by
  rcases open_ints ht he hc h with ⟨rfl, _⟩ | ⟨a, len, cap, zs, rfl, hb, hl, hm, hz, _, hcell, hwf⟩
  · exact ⟨_, [], rfl, .inl ⟨none, 0, rfl, fun _ => rfl, rfl⟩, bytes_nil⟩
  · simp only [if_true] at hz
    refine ⟨_, zs.take len, rfl, ?_, bytes_of fun k hk => hwf k (List.mem_of_mem_take hk)⟩
    have hln : (zs.take len).length = len := by rw [List.length_take]; omega
    by_cases h0 : len = 0
    · subst h0
      exact .inl ⟨some a, cap, rfl, (fun h => by cases h), rfl⟩
    · obtain ⟨b, o, spot⟩ := a
      have hspot : spot = none := by simpa [Addr.add] using World.cell?_spot (hcell 0 (by omega))
      subst hspot
      refine .inr ⟨b, o, cap, by rw [hln], by rw [hln]; exact hl, hm, World.block_lt_of_cell? _ _ (hcell 0 (by omega)), fun i hi => ?_⟩
      rw [hln] at hi
      have := hcell i (by omega)
      rw [addr_add] at this
      rw [this]
      simp [ith, List.getD, hi]
end
theorem natOf64 (x : Int) (h : (Lit.int .u64 x).wf = true) : ∃ n : Nat, x = (n : Int) ∧ n < 18446744073709551616 := by
  have h3 : 0 ≤ x ∧ x ≤ 18446744073709551615 := by simpa [Lit.wf, IntKind.min, IntKind.max, IntKind.signed, IntKind.bits] using h
  exact ⟨x.toNat, by omega, by omega⟩
end Go.Proofs.Ytfaojjleapenaab
namespace Go.Proofs.Ytfaojjleapenaab
open Go.ChangeShapes Go.WideShapes Go.ChangeAt Go.WideMaps Go.WideElems Go.RowKit Go.Ytfaojjleapenaab
set_option linter.unusedVariables false
section
variable {H : Type} {enc : TypeId × Value → H} {P : Program} {W : World}
theorem addr_add_spot (a : Addr) (j k : Nat) : (a.add j).add k = a.add (j + k) := by
  by_cases hj : j = 0
  · subst hj; simp [Addr.add]
  · by_cases hk : k = 0
    · subst hk; simp [Addr.add]
    · simp [Addr.add, hj, hk, Nat.add_assoc]
theorem trod_ids {t e e8 : TypeId} (ht : P.underlying t = some (.slice e)) (he : P.underlying e = some (.array 32 e8)) (he8 : P.underlying e8 = some (.int .u8)) (hc8 : P.cellsOf e8 = 1) (hc : P.cellsOf e = 32) {fuel : Nat} {cs : List Value} {x : DataW H × List MemPlace}
    (h : DataW.trod enc P W 0 (fun _ => true) true fuel t cs = some x) : ∃ v n F, cs = [v] ∧ RdI W v n F ∧ Bytes F := by
  rcases DataW.trod_slice ht h with ⟨rfl, _⟩ | ⟨a, len, cap, elems, rest, m, _, rfl, _, hb, hl, hm, hlen, hel, _, _⟩
  · exact ⟨_, 0, [], rfl, .inl ⟨none, 0, rfl, fun _ => rfl, rfl, rfl⟩, bytes_nil⟩
  · have each : ∀ i, i < len → ∃ ks : List Int, ks.length = 32 ∧ Bytes ks ∧ ∀ j, j < 32 → W.cell? (a.add (i * 32 + j)) = some (.int .u8 (ith ks j)) := by
      intro i hi
      have h1 := hel i hi
      have hy : elems[i]? = some elems[i] := List.getElem?_eq_getElem (by omega)
      rw [hc, hy, Option.bind_eq_some_iff] at h1
      obtain ⟨cs', hcs, hy'⟩ := h1
      obtain ⟨ks, e1, e2, e3, _⟩ := trod_ints he he8 hc8 hc hy'
      have hcell := World.cells?_some hcs
      refine ⟨ks, e2, bytes_of e3, fun j hj => ?_⟩
      have h2 := hcell.2.2 j hj
      rw [addr_add_spot, e1] at h2
      rw [h2]
      simp [ith, e2, hj]
    have build : ∀ k, k ≤ len → ∃ F : List Int, F.length = 32 * k ∧ Bytes F ∧ ∀ i, i < 32 * k → W.cell? (a.add i) = some (.int .u8 (ith F i)) := by
      intro k
      induction k with
      | zero => intro _; exact ⟨[], rfl, bytes_nil, fun i hi => by omega⟩
      | succ k ih =>
        intro hk
        obtain ⟨F, f1, f2, f3⟩ := ih (by omega)
        obtain ⟨ks, k1, k2, k3⟩ := each k (by omega)
        refine ⟨F ++ ks, by rw [List.length_append, f1, k1]; omega, bytes_append _ _ f2 k2, fun i hi => ?_⟩
        rw [ith_append, f1]
        split
        · rename_i h; exact f3 i h
        · rename_i h
          have := k3 (i - 32 * k) (by omega)
          rw [show k * 32 + (i - 32 * k) = i by omega] at this
          exact this
    obtain ⟨F, f1, f2, f3⟩ := build len (Nat.le_refl _)
    by_cases h0 : len = 0
    · subst h0
      obtain rfl : F = [] := List.eq_nil_of_length_eq_zero (by omega)
      exact ⟨_, 0, [], rfl, .inl ⟨some a, cap, rfl, (fun h => by cases h), rfl, rfl⟩, bytes_nil⟩
    · obtain ⟨b, o, spot⟩ := a
      have hspot : spot = none := by simpa [Addr.add] using World.cell?_spot (f3 0 (by omega))
      subst hspot
      refine ⟨_, len, F, rfl, .inr ⟨b, o, cap, rfl, hl, hm, World.block_lt_of_cell? _ _ (f3 0 (by omega)), f1, fun i hi => ?_⟩, f2⟩
      have := f3 i (by omega)
      rw [addr_add] at this
      exact this
theorem open_ids {t e e8 : TypeId} {v : Value} {d : DataW H} {p : List MemPlace} (ht : P.underlying t = some (.slice e)) (he : P.underlying e = some (.array 32 e8)) (he8 : P.underlying e8 = some (.int .u8)) (hc8 : P.cellsOf e8 = 1) (hc : P.cellsOf e = 32) (hct : P.cellsOf t = 1)
    {r : Reach} {b0 : Nat} (hv : Value.okWide P W r b0 t v) (h : DataW.Trod enc P W 0 (fun _ => true) true t v d p) : ∃ n F, RdI W v n F ∧ Bytes F := by
  obtain ⟨fuel, hf⟩ := h
  obtain ⟨v', n, F, h1, h2, h3⟩ := trod_ids ht he he8 hc8 hc hf
  refine ⟨n, F, ?_, h3⟩
  unfold Value.okWide at hv
  rw [ht] at hv
  simp only [Cell.okWide, ht] at hv
  cases v <;> simp [Cell.ok, ht] at hv
  simp [Value.cells] at h1
  rw [h1]; exact h2
end
end Go.Proofs.Ytfaojjleapenaab
namespace Go.Proofs.Ytfaojjleapenaab
open Go.ChangeShapes Go.WideShapes Go.ChangeAt Go.WideMaps Go.WideElems Go.RowKit Go.Joins Go.Ytfaojjleapenaab
set_option linter.unusedVariables false
/-- What every frame that comes in has, whatever its sizes. -/
structure Fr.Raw (f : Fr) : Prop where
  k : 0 ≤ f.k ∧ f.k < 256
  N : f.N < 18446744073709551616
  F : Bytes f.F
  L : ∀ i, Bytes (nthL f.L i)
section
variable {H : Type} {enc : TypeId × Value → H} {P : Program} {W : World}
theorem trod_strs {t e e8 : TypeId} (ht : P.underlying t = some (.slice e)) (he : P.underlying e = some (.slice e8)) (he8 : P.underlying e8 = some (.int .u8)) (hc8 : P.cellsOf e8 = 1) (hc : P.cellsOf e = 1) {fuel : Nat} {cs : List Value} {x : DataW H × List MemPlace}
    (h : DataW.trod enc P W 0 (fun _ => true) true fuel t cs = some x) : ∃ v L, cs = [v] ∧ RdS W v L ∧ ∀ i, Bytes (nthL L i) := by
  rcases DataW.trod_slice ht h with ⟨rfl, _⟩ | ⟨a, len, cap, elems, rest, m, _, rfl, _, hb, hl, hm, hlen, hel, _, _⟩
  · exact ⟨_, [], rfl, RdS.nil W, fun i => by rw [num_nil]; exact bytes_nil⟩
  · have each : ∀ i, i < len → ∃ s l, W.cell? (a.add i) = some s ∧ RdB W s l ∧ Bytes l := by
      intro i hi
      have h1 := hel i hi
      have hy : elems[i]? = some elems[i] := List.getElem?_eq_getElem (by omega)
      rw [hc, hy, Option.bind_eq_some_iff] at h1
      obtain ⟨cs', hcs, hy'⟩ := h1
      obtain ⟨s, l, rfl, e2, e3⟩ := trod_bytes he he8 hc8 hy'
      have hcell := (World.cells?_some hcs).2.2 0 (by decide)
      rw [addr_add_spot, Nat.add_zero, Nat.mul_one] at hcell
      exact ⟨s, l, hcell, e2, e3⟩
    have build : ∀ k, k ≤ len → ∃ L : List (List Int), L.length = k ∧ (∀ i, Bytes (nthL L i)) ∧ ∀ i, i < k → ∃ s, W.cell? (a.add i) = some s ∧ RdB W s (nthL L i) := by
      intro k
      induction k with
      | zero => intro _; exact ⟨[], rfl, fun i => by rw [num_nil]; exact bytes_nil, fun i hi => by omega⟩
      | succ k ih =>
        intro hk
        obtain ⟨L, f1, f2, f3⟩ := ih (by omega)
        obtain ⟨s, l, k1, k2, k3⟩ := each k (by omega)
        refine ⟨L ++ [l], by simp [f1], nthL_snoc (p := Bytes) _ _ bytes_nil f2 k3, fun i hi => ?_⟩
        rcases Nat.lt_or_ge i k with h | h
        · rw [nthL_pre _ _ _ (by omega)]; exact f3 i h
        · obtain rfl : i = k := by omega
          rw [show nthL (L ++ [l]) i = l by rw [← f1]; exact nthL_last L l]
          exact ⟨s, k1, k2⟩
    obtain ⟨L, f1, f2, f3⟩ := build len (Nat.le_refl _)
    by_cases h0 : len = 0
    · subst h0
      obtain rfl : L = [] := List.eq_nil_of_length_eq_zero f1
      exact ⟨_, [], rfl, .inl ⟨some a, cap, rfl, (fun h => by cases h), rfl⟩, f2⟩
    · obtain ⟨b, o, spot⟩ := a
      obtain ⟨s0, hs0, _⟩ := f3 0 (by omega)
      have hspot : spot = none := by simpa [Addr.add] using World.cell?_spot hs0
      subst hspot
      refine ⟨_, L, rfl, .inr ⟨b, o, cap, by rw [f1], by rw [f1]; exact hl, hm, World.block_lt_of_cell? _ _ hs0, fun i hi => ?_⟩, f2⟩
      rw [f1] at hi
      have := f3 i hi
      rw [addr_add] at this
      exact this
end
theorem array4 {α : Type} {cs : Array α} (h : cs.size = 4) : ∃ c0 c1 c2 c3, cs = #[c0, c1, c2, c3] := by
  obtain ⟨l⟩ := cs
  match l, h with
  | [c0, c1, c2, c3], _ => exact ⟨c0, c1, c2, c3, rfl⟩
section
variable {H : Type} {enc : TypeId × Value → H} {W : World}
set_option maxRecDepth 10000 in
theorem open_frame {v : Value} {d : DataW H} {p : List MemPlace} {r : Reach} {b0 : Nat} (hv : Value.okWide Try.prog W r b0 26 v) (h : DataW.Trod enc Try.prog W 0 (fun _ => true) true 26 v d p) :
    ∃ (f : Fr) (iv ov : Value), v = .agg (f.c iv ov) ∧ f.Raw ∧ RdI W iv f.n f.F ∧ RdS W ov f.L := by
  obtain ⟨cs, rfl, hsz⟩ := okWide_struct Try.underlying26 hv
  obtain ⟨c0, c1, c2, c3, rfl⟩ := array4 (hsz.trans (by kernel_rfl))
  obtain ⟨fuel, hf⟩ := h
  obtain ⟨y0, y1, y2, y3, n, _, _, e0, e1, e2, e3⟩ := trod_struct4 Try.underlying26 hf
  have kI : Try.prog.cellsOf 23 = 1 := by kernel_rfl
  have k64 : Try.prog.cellsOf 22 = 1 := by kernel_rfl
  have k8 : Try.prog.cellsOf 5 = 1 := by kernel_rfl
  have kS : Try.prog.cellsOf 24 = 1 := by kernel_rfl
  dsimp only at e0 e1 e2 e3
  rw [k8] at e0
  rw [k64] at e1
  rw [kI] at e2
  rw [kS] at e3
  simp only [Value.cells, List.drop_zero, List.take_succ_cons, List.take_zero, List.drop_succ_cons] at e0 e1 e2 e3
  obtain ⟨k, a0, _, w0⟩ := DataW.trod_int Try.underlying5 e0
  obtain ⟨N, a1, _, w1⟩ := DataW.trod_int Try.underlying22 e1
  obtain ⟨iv, m, F, a2, hF, hFb⟩ := trod_ids Try.underlying23 Try.underlying47 Try.underlying5 (by kernel_rfl) (by kernel_rfl) e2
  obtain ⟨ov, L, a3, hL, hLb⟩ := trod_strs Try.underlying24 Try.underlying29 Try.underlying5 (by kernel_rfl) (by kernel_rfl) e3
  obtain ⟨N, rfl, hN⟩ := natOf64 N w1
  have hk : 0 ≤ k ∧ k ≤ 255 := by simpa [Lit.wf, IntKind.min, IntKind.max, IntKind.signed, IntKind.bits] using w0
  refine ⟨⟨k, N, m, F, L⟩, iv, ov, ?_, ⟨⟨hk.1, show k < 256 by omega⟩, hN, hFb, hLb⟩, hF, hL⟩
  rw [(List.cons.inj a0).1, (List.cons.inj a1).1, (List.cons.inj a2).1, (List.cons.inj a3).1]
end
end Go.Proofs.Ytfaojjleapenaab

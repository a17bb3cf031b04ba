/- Texts that the row stands on, part 3. -/
import Derived.Test.YtfaojjleapenaabRNamesFq02
import Derived.OpenShut
import Derived.OpenVars
import Derived.ChangeSlices
namespace Go
namespace Ytfaojjleapenaab
set_option linter.unusedVariables false
section
variable {P : Program} {ops : Array Oper} {md : Region.Mode} {Q : Exit → Act → World → Prop}
/-- What an operation that ends well leaves: a value and a world, of which R is true. -/
def fxUpon (P : Program) (R : Value → World → Prop) : Result Next → Prop
  | .ok (.value v) w' => R v w'
  | .ok .skip w' => R undef w'
  | .ok (.enter f args) w' => Calls P f args w' fun e w'' => ∃ v, e = .returned v ∧ R v w''
  | _ => False
def FxStep (P : Program) (ops : Array Oper) (o : Oper) (a : Act) (w : World) (R : Value → World → Prop) : Prop :=
  if Region.wanted o (yielded ops a.tmps) = true then fxUpon P R ((execOp a.eval o).run P w) else R undef w
theorem fx_wpOp {i : Nat} {o : Oper} {a : Act} {w : World} {R : Value → World → Prop} {K : Act → World → Prop} (hi : ops[i]? = some o) (h : FxStep P ops o a w R) (hK : ∀ v w', R v w' → K (a.put o.dst v) w') : wpOp P ops Q i K a w := by
  unfold wpOp
  simp only [hi]
  unfold FxStep at h
  split
  · rename_i hw
    rw [if_pos hw] at h
    refine .inl ?_
    unfold Oper.wp
    generalize (execOp a.eval o).run P w = r at h
    cases r with
    | halt x w' => cases x <;> exact h.elim
    | ok nx w' =>
      cases nx with
      | value v => exact hK v w' h
      | skip => exact hK undef w' h
      | defer d => exact h.elim
      | row r a => exact h.elim
      | enter f args =>
        refine Calls.mono h fun e w'' he => ?_
        obtain ⟨v, rfl, hR⟩ := he
        exact hK v w'' hR
      | _ => exact h.elim
  · rename_i hw
    rw [if_neg hw] at h
    exact hK undef w h
/-- The frame: those of the first k operations that L names have put their values. -/
def fxF (ops : Array Oper) (vs : Nat → Value) (L : Nat → Bool) (a0 : Act) : Nat → Act
  | 0 => a0
  | k + 1 => if L k = true then (fxF ops vs L a0 k).put ((ops[k]?).bind (·.dst)) (vs k) else fxF ops vs L a0 k
abbrev fxT : Nat → Bool := fun _ => true
theorem put_tmps_ne (a : Act) (x : Option Tmp) (v : Value) (t : Tmp) (h : x ≠ some t) : (a.put x v).tmps[t]? = a.tmps[t]? := by
  cases x with
  | none => rfl
  | some d =>
    have hne : d ≠ t := fun e => h (by rw [e])
    simp [Act.put, Array.getElem?_setIfInBounds_ne hne]
theorem put_tmps_congr (a b : Act) (x : Option Tmp) (v : Value) (t : Tmp) (h : a.tmps[t]? = b.tmps[t]?) : (a.put x v).tmps[t]? = (b.put x v).tmps[t]? := by
  cases x with
  | none => exact h
  | some d =>
    by_cases e : d = t
    · subst e
      simp only [Act.put, Array.getElem?_setIfInBounds, if_true]
      have h1 : d < a.tmps.size ↔ d < b.tmps.size := by
        constructor
        · intro hl
          rw [Array.getElem?_eq_getElem hl] at h
          exact (Array.getElem?_eq_some_iff.1 h.symm).1
        · intro hl
          rw [Array.getElem?_eq_getElem hl] at h
          exact (Array.getElem?_eq_some_iff.1 h).1
      by_cases hl : d < a.tmps.size
      · rw [if_pos hl, if_pos (h1.1 hl)]
      · rw [if_neg hl, if_neg (fun h2 => hl (h1.2 h2))]
    · simp only [Act.put, Array.getElem?_setIfInBounds_ne e]; exact h
theorem eval_tmps (a b : Act) (x : Operand) (h : ∀ t, x = .tmp t → a.tmps[t]? = b.tmps[t]?) : a.eval x = b.eval x := by
  cases x with
  | tmp t => simp only [Act.eval, Array.getD_eq_getD_getElem?, h t rfl]
  | _ => rfl
/-- A slot that the operation i looks at: it has what the lexical order gives. -/
theorem fxF_look (vs : Nat → Value) (L : Nat → Bool) (a0 : Act) (n i : Nat) (hi : i ≤ n) (t : Tmp) (hl : ∀ j, j < n → (ops[j]?).bind (·.dst) = some t → (j < i → L j = true) ∧ (i ≤ j → L j = false)) :
    (fxF ops vs L a0 n).tmps[t]? = (fxF ops vs fxT a0 i).tmps[t]? := by
  have h1 : ∀ k, k ≤ i → (fxF ops vs L a0 k).tmps[t]? = (fxF ops vs fxT a0 k).tmps[t]? := by
    intro k
    induction k with
    | zero => intro _; rfl
    | succ k ih =>
      intro hk
      have ih := ih (by omega)
      simp only [fxF, fxT, if_true]
      by_cases hd : (ops[k]?).bind (·.dst) = some t
      · rw [if_pos ((hl k (by omega) hd).1 (by omega))]
        exact put_tmps_congr _ _ _ _ _ ih
      · rw [put_tmps_ne _ _ _ _ hd]
        split
        · rw [put_tmps_ne _ _ _ _ hd]; exact ih
        · exact ih
  have h2 : ∀ d, i + d ≤ n → (fxF ops vs L a0 (i + d)).tmps[t]? = (fxF ops vs L a0 i).tmps[t]? := by
    intro d
    induction d with
    | zero => intro _; rfl
    | succ d ih =>
      intro hk
      rw [← ih (by omega)]
      show (fxF ops vs L a0 (i + d + 1)).tmps[t]? = _
      simp only [fxF]
      split
      · rename_i hL
        refine put_tmps_ne _ _ _ _ fun hd => ?_
        rw [(hl (i + d) (by omega) hd).2 (by omega)] at hL; cases hL
      · rfl
  have := h2 (n - i) (by omega)
  rw [show i + (n - i) = n by omega] at this
  rw [this, h1 i (Nat.le_refl _)]
theorem fxF_agree (vs vs' : Nat → Value) (L L' : Nat → Bool) (a0 : Act) (k : Nat) (h : ∀ j, j < k → L j = L' j ∧ (L j = true → vs j = vs' j)) : fxF ops vs L a0 k = fxF ops vs' L' a0 k := by
  induction k with
  | zero => rfl
  | succ k ih =>
    have h1 := h k (Nat.lt_succ_self _)
    simp only [fxF]
    rw [ih fun j hj => h j (by omega), ← h1.1]
    split
    · rename_i hL; rw [h1.2 hL]
    · rfl
theorem fxF_put (vs : Nat → Value) (L : Nat → Bool) (a0 : Act) (n i : Nat) (v : Value) (hin : i < n) (hL : L i = false) (hd : ∀ k, i < k → k < n → L k = true → ∀ d, (ops[i]?).bind (·.dst) = some d → (ops[k]?).bind (·.dst) ≠ some d) :
    (fxF ops vs L a0 n).put ((ops[i]?).bind (·.dst)) v = fxF ops (fun j => if j = i then v else vs j) (fun j => if j = i then true else L j) a0 n := by
  have key : ∀ d, i + 1 + d ≤ n → (fxF ops vs L a0 (i + 1 + d)).put ((ops[i]?).bind (·.dst)) v = fxF ops (fun j => if j = i then v else vs j) (fun j => if j = i then true else L j) a0 (i + 1 + d) := by
    intro d
    induction d with
    | zero =>
      intro _
      simp only [fxF, Nat.add_zero, if_true, hL]
      rw [if_neg (by decide)]
      congr 1
      exact fxF_agree _ _ _ _ _ _ fun j hj => by
        have hne : j ≠ i := by omega
        simp [hne]
    | succ d ih =>
      intro hk
      have ih := ih (by omega)
      have hne : i + 1 + d ≠ i := by omega
      show (fxF ops vs L a0 (i + 1 + d + 1)).put _ v = fxF ops _ _ a0 (i + 1 + d + 1)
      simp only [fxF, if_neg hne]
      by_cases hLk : L (i + 1 + d) = true
      · rw [if_pos hLk, if_pos hLk, ← ih]
        exact (Act.put_comm _ _ _ fun d' hd' hd2 => hd (i + 1 + d) (by omega) (by omega) hLk d' hd2 hd').trans rfl
      · rw [if_neg hLk, if_neg hLk]; exact ih
  have := key (n - (i + 1)) (by omega)
  rwa [show i + 1 + (n - (i + 1)) = n by omega] at this
/-- The waiting of the operations, and the frames, as' they are to be; A names for each operation all that must come before it. -/
def fxB (ops : Array Oper) (n : Nat) (A : List (List Nat)) : Bool :=
  Region.noSelect ops && decide (n ≤ ops.size) &&
  ((List.range ops.size).all fun i => match ops[i]? with
    | none => true
    | some o => (o.after.all fun e => !Region.binds .any e || decide (e.on < i)) && ((A.getD i []).all fun j => decide (j < i) && o.after.any fun e => Region.binds .any e && (e.on == j || (A.getD e.on []).contains j))) &&
  ((List.range ops.size).all fun i => decide (i < n) || (List.range n).all fun j => (A.getD i []).contains j) &&
  ((List.range n).all fun i => match ops[i]? with
    | none => true
    | some o => (List.range n).all fun j => match (ops[j]?).bind (·.dst) with
      | none => true
      | some d => (!(o.looksAt ops).contains d || (decide (j < i) && (A.getD i []).contains j) || (decide (i < j) && (A.getD j []).contains i) || decide (j = i)) &&
        (!(o.dst == some d) || decide (j ≤ i) || (A.getD j []).contains i)) &&
  Region.seqB .any ops (ops.size - n) n ((Array.replicate n true) ++ (Array.replicate (ops.size - n) false))
structure FxOk (ops : Array Oper) (n : Nat) (A : List (List Nat)) : Prop where
  sel : Region.noSelect ops = true
  le : n ≤ ops.size
  aft : ∀ i o, ops[i]? = some o → ∀ e ∈ o.after, Region.binds .any e = true → e.on < i
  anc : ∀ i o, ops[i]? = some o → ∀ j ∈ A.getD i [], j < i ∧ ∃ e ∈ o.after, Region.binds .any e = true ∧ (e.on = j ∨ j ∈ A.getD e.on [])
  tail : ∀ i, n ≤ i → i < ops.size → ∀ j, j < n → j ∈ A.getD i []
  look : ∀ i o j d, i < n → j < n → ops[i]? = some o → (ops[j]?).bind (·.dst) = some d → d ∈ o.looksAt ops → (j < i ∧ j ∈ A.getD i []) ∨ (i < j ∧ i ∈ A.getD j []) ∨ j = i
  dst : ∀ i o j d, i < n → j < n → ops[i]? = some o → (ops[j]?).bind (·.dst) = some d → o.dst = some d → i < j → i ∈ A.getD j []
  seq : Region.seqB .any ops (ops.size - n) n ((Array.replicate n true) ++ (Array.replicate (ops.size - n) false)) = true
theorem fxB_ok {n : Nat} {A : List (List Nat)} (h : fxB ops n A = true) : FxOk ops n A := by
  unfold fxB at h
  simp only [Bool.and_eq_true, decide_eq_true_eq] at h
  obtain ⟨⟨⟨⟨⟨h1, h2⟩, h3⟩, h4⟩, h5⟩, h6⟩ := h
  refine ⟨h1, h2, fun i o ho e he hb => ?_, fun i o ho j hj => ?_, fun i hi hs j hj => ?_, fun i o j d hi hj ho hd hl => ?_, fun i o j d hi hj ho hd hl hij => ?_, h6⟩
  · have hi := (Array.getElem?_eq_some_iff.1 ho).1
    have k := List.all_eq_true.1 h3 i (List.mem_range.2 hi)
    simp only [ho, Bool.and_eq_true] at k
    have k1 := Array.all_eq_true'.1 k.1 e he
    simpa [hb] using k1
  · have hi := (Array.getElem?_eq_some_iff.1 ho).1
    have k := List.all_eq_true.1 h3 i (List.mem_range.2 hi)
    simp only [ho, Bool.and_eq_true] at k
    have k1 := List.all_eq_true.1 k.2 j hj
    simp only [Bool.and_eq_true, decide_eq_true_eq] at k1
    refine ⟨k1.1, ?_⟩
    obtain ⟨e, he, hb⟩ := Array.any_eq_true'.1 k1.2
    simp only [Bool.and_eq_true, Bool.or_eq_true, beq_iff_eq, List.contains_iff_mem] at hb
    exact ⟨e, he, hb.1, hb.2⟩
  · have k := List.all_eq_true.1 h4 i (List.mem_range.2 hs)
    rw [Bool.or_eq_true, decide_eq_true_eq] at k
    rcases k with k | k
    · omega
    · have := List.all_eq_true.1 k j (List.mem_range.2 hj)
      simpa using this
  · have k := List.all_eq_true.1 h5 i (List.mem_range.2 hi)
    simp only [ho] at k
    have k1 := List.all_eq_true.1 k j (List.mem_range.2 hj)
    simp only [hd, Bool.and_eq_true] at k1
    have k2 := k1.1
    simp only [Bool.or_eq_true, Bool.and_eq_true, decide_eq_true_eq, List.contains_iff_mem, Bool.not_eq_true'] at k2
    rcases k2 with ((k2 | k2) | k2) | k2
    · have : (o.looksAt ops).contains d = true := by simpa using hl
      rw [this] at k2; cases k2
    · exact .inl k2
    · exact .inr (.inl k2)
    · exact .inr (.inr k2)
  · have k := List.all_eq_true.1 h5 i (List.mem_range.2 hi)
    simp only [ho] at k
    have k1 := List.all_eq_true.1 k j (List.mem_range.2 hj)
    simp only [hd, Bool.and_eq_true] at k1
    have k2 := k1.2
    simp only [Bool.or_eq_true, decide_eq_true_eq, List.contains_iff_mem, Bool.not_eq_true'] at k2
    rcases k2 with (k2 | k2) | k2
    · rw [hl] at k2; simp at k2
    · omega
    · exact k2
theorem looks_tmp {o : Oper} {t : Tmp} (h : .tmp t ∈ o.op.operands) : t ∈ o.looksAt ops := by
  unfold Oper.looksAt
  rw [List.mem_append]
  refine .inl ?_
  rw [List.mem_filterMap]
  exact ⟨.tmp t, by simpa using h, rfl⟩
theorem looks_guard {o : Oper} {g : Nat} {b : Bool} (h : o.guard = some (g, b)) {t : Tmp} (ht : (ops[g]?).bind (·.dst) = some t) : t ∈ o.looksAt ops := by
  unfold Oper.looksAt
  rw [List.mem_append]
  refine .inr ?_
  simp [h, ht]
theorem fx_same {o : Oper} (hs : ∀ cs b, o.op ≠ .select cs b) (a b : Act) (h : ∀ t, t ∈ o.looksAt ops → a.tmps[t]? = b.tmps[t]?) (w : World) (R : Value → World → Prop) : FxStep P ops o a w R = FxStep P ops o b w R := by
  have h1 : execOp a.eval o = execOp b.eval o := execOp_congr o hs fun x hx => eval_tmps a b x fun t ht => h t (looks_tmp (by rw [← ht]; exact hx))
  have h2 : Region.wanted o (yielded ops a.tmps) = Region.wanted o (yielded ops b.tmps) := by
    unfold Region.wanted
    cases hg : o.guard with
    | none => rfl
    | some gw =>
      obtain ⟨g, wnt⟩ := gw
      simp only
      have h3 : yielded ops a.tmps g = yielded ops b.tmps g := by
        unfold yielded
        cases hd : (ops[g]?).bind (·.dst) with
        | none => rfl
        | some t => simp only [Option.bind_some, h t (looks_guard hg hd)]
      rw [h3]
  unfold FxStep
  rw [h1, h2]
theorem anc_listed {n : Nat} {A : List (List Nat)} (hB : FxOk ops n A) {listed : Array Bool} (cl : Closed .any ops listed) :
    ∀ i o, ops[i]? = some o → (∀ e ∈ o.after, Region.binds .any e = true → listed.getD e.on false = true) → ∀ j ∈ A.getD i [], listed.getD j false = true := by
  intro i
  induction i using Nat.strongRecOn with
  | _ i ih =>
    intro o ho hall j hj
    obtain ⟨_, e, he, hb, h | h⟩ := hB.anc i o ho j hj
    · rw [← h]; exact hall e he hb
    · have hon := hB.aft i o ho e he hb
      have hlt : e.on < ops.size := Nat.lt_trans hon (Array.getElem?_eq_some_iff.1 ho).1
      exact ih e.on hon _ (Array.getElem?_eq_getElem hlt) (fun e2 he2 hb2 => cl.2 _ _ (Array.getElem?_eq_getElem hlt) (hall e he hb) e2 he2 hb2) j h
/-- How many of the first n are not listed. -/
def fxLeft (listed : Array Bool) (n : Nat) : Nat := ((List.range n).filter fun j => !listed.getD j false).length
theorem fxLeft_set {listed : Array Bool} {n i : Nat} (hi : i < n) (hs : i < listed.size) (h : listed.getD i false = false) : fxLeft (listed.setIfInBounds i true) n + 1 = fxLeft listed n := by
  have gi : (listed.setIfInBounds i true).getD i false = true := by simp [hs]
  have go : ∀ j, j ≠ i → (listed.setIfInBounds i true).getD j false = listed.getD j false := fun j hj => getD_set_ne false (fun e => hj e.symm)
  have key : ∀ m, fxLeft (listed.setIfInBounds i true) m + (if i < m then 1 else 0) = fxLeft listed m := by
    intro m
    induction m with
    | zero => rfl
    | succ m ih =>
      unfold fxLeft at ih ⊢
      rw [List.range_succ, List.filter_append, List.filter_append, List.length_append, List.length_append, ← ih]
      by_cases e : m = i
      · subst e
        rw [if_neg (Nat.lt_irrefl m), if_pos (Nat.lt_succ_self m)]
        simp only [List.filter_cons, List.filter_nil, gi, h, Bool.not_true, Bool.not_false, if_true, Bool.false_eq_true, if_false, List.length_nil, List.length_cons]
      · rw [show (if i < m + 1 then 1 else 0) = (if i < m then 1 else 0) by
          by_cases h1 : i < m
          · rw [if_pos h1, if_pos (by omega)]
          · rw [if_neg h1, if_neg (by omega)]]
        simp only [List.filter_cons, List.filter_nil, go m e]
        omega
  have := key n
  rw [if_pos hi] at this
  exact this
theorem fxLeft_zero {listed : Array Bool} {n : Nat} (h : fxLeft listed n = 0) : ∀ j, j < n → listed.getD j false = true := fun j hj => by
  have h1 := List.eq_nil_of_length_eq_zero h
  rw [List.filter_eq_nil_iff] at h1
  simpa using h1 j (List.mem_range.2 hj)
theorem fxLeft_pos {listed : Array Bool} {n : Nat} (h : fxLeft listed n ≠ 0) : ∃ j, j < n ∧ listed.getD j false = false := by
  refine Classical.byContradiction fun hn => h ?_
  unfold fxLeft
  rw [List.length_eq_zero_iff, List.filter_eq_nil_iff]
  intro j hj
  have hj := List.mem_range.1 hj
  cases hb : listed.getD j false with
  | true => simp
  | false => exact absurd ⟨j, hj, hb⟩ hn
/-- The operation i may come behind j, if j does not have to come behind i. -/
def fxAfter (A : List (List Nat)) (i j : Nat) : Bool := decide (i ≠ j) && !(A.getD j []).contains i
/-- The operation i may come before j. -/
def fxBefore (A : List (List Nat)) (i j : Nat) : Bool := decide (i ≠ j) && !(A.getD i []).contains j
section
variable {n : Nat} {A : List (List Nat)} {Ψ : Nat → World → Prop} {Φ : Nat → Value → World → Prop} {G : Nat → World → World → Prop} {Inv : World → Prop} {a0 : Act}
theorem fx_any (hB : FxOk ops n A) (hI : ∀ i w w', i < n → Inv w → G i w w' → Inv w')
    (hG : ∀ i j v w w', i < n → j < n → fxAfter A i j = true → Inv w → Φ j v w → G i w w' → Φ j v w')
    (hP : ∀ i j w w', i < n → j < n → fxBefore A i j = true → Inv w → Ψ j w → G i w w' → Ψ j w')
    (hstep : ∀ i o vs w, i < n → ops[i]? = some o → Inv w → Ψ i w → (∀ j, j ∈ A.getD i [] → Φ j (vs j) w) → FxStep P ops o (fxF ops vs fxT a0 i) w fun v w' => Φ i v w' ∧ G i w w')
    (hdone : ∀ vs w, Inv w → (∀ j, j < n → Φ j (vs j) w) → wpList P ops Q (ops.toList.drop n) (fxF ops vs fxT a0 n) w) :
    ∀ (d : Nat) (listed : Array Bool) (vs : Nat → Value) (w : World), Closed .any ops listed → (∀ j, n ≤ j → j < ops.size → listed.getD j false = false) → fxLeft listed n = d → Inv w → (∀ j, j < n → listed.getD j false = false → Ψ j w) →
      (∀ j, j < n → listed.getD j false = true → Φ j (vs j) w) → wpAny P .any ops Q (d + (ops.size - n)) listed (fxF ops vs (fun j => listed.getD j false) a0 n) w := by
  intro d
  induction d with
  | zero =>
    intro listed vs w cl hout hleft hinv hpre hf
    have hall := fxLeft_zero hleft
    have hL : listed = (Array.replicate n true) ++ (Array.replicate (ops.size - n) false) := by
      refine Array.ext (by rw [cl.1]; have := hB.le; simp; omega) fun j hj1 hj2 => ?_
      have e : listed.getD j false = listed[j] := by simp [Array.getD, hj1]
      rw [← e]
      by_cases hjn : j < n
      · rw [hall j hjn, Array.getElem_append_left (by simpa using hjn)]; simp
      · rw [hout j (by omega) (by rw [← cl.1]; exact hj1), Array.getElem_append_right (by simpa using hjn)]; simp
    have hfr : fxF ops vs (fun j => listed.getD j false) a0 n = fxF ops vs fxT a0 n := fxF_agree _ _ _ _ _ _ fun j hj => ⟨hall j hj, fun _ => rfl⟩
    rw [hfr, Nat.zero_add]
    have hlen : (ops.toList.drop n).length = ops.size - n := by simp
    have h := wpAny_of_seq (P := P) (ops := ops) (md := .any) (Q' := Q) (ops.toList.drop n) n listed (fxF ops vs fxT a0 n) w (fun j => by simp [List.getElem?_drop]) (by rw [hlen, hL]; exact hB.seq) (hdone vs w hinv fun j hj => hf j hj (hall j hj))
    rwa [hlen] at h
  | succ d ih =>
    intro listed vs w cl hout hleft hinv hpre hf
    rw [show d + 1 + (ops.size - n) = (d + (ops.size - n)) + 1 by omega]
    refine ⟨fun hnil => ?_, fun i hi => ?_⟩
    · exfalso
      obtain ⟨j, hj, hju⟩ := fxLeft_pos (listed := listed) (n := n) (by omega)
      have hex : ∃ j, j ∈ Region.ready .any ops listed := by
        clear hnil
        induction j using Nat.strongRecOn with
        | _ j jh =>
          have hlt : j < ops.size := Nat.lt_of_lt_of_le hj hB.le
          by_cases ha : ∀ e ∈ ops[j].after, Region.binds .any e = true → listed.getD e.on false = true
          · refine ⟨j, mem_ready.2 ⟨?_, _, Array.getElem?_eq_getElem hlt, ha⟩⟩
            have hjs : j < listed.size := by rw [cl.1]; exact hlt
            simp [Array.getD, hjs] at hju ⊢
            exact hju
          · obtain ⟨e, he⟩ := Classical.not_forall.1 ha
            obtain ⟨he1, he2⟩ := Classical.not_imp.1 he
            obtain ⟨hb, hu⟩ := Classical.not_imp.1 he2
            have hon := hB.aft j _ (Array.getElem?_eq_getElem hlt) e he1 hb
            exact jh e.on hon (by omega) (by simpa using hu)
      obtain ⟨j', hj'⟩ := hex
      rw [hnil] at hj'; cases hj'
    · obtain ⟨hiu, o, ho, hall⟩ := mem_ready.1 hi
      have his : i < ops.size := (Array.getElem?_eq_some_iff.1 ho).1
      have hils : i < listed.size := by rw [cl.1]; exact his
      have hif : listed.getD i false = false := by simp [Array.getD, hils] at hiu ⊢; exact hiu
      have hanc := anc_listed hB cl i o ho hall
      rcases Nat.lt_or_ge i n with hin | hin
      · have hlk : ∀ t, t ∈ o.looksAt ops → (fxF ops vs (fun j => listed.getD j false) a0 n).tmps[t]? = (fxF ops vs fxT a0 i).tmps[t]? := fun t ht =>
          fxF_look vs _ a0 n i (Nat.le_of_lt hin) t fun j hj hd => by
            rcases hB.look i o j t hin hj ho hd ht with ⟨h1, h2⟩ | ⟨h1, h2⟩ | h1
            · exact ⟨fun _ => hanc j h2, fun h => by omega⟩
            · refine ⟨fun h => by omega, fun _ => ?_⟩
              cases hb : listed.getD j false with
              | false => rfl
              | true =>
                have hjs : j < ops.size := Nat.lt_of_lt_of_le hj hB.le
                have := anc_listed hB cl j _ (Array.getElem?_eq_getElem hjs) (fun e he hb2 => cl.2 j _ (Array.getElem?_eq_getElem hjs) hb e he hb2) i h2
                rw [hif] at this; cases this
            · subst h1; exact ⟨fun h => by omega, fun _ => hif⟩
        have hsel : ∀ cs b, o.op ≠ .select cs b := fun cs b => Region.noSelect_spec hB.sel i o cs b ho
        have hst := hstep i o vs w hin ho hinv (hpre i hin hif) fun j hj => hf j (by have := (hB.anc i o ho j hj).1; omega) (hanc j hj)
        rw [← fx_same hsel _ _ hlk] at hst
        refine fx_wpOp ho hst fun v w' ⟨hΦ, hg⟩ => ?_
        have hdd : o.dst = (ops[i]?).bind (·.dst) := by rw [ho]; rfl
        have hfp := fxF_put (ops := ops) vs (fun j => listed.getD j false) a0 n i v hin hif fun k hk hkn hLk d' hd' hd2 => by
          have hks : k < ops.size := Nat.lt_of_lt_of_le hkn hB.le
          rw [ho] at hd'
          have h2 := hB.dst i o k d' hin hkn ho hd2 hd' hk
          have := anc_listed hB cl k _ (Array.getElem?_eq_getElem hks) (fun e he hb2 => cl.2 k _ (Array.getElem?_eq_getElem hks) hLk e he hb2) i h2
          rw [hif] at this; cases this
        rw [hdd, hfp]
        have hfr : fxF ops (fun j => if j = i then v else vs j) (fun j => if j = i then true else listed.getD j false) a0 n = fxF ops (fun j => if j = i then v else vs j) (fun j => (listed.setIfInBounds i true).getD j false) a0 n := fxF_agree _ _ _ _ _ _ fun j hj => by
          refine ⟨?_, fun _ => rfl⟩
          by_cases e : j = i
          · subst e; simp [hils]
          · rw [if_neg e, getD_set_ne false (fun h => e h.symm)]
        rw [hfr]
        refine ih _ _ _ (cl.set hi) (fun j h1 h2 => ?_) ?_ (hI i w w' hin hinv hg) (fun j hj hjl => ?_) fun j hj hjl => ?_
        · rw [getD_set_ne false (by omega)]; exact hout j h1 h2
        · have := fxLeft_set hin hils hif; omega
        · by_cases e : j = i
          · subst e; simp [hils] at hjl
          · rw [getD_set_ne false (fun h => e h.symm)] at hjl
            refine hP i j w w' hin hj ?_ hinv (hpre j hj hjl) hg
            unfold fxBefore
            have hni : j ∉ A.getD i [] := fun hm => by rw [hanc j hm] at hjl; cases hjl
            rw [Bool.and_eq_true, decide_eq_true_eq]
            exact ⟨fun h => e h.symm, by simpa using hni⟩
        · by_cases e : j = i
          · subst e; simp only [if_true]; exact hΦ
          · simp only [if_neg e]
            rw [getD_set_ne false (fun h => e h.symm)] at hjl
            refine hG i j (vs j) w w' hin hj ?_ hinv (hf j hj hjl) hg
            unfold fxAfter
            have hjs : j < ops.size := Nat.lt_of_lt_of_le hj hB.le
            have hni : i ∉ A.getD j [] := fun hm => by
              have := anc_listed hB cl j _ (Array.getElem?_eq_getElem hjs) (fun e he hb2 => cl.2 j _ (Array.getElem?_eq_getElem hjs) hjl e he hb2) i hm
              rw [hif] at this; cases this
            rw [Bool.and_eq_true, decide_eq_true_eq]
            exact ⟨fun h => e h.symm, by simpa using hni⟩
      · exfalso
        obtain ⟨j, hj, hju⟩ := fxLeft_pos (listed := listed) (n := n) (by omega)
        have := hanc j (hB.tail i hin his j hj)
        rw [hju] at this; cases this
/-- **A region that draws its order**: one fact for each of its first n operations, kept by all that may come behind it; what comes behind them is walked as' a list. -/
theorem wp_region_fx {id : Nat} {w : World} {l : List Oper} (n : Nat) (A : List (List Nat)) (hm : P.follows .mixedOrders = true) (hB : fxB l.toArray n A = true)
    (Φ : Nat → Value → World → Prop) (G : Nat → World → World → Prop) (Inv : World → Prop) (Ψ : Nat → World → Prop) (h0 : Inv { w with drawn := w.drawn + 1 }) (hp0 : ∀ j, j < n → Ψ j { w with drawn := w.drawn + 1 })
    (hI : ∀ i w w', i < n → Inv w → G i w w' → Inv w')
    (hG : ∀ i j v w w', i < n → j < n → fxAfter A i j = true → Inv w → Φ j v w → G i w w' → Φ j v w')
    (hP : ∀ i j w w', i < n → j < n → fxBefore A i j = true → Inv w → Ψ j w → G i w w' → Ψ j w')
    (hstep : ∀ i o vs w, i < n → l.toArray[i]? = some o → Inv w → Ψ i w → (∀ j, j ∈ A.getD i [] → Φ j (vs j) w) → FxStep P l.toArray o (fxF l.toArray vs fxT a0 i) w fun v w' => Φ i v w' ∧ G i w w')
    (hdone : ∀ vs w, Inv w → (∀ j, j < n → Φ j (vs j) w) → wpList P l.toArray Q (l.drop n) (fxF l.toArray vs fxT a0 n) w) : (Code.region id l.toArray true).wp P Q a0 w := by
  have hk := fxB_ok hB
  have cl0 : Closed .any l.toArray (Array.replicate l.toArray.size false) := ⟨by simp, fun j oj _ hl => (by rw [getD_replicate_false] at hl; cases hl)⟩
  have hl0 : fxLeft (Array.replicate l.toArray.size false) n = n := by
    unfold fxLeft
    rw [List.filter_eq_self.2 (fun j _ => by rw [getD_replicate_false]; rfl), List.length_range]
  have h := fx_any (a0 := a0) hk hI hG hP hstep (fun vs w h1 h2 => by simpa using hdone vs w h1 h2) n (Array.replicate l.toArray.size false) (fun _ => undef) { w with drawn := w.drawn + 1 } cl0 (fun j _ _ => getD_replicate_false _ _) hl0 h0 (fun j hj _ => hp0 j hj) (fun j _ hl => by rw [getD_replicate_false] at hl; cases hl)
  have hfr : fxF l.toArray (fun _ => undef) (fun j => (Array.replicate l.toArray.size false).getD j false) a0 n = a0 := by
    have : ∀ k, fxF l.toArray (fun _ => undef) (fun j => (Array.replicate l.toArray.size false).getD j false) a0 k = a0 := by
      intro k
      induction k with
      | zero => rfl
      | succ k ih =>
        show (if (Array.replicate l.toArray.size false).getD k false = true then _ else _) = a0
        rw [getD_replicate_false, if_neg (by decide)]; exact ih
    exact this n
  rw [hfr, show n + (l.toArray.size - n) = l.toArray.size by have := hk.le; omega] at h
  exact wp_region_any hm h
end
/-- The last of the first i operations that puts its value into the slot t. -/
def fxLast (ops : Array Oper) (t : Tmp) : Nat → Option Nat
  | 0 => none
  | k + 1 => if ((ops[k]?).bind (·.dst) == some t) = true then some k else fxLast ops t k
theorem fx_old {vs : Nat → Value} {a0 : Act} {t : Tmp} : ∀ i, fxLast ops t i = none → (fxF ops vs fxT a0 i).eval (.tmp t) = a0.eval (.tmp t)
  | 0, _ => rfl
  | k + 1, h => by
    unfold fxLast at h
    split at h
    · cases h
    · rename_i hd
      simp only [fxF, fxT, if_true]
      rw [eval_tmps _ (fxF ops vs fxT a0 k) (.tmp t) (fun t' e => by
        injection e with e
        subst e
        exact put_tmps_ne _ _ _ _ (by simpa using hd))]
      exact fx_old k h
theorem fxF_size {vs : Nat → Value} {a0 : Act} (k : Nat) : (fxF ops vs fxT a0 k).tmps.size = a0.tmps.size := by
  induction k with
  | zero => rfl
  | succ k ih =>
    simp only [fxF, fxT, if_true]
    cases (ops[k]?).bind (·.dst) with
    | none => exact ih
    | some d => simp [Act.put, ih]
theorem fx_new {vs : Nat → Value} {a0 : Act} {t : Tmp} {j : Nat} (ht : t < a0.tmps.size) : ∀ i, fxLast ops t i = some j → (fxF ops vs fxT a0 i).eval (.tmp t) = vs j
  | 0, h => by cases h
  | k + 1, h => by
    unfold fxLast at h
    simp only [fxF, fxT, if_true]
    split at h
    · rename_i hd
      injection h with h
      subst h
      rw [show (ops[k]?).bind (·.dst) = some t by simpa using hd]
      have hs : t < (fxF ops vs fxT a0 k).tmps.size := by rw [fxF_size]; exact ht
      simp [Act.eval, Act.put, Array.getD_eq_getD_getElem?, hs]
    · rename_i hd
      rw [eval_tmps _ (fxF ops vs fxT a0 k) (.tmp t) (fun t' e => by
        injection e with e
        subst e
        exact put_tmps_ne _ _ _ _ (by simpa using hd))]
      exact fx_new ht k h
section
variable {o : Oper} {a : Act} {w : World} {R : Value → World → Prop}
theorem fx_val {v : Value} {w' : World} (hw : Region.wanted o (yielded ops a.tmps) = true) (h : (execOp a.eval o).run P w = .ok (.value v) w') (hR : R v w') : FxStep P ops o a w R := by
  unfold FxStep
  rw [if_pos hw, h]
  exact hR
theorem fx_call {T : Array TypeId} {f : FuncId} {fn : Func} {c : Code} {xs : Array Operand} (us : Array Value) (hw : Region.wanted o (yielded ops a.tmps) = true) (ho : o.op = .call { callee := .value (.func f), args := xs, argTypes := T })
    (hf : P.funcs[f]? = some fn) (hname : (fn.name == "runtime.NumGoroutine") = false) (hb : fn.body = some c) (hx : xs.map a.eval = us) (h3 : a.eval (.func f) = .func (.func f) #[] #[])
    (hc : Calls P f us w fun e w'' => ∃ v, e = .returned v ∧ R v w'') : FxStep P ops o a w R := by
  have hn : fn.name ≠ "runtime.NumGoroutine" := by simpa using hname
  unfold FxStep
  rw [if_pos hw]
  unfold execOp
  generalize a.eval = ev at *
  have hr : (callFunc f us).run P w = .ok (.enter f us) w := by simp [callFunc, hf, hn, hb]
  simp only [ho]
  simp [go_sem, hx, h3]
  rw [hr]
  exact hc
end
end
end Ytfaojjleapenaab
end Go
namespace Go.Proofs.Ytfaojjleapenaab
open Go.ChangeShapes Go.WideShapes Go.ChangeAt Go.WideMaps Go.WideElems Go.RowKit Go.Ytfaojjleapenaab
set_option linter.unusedVariables false
theorem own : ownKnob Try.prog.godebug = none := by kernel_rfl
theorem laidOut : laidOutB Try.prog = true := by kernel_rfl
section
variable {H : Type} {enc : TypeId × Value → H} {P : Program} {w : World} {base : Nat} {sp : Nat → Bool} {held : Bool}
theorem trodAll_stays (hl : laidOutB P = true) {W W' : World} {sp' : Nat → Bool} : ∀ {ts : List TypeId} {vs : List Value} {ds : List (DataW H)} {ps : List MemPlace}, (∀ t ∈ ts, P.readableRec t = true ∧ t < P.types.size) →
    DataW.TrodAll enc P W base (fun _ => true) true ts vs ds ps → (∀ p ∈ ps, W.sameAt W' p) → (∀ p ∈ ps, sp' p.block = true) → DataW.TrodAll enc P W' base sp' true ts vs ds ps
  | [], [], [], _, _, h, _, _ => h
  | [], [], _ :: _, _, _, h, _, _ => h.elim
  | [], _ :: _, _, _, _, h, _, _ => by cases ‹List (DataW H)› <;> exact h.elim
  | _ :: _, [], _, _, _, h, _, _ => by cases ‹List (DataW H)› <;> exact h.elim
  | _ :: _, _ :: _, [], _, _, h, _, _ => h.elim
  | t :: ts, v :: vs, d :: ds, ps, ht, h, hs, hp => by
    obtain ⟨p, q, h1, h2, rfl⟩ := h
    obtain ⟨r1, r2⟩ := ht t List.mem_cons_self
    exact ⟨p, q, Trod_stays hl r1 r2 h1 (fun x hx => hs x (List.mem_append_left _ hx)) (fun x hx => hp x (List.mem_append_left _ hx)),
      trodAll_stays hl (fun u hu => ht u (List.mem_cons_of_mem _ hu)) h2 (fun x hx => hs x (List.mem_append_right _ hx)) (fun x hx => hp x (List.mem_append_right _ hx)), rfl⟩
/-- A law's end: true, in a world whose old memory is as' it was. -/
theorem law_post {f : Func} {s : ChangeSpec} {apart fresh handsOn : Bool} {W W' : World} {args : Array Value} {v : Value} {ds gs : List (DataW H)} {before : List MemPlace} (hl : laidOutB P = true)
    (hts : ∀ t ∈ f.params.toList, P.readableRec t = true ∧ t < P.types.size) (hvs : varsRowed P s.vars = true)
    (hW : DataW.Whole enc P f.params.toList s.vars apart W args.toList ds gs before) (hb : Below W.heap.size W W')
    (hres : ∀ (b : Nat) (sp : Nat → Bool) (hd : Bool), DataW.TrodAll enc P W' b sp hd f.resultTypes.toList (v.resultList f.resultTypes.size) (s.fn H (ds ++ gs)).results [])
    (hargs : (s.fn H (ds ++ gs)).args = ds) (hvars : (s.fn H (ds ++ gs)).vars = gs) :
    s.post enc P f apart fresh handsOn false W args v W' := by
  have hW2 := hW
  have hlt : ∀ p ∈ before, p.block < W.heap.size := fun p hp => hW.lt p hp
  obtain ⟨p, q, hA, hV, rfl, hfz, hnd⟩ := hW
  refine ⟨ds, gs, p ++ q, [], p, q, hW2, hres _ _ _, ?_, ?_, hb.frame _, fun h => by cases h⟩
  · rw [hargs]
    exact trodAll_stays hl hts hA (fun x hx => hb.same (hlt x (List.mem_append_left _ hx))) (fun x hx => by simpa using hlt x (List.mem_append_left _ hx))
  · rw [hvars]
    exact Below.trodVars hl hb hvs hV
end
section
variable {H : Type} {enc : TypeId × Value → H} {P : Program} {W : World}
end
end Go.Proofs.Ytfaojjleapenaab
namespace Go.Proofs.Ytfaojjleapenaab
open Go.RowKit Go.Ytfaojjleapenaab
set_option linter.unusedVariables false
theorem range_belowW {w w' : World} {b o : Nat} {cs : List Value} (hr : w.rangeAt b o cs) (hb : b < w.heap.size) (h : Below w.heap.size w w') : w'.rangeAt b o cs :=
  fun j v hv => (h.cell (p := (⟨b, o + j, none⟩ : Addr)) hb).trans (hr j v hv)
theorem range_appW {w : World} {b o : Nat} {xs ys : List Value} (h : w.rangeAt b o (xs ++ ys)) : w.rangeAt b o xs ∧ w.rangeAt b (o + xs.length) ys :=
  ⟨fun j v hv => h j v (by rw [List.getElem?_append_left (List.getElem?_eq_some_iff.1 hv).1]; exact hv), fun j v hv => by
    rw [Nat.add_assoc]; exact h _ v (by rw [List.getElem?_append_right (Nat.le_add_right _ _), Nat.add_sub_cancel_left]; exact hv)⟩
theorem owns_rangeW {w : World} {B z : Nat} {E : TypeId} {v : Value} {m : Nat} {xs : List Value} (h : w.ownsRow B E z v m xs) (hm : m ≠ 0) : ∃ g c, v = .slice (some ⟨g, 0, none⟩) m c ∧ g < w.heap.size ∧ w.rangeAt g 0 xs := by
  rcases h.2 with ⟨_, h0⟩ | ⟨g, cap, cur, rfl, hbg, hgr, hcn, hcm, hcs, hct⟩
  · exact absurd h0 hm
  · refine ⟨g, cap, rfl, (Array.getElem?_eq_some_iff.1 hgr).1, fun j v hv => ?_⟩
    rw [Nat.zero_add, cell_of_row _ _ _ _ _ _ hgr]
    rw [← hct, List.getElem?_take] at hv
    split at hv
    · rw [← Array.getElem?_toList]; exact hv
    · cases hv
def splL (k : Int) (n : Nat) (F : List Int) : List Fr := if idsK k = true ∧ n ≤ 60 ∧ riseF F n = true then (if n ≤ 40 then [⟨k, 0, n, F, []⟩] else [⟨k, 0, 40, F.take (32 * 40), []⟩, ⟨k, 0, n - 40, F.drop (32 * 40), []⟩]) else []
def splE (k : Int) (n : Nat) (F : List Int) : Int := if idsK k = true then (if n ≤ 60 then (if riseF F n = true then 0 else 32) else 4) else 2
def nthF (S : List Fr) (i : Nat) : Fr := S[i]?.getD ⟨0, 0, 0, [], []⟩
def RdFs (w : World) (v : Value) (S : List Fr) : Prop := (S = [] ∧ v = .slice none 0 0) ∨ ∃ g c, v = .slice (some ⟨g, 0, none⟩) S.length c ∧ g < w.heap.size ∧ ∀ i, i < S.length → ∃ xa xc, w.rangeAt g (i * 4) ((nthF S i).c (.slice xa (nthF S i).n xc) (.slice none 0 0)).toList ∧ RdI w (.slice xa (nthF S i).n xc) (nthF S i).n (nthF S i).F
theorem RdFs.mono {w w' : World} {v : Value} {S : List Fr} (h : RdFs w v S) (hb : Below w.heap.size w w') : RdFs w' v S := by
  rcases h with h | ⟨g, c, e, hg, h⟩
  · exact .inl h
  · refine .inr ⟨g, c, e, Nat.lt_of_lt_of_le hg hb.size, fun i hi => ?_⟩
    obtain ⟨xa, xc, h1, h2⟩ := h i hi
    exact ⟨xa, xc, range_belowW h1 hg hb, h2.mono hb⟩
theorem RdFs.slice {w : World} {v : Value} {S : List Fr} (h : RdFs w v S) : ∃ a c, v = .slice a S.length c := by
  rcases h with ⟨rfl, rfl⟩ | ⟨g, c, e, _⟩
  · exact ⟨none, 0, rfl⟩
  · exact ⟨_, c, e⟩
theorem split_fs {k : Int} {n : Nat} {F : List Int} {w w' : World} {e : Ending} (h : splitPost k n F w e w') : ∃ a c, e = .returned (.tuple #[.slice a (splL k n F).length c, .int .i64 (splE k n F)]) ∧ RdFs w' (.slice a (splL k n F).length c) (splL k n F) ∧ Below w.heap.size w w' := by
  unfold splitPost at h
  obtain ⟨hb, h⟩ := h
  unfold splL splE
  by_cases h1 : idsK k = true
  · rw [if_pos h1] at h
    by_cases h2 : n ≤ 60
    · rw [if_pos h2] at h
      by_cases h3 : riseF F n = true
      · rw [if_pos h3] at h
        rw [if_pos ⟨h1, h2, h3⟩, if_pos h1, if_pos h2, if_pos h3]
        obtain ⟨v, rfl, ⟨h4, xa, xc, h5, h6⟩ | ⟨h4, xa, xc, ya, yc, h5, h6, h7⟩⟩ := h
        · rw [if_pos h4]
          obtain ⟨g, c, rfl, h8, h9⟩ := owns_rangeW h5 (by decide)
          refine ⟨_, c, rfl, .inr ⟨g, c, rfl, h8, fun i hi => ?_⟩, hb⟩
          match i, hi with
          | 0, _ => exact ⟨xa, xc, by rw [Nat.zero_mul]; exact h9, h6.rd⟩
          | i + 1, hi => exact absurd hi (by simp)
        · rw [if_neg (by omega)]
          obtain ⟨g, c, rfl, h8, h9⟩ := owns_rangeW h5 (by decide)
          refine ⟨_, c, rfl, .inr ⟨g, c, rfl, h8, fun i hi => ?_⟩, hb⟩
          match i, hi with
          | 0, _ => exact ⟨xa, xc, by rw [Nat.zero_mul]; exact (range_appW h9).1, h6.rd⟩
          | 1, _ => exact ⟨ya, yc, (range_appW h9).2, h7.rd⟩
          | i + 2, hi => exact absurd hi (by simp)
      · rw [if_neg h3] at h
        rw [if_neg (fun x => h3 x.2.2), if_pos h1, if_pos h2, if_neg h3]
        exact ⟨none, 0, h, .inl ⟨rfl, rfl⟩, hb⟩
    · rw [if_neg h2] at h
      rw [if_neg (fun x => h2 x.2.1), if_pos h1, if_neg h2]
      exact ⟨none, 0, h, .inl ⟨rfl, rfl⟩, hb⟩
  · rw [if_neg h1] at h
    rw [if_neg (fun x => h1 x.1), if_neg h1]
    exact ⟨none, 0, h, .inl ⟨rfl, rfl⟩, hb⟩
end Go.Proofs.Ytfaojjleapenaab
namespace Go.Proofs.Ytfaojjleapenaab
open Go.RowKit Go.Ytfaojjleapenaab
set_option linter.unusedVariables false
def idOf (k : Int) : List Int := k :: zerosB 31
def risF : Nat → List Int
  | 0 => []
  | k + 1 => risF k ++ idOf k
set_option maxHeartbeats 2000000 in
set_option maxRecDepth 100000 in
theorem ups_any (n : Nat) (hn : n ≤ 200) (w : World) :
    Calls Try.prog 15 #[.int .i64 n] w fun e w' => ∃ a c, e = .returned (.slice a n c) ∧ OwnI w.heap.size 47 w' (.slice a n c) n (risF n) ∧ Below w.heap.size w w' := by
  go_enter Try.func15, Try.ntmps15
  go_wp2
  go_loopw [3, 4] (fun x i wr => ∃ k : Nat, k ≤ n ∧ i = .int .i64 k ∧ OwnI w.heap.size 47 wr x k (risF k) ∧ Below w.heap.size w wr) (fun _ i _ => n - (intOf i).toNat)
  case atStart => exact ⟨0, by omega, rfl, OwnI.nil w _ _, Below.refl _ _⟩
  case round =>
    obtain ⟨k, hk, rfl, ho, hb⟩ := hrel
    have ho' := Lib.hid ho; have hb' := Lib.hid hb
    clear ho hb
    by_cases hlt : k < n
    · go_wp2_with (refine appendI rfl _ _ 23 rfl w.heap.size 47 Try.underlying23 (by kernel_rfl) _ rfl k (risF k) (ho'.out.kept (below_a wr (.cells (u8s (idOf k)) 47))) wr.heap.size 1 rfl (idOf k) (by simp [idOf, zerosB_length]) 47 (heap_alloc_new wr _) (by omega) (by have := hb'.out.size; simp; omega) ?_)
      intro v' w' h1 h2
      have hb2 := Lib.hid ((hb'.out.alloc hb'.out.size (.cells (u8s (idOf k)) 47)).trans ((ho'.out.kept (below_a wr (.cells (u8s (idOf k)) 47))).below h2 (by have := hb'.out.size; simp; omega)))
      have ho2 := Lib.hid h1
      clear h1 h2
      refine Stop.go ?_
      go_wp2
      go_roundw
      case rel => exact ⟨k + 1, by omega, by go_num, ho2.out, hb2.out⟩
      case measure => simp [intOf]; omega
    · obtain rfl : k = n := by omega
      obtain ⟨va, vc, rfl⟩ := ho'.out.rd.slice
      go_wp2
      go_ret
      exact ⟨va, vc, rfl, ho'.out, hb'.out⟩
end Go.Proofs.Ytfaojjleapenaab
namespace Go.Proofs.Ytfaojjleapenaab
open Go.RowKit Go.Ytfaojjleapenaab
set_option linter.unusedVariables false
theorem ans_none {b : List Int} (h : parseF b = none) {w w' : World} {e : Ending} (hp : parsePost w b e w') : e = .returned (.tuple #[.agg ((kF 0).c (.slice none 0 0) (.slice none 0 0)), .int .i64 12]) ∧ Below w.heap.size w w' :=
  ⟨hp.2.1 h, hp.1⟩
theorem ans_some {b : List Int} {f : Fr} (h : parseF b = some f) {w w' : World} {e : Ending} (hp : parsePost w b e w') : ∃ ia ic oa oc, e = .returned (.tuple #[.agg (f.c (.slice ia f.n ic) (.slice oa f.L.length oc)), .int .i64 0]) ∧ HeldI w.heap.size w' (.slice ia f.n ic) f.n f.F ∧ HeldS w.heap.size w' (.slice oa f.L.length oc) f.L ∧ Below w.heap.size w w' := by
  obtain ⟨iv, ov, h1, h2, h3⟩ := hp.2.2 f h
  obtain ⟨ia, ic, rfl⟩ := (heldI_rd h2).slice
  obtain ⟨oa, oc, rfl⟩ := (heldS_rd h3).slice
  exact ⟨ia, ic, oa, oc, h1, h2, h3, hp.1⟩
theorem sameFr_me (f : Fr) : sameFr f f = true := sameFr_all rfl rfl (sameF_self _) rfl
set_option maxHeartbeats 2000000 in
set_option maxRecDepth 100000 in
theorem refused_any (b : List Int) (hb : Bytes b) (hn : parseF b = none) (bv : Value) (w : World) (hr : RdB w bv b) :
    Calls Try.prog 16 #[bv] w fun e w' => e = .returned (.bool true) ∧ Below w.heap.size w w' := by
  have hP := Lib.hid ((parse_any b bv w hr hb).mono fun e w' hp => ans_none hn hp)
  obtain ⟨ba, bc, rfl⟩ := hr.slice
  clear hr hn hb
  go_enter Try.func16, Try.ntmps16
  go_wp2_with (go_at_call 28; (with_reducible refine (hP.out).mono ?_); rintro e w3 ⟨rfl, h3⟩; have hB := Lib.hid h3; clear h3)
  go_ret
  exact ⟨rfl, hB.out.alloc hB.out.size _⟩
set_option maxHeartbeats 2000000 in
set_option maxRecDepth 100000 in
theorem is_any (f : Fr) (ff : f.Fit) (h0 : frOk f = true) (hby : Bytes (frB f)) (iv ov bv : Value) (w : World) (hi : RdI w iv f.n f.F) (ho : RdS w ov f.L) (hr : RdB w bv (frB f)) :
    Calls Try.prog 17 #[.agg (f.c iv ov), bv] w fun e w' => e = .returned (.bool true) ∧ Below w.heap.size w w' := by
  obtain ⟨W, hW⟩ : ∃ W, W = w.alloc (.cells (f.c iv ov) 26) := ⟨_, rfl⟩
  have hr0 := heap_alloc_new w (.cells (f.c iv ov) 26)
  have hb0 := (Below.refl w.heap.size w).alloc (Nat.le_refl _) (.cells (f.c iv ov) 26)
  rw [← hW] at hr0 hb0
  obtain ⟨ia, ic, rfl⟩ := hi.slice
  obtain ⟨oa, oc, rfl⟩ := ho.slice
  obtain ⟨ba, bc, rfl⟩ := hr.slice
  have hlt := (Array.getElem?_eq_some_iff.1 hr0).1
  have hrows := Lib.hid (fun (wz : World) (h : Below W.heap.size W wz) => rowB hr0 h hlt)
  have hb1 := Lib.hid hb0
  have hB := Lib.hid (Below.refl W.heap.size W)
  have hIr := Lib.hid (fun (wz : World) (h : Below W.heap.size W wz) => (hi.mono hb0).mono h)
  have hOr := Lib.hid (fun (wz : World) (h : Below W.heap.size W wz) => (ho.mono hb0).mono h)
  have hBr := Lib.hid (fun (wz : World) (h : Below W.heap.size W wz) => (hr.mono hb0).mono h)
  have hE := Lib.hid (fun (wz : World) (h : Below W.heap.size W wz) => (frEncode_ok f ff h0 _ _ wz (hIr.out wz h) (hOr.out wz h)).mono fun e w' q => (show ∃ sa sc, e = .returned (.tuple #[.slice sa (frB f).length sc, .int .i64 0]) ∧ RdB w' (.slice sa (frB f).length sc) (frB f) ∧ Below wz.heap.size wz w' from by
    obtain ⟨sv, q1, q2, q3⟩ := q
    obtain ⟨sa, sc, rfl⟩ := q2.rd.slice
    exact ⟨sa, sc, q1, q2.rd, q3⟩))
  have hP := Lib.hid (fun (wz : World) (h : Below W.heap.size W wz) => (parse_any (frB f) _ wz (hBr.out wz h) hby).mono fun e w' hp => ans_some (parse_fr ff h0) hp)
  have hZ : (frB f).length ≤ 140737488355328 := by have := (frOk_parts h0).2; omega
  have hsb := Lib.hid (fun (va : Value) (wx : World) (ha : RdB wx va (frB f)) (hb : RdB wx (.slice ba (frB f).length bc) (frB f)) => (same_any va _ (frB f) (frB f) wx hZ ha hb).mono fun e w' ⟨q1, q2⟩ => (show e = Ending.returned (.bool true) ∧ Below wx.heap.size wx w' from ⟨by rw [q1, sameF_self], q2.below (Below.refl _ _)⟩))
  have hSm := Lib.hid (fun (ia' : Option Addr) (ic' : Nat) (oa' : Option Addr) (oc' : Nat) (wz : World) (h : Below W.heap.size W wz) (h1 : RdI wz (.slice ia' f.n ic') f.n f.F) (h2 : RdS wz (.slice oa' f.L.length oc') f.L) => (sameFr_any f f ff.n ff.l ff.s _ _ _ _ wz (hIr.out wz h) (hOr.out wz h) h1 h2).mono fun e w' ⟨q1, q2⟩ => (show e = Ending.returned (.bool true) ∧ Below wz.heap.size wz w' from ⟨by rw [q1, sameFr_me], q2⟩))
  generalize hZL : (frB f).length = ZL at *
  clear hr0 hb0 hi ho hr ff h0 hIr hOr hby hZ hZL
  go_enter Try.func17, Try.ntmps17
  go_upto_region 1 with fail
  rw [← hW]
  clear hW
  go_upto_region 3 with (first
    | (refine wpList_load_row_g rfl 26 _ rfl w.heap.size rfl 26 (f.c (.slice ia f.n ic) (.slice oa f.L.length oc)) (0, 0) _ (hrows.out _ hB.out) Try.underlying26 rfl info_frame ?_)
    | (go_at_call 7; (with_reducible refine (hE.out _ hB.out).mono ?_); rintro e w3 ⟨sa, sc, rfl, q1, h3⟩; have sB := Lib.hid q1; replace hB := Lib.hid (hB.out.trans (Below.mono h3 hB.out.size)); clear h3 q1)
    | (go_at_call 28; (with_reducible refine (hP.out _ hB.out).mono ?_); rintro e w4 ⟨ja, jc, pa, pc, rfl, q1, q2, h3⟩; replace sB := Lib.hid (sB.out.mono h3); have hI := Lib.hid q1; have hO := Lib.hid q2; replace hB := Lib.hid (hB.out.trans (Below.mono h3 hB.out.size)); clear h3 q1 q2))
  have q5 := below_a w4 (.cells (f.c (.slice ja f.n jc) (.slice pa f.L.length pc)) 26)
  have r4 := Lib.hid (heap_alloc_new w4 (.cells (f.c (.slice ja f.n jc) (.slice pa f.L.length pc)) 26))
  replace hI := Lib.hid (heldI_rd (heldI_mono hI.out q5))
  replace hO := Lib.hid (heldS_rd (heldS_mono hO.out q5))
  replace sB := Lib.hid (sB.out.mono q5)
  replace hB := Lib.hid (hB.out.trans (q5.mono hB.out.size))
  clear q5
  change Code.wp _ _ _ _ (w4.alloc (.cells (f.c (.slice ja f.n jc) (.slice pa f.L.length pc)) 26))
  generalize w4.alloc (.cells (f.c (.slice ja f.n jc) (.slice pa f.L.length pc)) 26) = w6 at *
  generalize w4.heap.size = g4 at *
  go_wp2_with (first
    | (go_at_call 13; (with_reducible refine (hsb.out _ _ sB.out (hBr.out _ hB.out)).mono ?_); rintro e w7 ⟨rfl, h3⟩; replace hB := Lib.hid (hB.out.trans (Below.mono h3 hB.out.size)); replace r4 := Lib.hid (rowB r4.out h3 (Array.getElem?_eq_some_iff.1 r4.out).1); replace hI := Lib.hid (hI.out.mono h3); replace hO := Lib.hid (hO.out.mono h3); clear h3)
    | (refine wpList_load_row_g rfl 26 _ rfl w.heap.size rfl 26 (f.c (.slice ia f.n ic) (.slice oa f.L.length oc)) (0, 0) _ (hrows.out _ hB.out) Try.underlying26 rfl info_frame ?_)
    | (refine wpList_load_row_g rfl 26 _ rfl g4 rfl 26 (f.c (.slice ja f.n jc) (.slice pa f.L.length pc)) (0, 0) _ r4.out Try.underlying26 rfl info_frame ?_)
    | (go_at_call 14; (with_reducible refine (hSm.out _ _ _ _ _ hB.out hI.out hO.out).mono ?_); rintro e w9 ⟨rfl, h9⟩; replace hB := Lib.hid (hB.out.trans (Below.mono h9 hB.out.size)); clear h9))
  go_ret
  exact ⟨rfl, hb1.out.trans (hB.out.mono hb1.out.size)⟩
end Go.Proofs.Ytfaojjleapenaab
namespace Go.Proofs.Ytfaojjleapenaab
open Go.RowKit Go.Ytfaojjleapenaab
set_option linter.unusedVariables false
theorem bytes_lit {l : List Int} (h : l.all (fun x => decide (0 ≤ x) && decide (x < 256)) = true) : Bytes l := by
  intro i
  unfold ith
  cases hi : l[i]? with
  | none => exact ⟨by decide, by decide⟩
  | some x =>
    have h2 := List.all_eq_true.1 h _ (List.mem_of_getElem? hi)
    simp only [Bool.and_eq_true, decide_eq_true_eq] at h2
    exact h2
/-- What Split answers to the ids of the example. -/
theorem split41 (v : Value) (w : World) (hr : RdI w v 41 (risF 41)) : Calls Try.prog 9 #[v, .int .u8 2] w fun e w' =>
    ∃ g c xa xc ya yc, e = .returned (.tuple #[.slice (some ⟨g, 0, none⟩) 2 c, .int .i64 0]) ∧ w'.cell? ⟨g, 2, none⟩ = some (.slice xa 40 xc) ∧ w'.cell? ⟨g, 6, none⟩ = some (.slice ya 1 yc) ∧ g < w'.heap.size ∧ Below w.heap.size w w' := by
  refine (split_any 2 41 (by decide) (risF 41) (bytes_lit (by decide +kernel)) v w hr).mono fun e w' h => ?_
  unfold splitPost at h
  rw [if_pos (show idsK 2 = true by decide), if_pos (show (41 : Nat) ≤ 60 by decide), if_pos (show riseF (risF 41) 41 = true by decide +kernel)] at h
  obtain ⟨hb, v, rfl, ⟨h1, _⟩ | ⟨_, xa, xc, ya, yc, h2, _, _⟩⟩ := h
  · omega
  · rcases h2.2 with ⟨_, h0⟩ | ⟨g, cap, cur, rfl, hbg, hgr, hcn, hcm, hcs, hct⟩
    · cases h0
    · refine ⟨g, cap, xa, xc, ya, yc, rfl, ?_, ?_, (Array.getElem?_eq_some_iff.1 hgr).1, hb⟩
      · have h5 := congrArg (fun l => l[2]?) hct
        rw [cell_of_row _ _ _ _ _ _ hgr]
        simpa [Fr.c] using h5
      · have h5 := congrArg (fun l => l[6]?) hct
        rw [cell_of_row _ _ _ _ _ _ hgr]
        simpa [Fr.c] using h5
def fH : Fr := ⟨1, 300, 0, [], []⟩
def fW : Fr := ⟨3, 0, 0, [], []⟩
def fO : Fr := ⟨5, 0, 0, [], [[97, 98], []]⟩
theorem none_fit (k : Int) (N : Nat) (hk : 0 ≤ k ∧ k < 256) (hN : N < 18446744073709551616) : (⟨k, N, 0, [], []⟩ : Fr).Fit :=
  ⟨hk, hN, Nat.zero_le _, bytes_nil, rfl, Nat.zero_le _, fun i => by rw [num_nil]; exact bytes_nil, fun i => by rw [num_nil]; simp⟩
theorem fO_fit : fO.Fit :=
  ⟨by decide, by decide, by decide, bytes_nil, rfl, by decide, fun i => match i with
    | 0 => bytes_lit (l := [97, 98]) (by decide)
    | 1 => bytes_nil
    | n + 2 => by rw [nthL_out _ _ (by simp [fO])]; exact bytes_nil, fun i => match i with
    | 0 => by decide
    | 1 => by decide
    | n + 2 => by rw [nthL_out _ _ (by simp [fO])]; decide⟩
/-- A call at a row of bytes that was laid just before. -/
theorem is_lit (f : Fr) (ff : f.Fit) (h0 : frOk f = true) (hn : f.n = 0) (hF : f.F = []) (hL : f.L = []) (l : List Int) (hl : frB f = l) (hb : l.all (fun x => decide (0 ≤ x) && decide (x < 256)) = true) (n : Nat) (hln : l.length = n) (h6 : n ≤ 1000) (cells : Array Value) (hc : cells = u8s l) (w : World) (fv : Value) (hv : fv = .agg (f.c (.slice none 0 0) (.slice none 0 0))) :
    Calls Try.prog 17 #[fv, .slice (some ⟨w.heap.size, 0, none⟩) n n] (w.alloc (.cells cells 5)) fun e w' => e = .returned (.bool true) ∧ Below w.heap.size w w' := by
  subst hc hv
  refine (is_any f ff h0 (by rw [hl]; exact bytes_lit hb) (.slice none 0 0) (.slice none 0 0) _ (w.alloc (.cells (u8s l) 5)) (by rw [hn, hF]; exact .inl ⟨none, 0, rfl, fun _ => rfl, rfl, rfl⟩) (by rw [hL]; exact RdS.nil _) (by rw [hl]; exact rdB_row (heap_alloc_new w _) n hln (by unfold maxLen; omega))).mono fun e w' ⟨he, hb⟩ => ⟨he, (below_a w _).trans (hb.mono (by simp))⟩
theorem ref_lit (l : List Int) (hp : parseF l = none) (hb : l.all (fun x => decide (0 ≤ x) && decide (x < 256)) = true) (n : Nat) (hln : l.length = n) (h6 : n ≤ 1000) (cells : Array Value) (hc : cells = u8s l) (w : World) :
    Calls Try.prog 16 #[.slice (some ⟨w.heap.size, 0, none⟩) n n] (w.alloc (.cells cells 5)) fun e w' => e = .returned (.bool true) ∧ Below w.heap.size w w' := by
  subst hc
  exact (refused_any l (bytes_lit hb) hp _ (w.alloc (.cells (u8s l) 5)) (rdB_row (heap_alloc_new w _) n hln (by unfold maxLen; omega))).mono fun e w' ⟨he, hb⟩ => ⟨he, (below_a w _).trans (hb.mono (by simp))⟩
theorem is_h (w : World) : Calls Try.prog 17 #[.agg #[.int .u8 1, .int .u64 300, .slice none 0 0, .slice none 0 0], .slice (some ⟨w.heap.size, 0, none⟩) 4 4] (w.alloc (.cells #[.int .u8 1, .int .u8 249, .int .u8 1, .int .u8 44] 5)) fun e w' => e = .returned (.bool true) ∧ Below w.heap.size w w' :=
  is_lit fH (none_fit 1 300 (by decide) (by decide)) (by decide +kernel) rfl rfl rfl [1, 249, 1, 44] (by decide +kernel) (by decide) 4 rfl (by decide) _ rfl w _ rfl
theorem is_w (w : World) : Calls Try.prog 17 #[.agg #[.int .u8 3, .int .u64 0, .slice none 0 0, .slice none 0 0], .slice (some ⟨w.heap.size, 0, none⟩) 2 2] (w.alloc (.cells #[.int .u8 3, .int .u8 0] 5)) fun e w' => e = .returned (.bool true) ∧ Below w.heap.size w w' :=
  is_lit fW (none_fit 3 0 (by decide) (by decide)) (by decide +kernel) rfl rfl rfl [3, 0] (by decide +kernel) (by decide) 2 rfl (by decide) _ rfl w _ rfl
theorem ref_7 (w : World) : Calls Try.prog 16 #[.slice (some ⟨w.heap.size, 0, none⟩) 2 2] (w.alloc (.cells #[.int .u8 7, .int .u8 0] 5)) fun e w' => e = .returned (.bool true) ∧ Below w.heap.size w w' :=
  ref_lit [7, 0] (by decide +kernel) (by decide) 2 rfl (by decide) _ rfl w
theorem ref_1 (w : World) : Calls Try.prog 16 #[.slice (some ⟨w.heap.size, 0, none⟩) 1 1] (w.alloc (.cells #[.int .u8 1] 5)) fun e w' => e = .returned (.bool true) ∧ Below w.heap.size w w' :=
  ref_lit [1] (by decide +kernel) (by decide) 1 rfl (by decide) _ rfl w
theorem is_o (w : World) : Calls Try.prog 17 #[.agg #[.int .u8 5, .int .u64 0, .slice none 0 0, .slice (some ⟨w.heap.size + 1, 0, none⟩) 2 2], .slice (some ⟨w.heap.size + 1 + 1, 0, none⟩) 6 6]
    (((w.alloc (.cells #[.int .u8 97, .int .u8 98] 5)).alloc (.cells #[.slice (some ⟨w.heap.size, 0, none⟩) 2 2, .slice none 0 0] 29)).alloc (.cells #[.int .u8 5, .int .u8 2, .int .u8 2, .int .u8 97, .int .u8 98, .int .u8 0] 5)) fun e w' => e = .returned (.bool true) ∧ Below w.heap.size w w' := by
  have z1 : (w.alloc (.cells #[.int .u8 97, .int .u8 98] 5)).heap.size = w.heap.size + 1 := by simp
  have r1 : RdB (w.alloc (.cells #[.int .u8 97, .int .u8 98] 5)) (.slice (some ⟨w.heap.size, 0, none⟩) 2 2) [97, 98] := rdB_row (cs := [97, 98]) (heap_alloc_new w _) 2 rfl (by decide)
  have b1 := below_a w (.cells #[.int .u8 97, .int .u8 98] 5)
  generalize w.alloc (.cells #[.int .u8 97, .int .u8 98] 5) = w1 at *
  have r2 := heap_alloc_new w1 (.cells #[.slice (some ⟨w.heap.size, 0, none⟩) 2 2, .slice none 0 0] 29)
  have z2 : (w1.alloc (.cells #[.slice (some ⟨w.heap.size, 0, none⟩) 2 2, .slice none 0 0] 29)).heap.size = w.heap.size + 1 + 1 := by simp [z1]
  have b2 := below_a w1 (.cells #[.slice (some ⟨w.heap.size, 0, none⟩) 2 2, .slice none 0 0] 29)
  generalize w1.alloc (.cells #[.slice (some ⟨w.heap.size, 0, none⟩) 2 2, .slice none 0 0] 29) = w2 at *
  have r3 := heap_alloc_new w2 (.cells #[.int .u8 5, .int .u8 2, .int .u8 2, .int .u8 97, .int .u8 98, .int .u8 0] 5)
  have b3 := below_a w2 (.cells #[.int .u8 5, .int .u8 2, .int .u8 2, .int .u8 97, .int .u8 98, .int .u8 0] 5)
  generalize w2.alloc (.cells #[.int .u8 5, .int .u8 2, .int .u8 2, .int .u8 97, .int .u8 98, .int .u8 0] 5) = w3 at *
  rw [z1] at r2
  rw [z2] at r3
  have r1' := (r1.mono b2).mono b3
  have r2' := (rowB r2 b3 (Array.getElem?_eq_some_iff.1 r2).1)
  have hb : frB fO = [5, 2, 2, 97, 98, 0] := by decide +kernel
  have hS : RdS w3 (.slice (some ⟨w.heap.size + 1, 0, none⟩) 2 2) fO.L := .inr ⟨w.heap.size + 1, 0, 2, rfl, Nat.le_refl _, by decide, (Array.getElem?_eq_some_iff.1 r2').1, fun i hi => by
    rw [Nat.zero_add, cell_of_row _ _ _ _ _ _ r2']
    match i, hi with
    | 0, _ => exact ⟨_, rfl, r1'⟩
    | 1, _ => exact ⟨_, rfl, .inl ⟨none, 0, rfl, fun _ => rfl, rfl⟩⟩⟩
  refine (is_any fO fO_fit (by decide +kernel) (by rw [hb]; exact bytes_lit (by decide)) (.slice none 0 0) _ _ w3 (.inl ⟨none, 0, rfl, fun _ => rfl, rfl, rfl⟩) hS (by rw [hb]; exact rdB_row (cs := [5, 2, 2, 97, 98, 0]) r3 6 rfl (by decide))).mono fun e w' ⟨he, h⟩ => ⟨he, ?_⟩
  have c2 := b1.trans (b2.mono (by omega))
  have c3 := c2.trans (b3.mono c2.size)
  exact c3.trans (h.mono c3.size)
set_option maxHeartbeats 4000000 in
set_option maxRecDepth 100000 in
theorem alive7 (w : World) : Calls Try.prog 18 #[] w fun e w' => e = .returned (.bool true) ∧ Below w.heap.size w w' := by
  have hR := Lib.hid (show Calls Try.prog 15 #[.int .i64 41] w fun e w' => ∃ a c, e = .returned (.slice a 41 c) ∧ OwnI w.heap.size 47 w' (.slice a 41 c) 41 (risF 41) ∧ Below w.heap.size w w' from ups_any 41 (by decide) w)
  go_enter Try.func18, Try.ntmps18
  go_upto_region 2 with (first
    | (go_at_call 15; (with_reducible refine (hR.out).mono ?_); rintro e w2 ⟨ra, rc, rfl, q1, q2⟩; have hS := Lib.hid (split41 _ w2 q1.rd); have hB := Lib.hid q2; clear q1 q2)
    | (go_at_call 9; (with_reducible refine (hS.out).mono ?_); rintro e w3 ⟨g, c, xa, xc, ya, yc, rfl, q1, q2, q3, q4⟩; replace hB := Lib.hid (hB.out.trans (q4.mono hB.out.size)); have k2 := Lib.hid q1; have k6 := Lib.hid q2; have kg := Lib.hid q3; clear q1 q2 q3 q4))
  go_wp2_with (first
    | (go_at_call 17; (first | (with_reducible refine (is_h _).mono ?_) | (with_reducible refine (is_w _).mono ?_) | (with_reducible refine (is_o _).mono ?_)); rintro e w4 ⟨rfl, q2⟩; replace k2 := Lib.hid ((q2.cell (p := (⟨g, 2, none⟩ : Addr)) kg.out).trans k2.out); replace k6 := Lib.hid ((q2.cell (p := (⟨g, 6, none⟩ : Addr)) kg.out).trans k6.out); replace kg := Lib.hid (Nat.lt_of_lt_of_le kg.out q2.size); replace hB := Lib.hid (hB.out.trans (q2.mono hB.out.size)); clear q2)
    | (go_at_call 16; (first | (with_reducible refine (ref_7 _).mono ?_) | (with_reducible refine (ref_1 _).mono ?_)); rintro e w4 ⟨rfl, q2⟩; replace k2 := Lib.hid ((q2.cell (p := (⟨g, 2, none⟩ : Addr)) kg.out).trans k2.out); replace k6 := Lib.hid ((q2.cell (p := (⟨g, 6, none⟩ : Addr)) kg.out).trans k6.out); replace kg := Lib.hid (Nat.lt_of_lt_of_le kg.out q2.size); replace hB := Lib.hid (hB.out.trans (q2.mono hB.out.size)); clear q2; have c2 := k2.out; have c6 := k6.out))
  go_ret
  exact ⟨rfl, hB.out⟩
end Go.Proofs.Ytfaojjleapenaab
namespace Go.Proofs.Ytfaojjleapenaab
open Go.RowKit Go.Ytfaojjleapenaab
set_option linter.unusedVariables false
def litB (l : List Int) : Bool := l.all fun x => decide (0 ≤ x) && decide (x < 256)
def fitB (f : Fr) : Bool := (decide (0 ≤ f.k) && decide (f.k < 256)) && (decide (f.N < 18446744073709551616) && (decide (f.n ≤ 100000) && (litB f.F && (decide (f.F.length = 32 * f.n) && (decide (f.L.length ≤ 100000) && f.L.all fun l => litB l && decide (l.length ≤ 1000000))))))
theorem fit_of {f : Fr} (h : fitB f = true) : f.Fit := by
  unfold fitB at h
  simp only [Bool.and_eq_true, decide_eq_true_eq] at h
  obtain ⟨⟨h1, h2⟩, h3, h4, h5, h6, h7, h8⟩ := h
  have hl : ∀ i, Bytes (nthL f.L i) ∧ (nthL f.L i).length ≤ 1000000 := fun i => by
    unfold nthL
    cases hi : f.L[i]? with
    | none => exact ⟨bytes_nil, Nat.zero_le _⟩
    | some l =>
      have := List.all_eq_true.1 h8 l (List.mem_of_getElem? hi)
      simp only [Bool.and_eq_true, decide_eq_true_eq] at this
      exact ⟨bytes_lit this.1, this.2⟩
  exact ⟨⟨h1, h2⟩, h3, h4, bytes_lit h5, h6, h7, fun i => (hl i).1, fun i => (hl i).2⟩
def five : List (List Int) := [zerosB 400, zerosB 400, zerosB 400, zerosB 400, zerosB 383]
def six : List (List Int) := [zerosB 400, zerosB 400, zerosB 400, zerosB 400, zerosB 384]
def bads : List Fr := [⟨0, 0, 0, [], []⟩, ⟨7, 0, 0, [], []⟩, ⟨1, 0, 1, risF 1, []⟩, ⟨6, 0, 0, [], [[]]⟩, ⟨2, 1, 0, [], []⟩, ⟨3, 0, 0, [], [[]]⟩, ⟨4, 0, 41, risF 41, []⟩, ⟨2, 0, 2, zerosB 64, []⟩, ⟨2, 0, 2, idOf 2 ++ idOf 1, []⟩, ⟨5, 1, 0, [], []⟩, ⟨5, 0, 1, risF 1, []⟩, ⟨5, 0, 0, [], List.replicate 9 []⟩, ⟨5, 0, 0, [], [zerosB 401]⟩, ⟨5, 0, 0, [], six⟩]
theorem bads_all : bads.all (fun f => fitB f && !frOk f) = true := by decide +kernel
theorem bads_at (i : Nat) (hi : i < 14) : (nthF bads i).Fit ∧ frOk (nthF bads i) = false := by
  have hm : nthF bads i ∈ bads := by
    have hl : i < bads.length := hi
    unfold nthF
    rw [List.getElem?_eq_getElem hl]
    exact List.getElem_mem hl
  have h := List.all_eq_true.1 bads_all _ hm
  simp only [Bool.and_eq_true, Bool.not_eq_true'] at h
  exact ⟨fit_of h.1, h.2⟩
/-- A row of frames with ids and strings. -/
def RdFx (w : World) (v : Value) (S : List Fr) : Prop := ∃ g c, v = .slice (some ⟨g, 0, none⟩) S.length c ∧ g < w.heap.size ∧ ∀ i, i < S.length → ∃ iv ov, w.rangeAt g (i * 4) ((nthF S i).c iv ov).toList ∧ RdI w iv (nthF S i).n (nthF S i).F ∧ RdS w ov (nthF S i).L
theorem RdFx.mono {w w' : World} {v : Value} {S : List Fr} (h : RdFx w v S) (hb : Below w.heap.size w w') : RdFx w' v S := by
  obtain ⟨g, c, e, hg, h⟩ := h
  refine ⟨g, c, e, Nat.lt_of_lt_of_le hg hb.size, fun i hi => ?_⟩
  obtain ⟨iv, ov, h1, h2, h3⟩ := h i hi
  exact ⟨iv, ov, range_belowW h1 hg hb, h2.mono hb, h3.mono hb⟩
theorem RdFs.cell {w : World} {v : Value} {S : List Fr} (h : RdFs w v S) (i : Nat) (hi : i < S.length) : ∃ g c xa xc, v = .slice (some ⟨g, 0, none⟩) S.length c ∧ w.cell? ⟨g, i * 4 + 2, none⟩ = some (.slice xa (nthF S i).n xc) ∧ g < w.heap.size := by
  rcases h with ⟨rfl, _⟩ | ⟨g, c, e, hg, h⟩
  · exact absurd hi (by simp)
  · obtain ⟨xa, xc, h1, _⟩ := h i hi
    exact ⟨g, c, xa, xc, e, h1 2 _ rfl, hg⟩
/-- Encode and Check of what is refused. -/
theorem enc_no {f : Fr} (ff : f.Fit) (h0 : frOk f = false) (iv ov : Value) (w : World) (hi : RdI w iv f.n f.F) (ho : RdS w ov f.L) :
    Calls Try.prog 7 #[.agg (f.c iv ov)] w fun e w' => e = .returned (.tuple #[.slice none 0 0, .int .i64 8]) ∧ Below w.heap.size w w' :=
  (frEncode_bad f ff h0 iv ov w hi ho).mono fun e w' h => h
theorem chk_no {f : Fr} (ff : f.Fit) (h0 : frOk f = false) (iv ov : Value) (w : World) (hi : RdI w iv f.n f.F) (ho : RdS w ov f.L) :
    Calls Try.prog 11 #[.agg (f.c iv ov)] w fun e w' => e = .returned (.int .i64 8) ∧ Below w.heap.size w w' := by
  have h := frCheck_any f ff iv ov w hi ho
  rw [show chkR f = 8 by unfold chkR; rw [h0]; rfl] at h
  exact h
/-- Encode of what is right: so many bytes. -/
theorem enc_yes {f : Fr} (h1 : fitB f = true) (h0 : frOk f = true) (n : Nat) (hn : (frB f).length = n) (iv ov : Value) (w : World) (hi : RdI w iv f.n f.F) (ho : RdS w ov f.L) :
    Calls Try.prog 7 #[.agg (f.c iv ov)] w fun e w' => ∃ a c, e = .returned (.tuple #[.slice a n c, .int .i64 0]) ∧ Below w.heap.size w w' :=
  (frEncode_ok f (fit_of h1) h0 iv ov w hi ho).mono fun e w' ⟨sv, he, h2, h3⟩ => by
    obtain ⟨a, c, hv⟩ := h2.rd.slice
    exact ⟨a, c, by rw [he, hv, hn], h3⟩
theorem enc_five (ov : Value) (w : World) (ho : RdS w ov five) : Calls Try.prog 7 #[.agg #[.int .u8 5, .int .u64 0, .slice none 0 0, ov]] w fun e w' => ∃ a c, e = .returned (.tuple #[.slice a 2000 c, .int .i64 0]) ∧ Below w.heap.size w w' :=
  enc_yes (f := ⟨5, 0, 0, [], five⟩) (by decide +kernel) (by decide +kernel) 2000 (by decide +kernel) (.slice none 0 0) ov w (.inl ⟨none, 0, rfl, fun _ => rfl, rfl, rfl⟩) ho
theorem enc_40 (iv : Value) (w : World) (hi : RdI w iv 40 (risF 40)) : Calls Try.prog 7 #[.agg #[.int .u8 4, .int .u64 0, iv, .slice none 0 0]] w fun e w' => ∃ a c, e = .returned (.tuple #[.slice a 1282 c, .int .i64 0]) ∧ Below w.heap.size w w' :=
  enc_yes (f := ⟨4, 0, 40, risF 40, []⟩) (by decide +kernel) (by decide +kernel) 1282 (by decide +kernel) iv (.slice none 0 0) w hi (RdS.nil w)
theorem enc_8 (ov : Value) (w : World) (ho : RdS w ov (List.replicate 8 [])) : Calls Try.prog 7 #[.agg #[.int .u8 5, .int .u64 0, .slice none 0 0, ov]] w fun e w' => ∃ a c, e = .returned (.tuple #[.slice a 10 c, .int .i64 0]) ∧ Below w.heap.size w w' :=
  enc_yes (f := ⟨5, 0, 0, [], List.replicate 8 []⟩) (by decide +kernel) (by decide +kernel) 10 (by decide +kernel) (.slice none 0 0) ov w (.inl ⟨none, 0, rfl, fun _ => rfl, rfl, rfl⟩) ho
/-- Split at what is written out. -/
theorem spl_lit (k : Int) (n m : Nat) (E : Int) (F : List Int) (h1 : litB F = true) (hn : n ≤ 1000) (hm : (splL k n F).length = m) (hE : splE k n F = E) (v : Value) (w : World) (hr : RdI w v n F) :
    Calls Try.prog 9 #[v, .int .u8 k] w fun e w' => ∃ a c, e = .returned (.tuple #[.slice a m c, .int .i64 E]) ∧ RdFs w' (.slice a m c) (splL k n F) ∧ Below w.heap.size w w' := by
  refine (split_any k n (by omega) F (bytes_lit h1) v w hr).mono fun e w' h => ?_
  obtain ⟨a, c, h2, h3, h4⟩ := split_fs h
  rw [hm] at h2 h3
  rw [hE] at h2
  exact ⟨a, c, h2, h3, h4⟩
theorem rdI_nilW (w : World) : RdI w (.slice none 0 0) 0 [] := .inl ⟨none, 0, rfl, fun _ => rfl, rfl, rfl⟩
theorem spl_d (w : World) : Calls Try.prog 9 #[.slice none 0 0, .int .u8 1] w fun e w' => ∃ a c, e = .returned (.tuple #[.slice a 0 c, .int .i64 2]) ∧ Below w.heap.size w w' :=
  (spl_lit 1 0 0 2 [] (by decide) (by decide) (by decide +kernel) (by decide +kernel) _ w (rdI_nilW w)).mono fun e w' ⟨a, c, h1, _, h3⟩ => ⟨a, c, h1, h3⟩
theorem spl_e (w : World) : Calls Try.prog 9 #[.slice none 0 0, .int .u8 5] w fun e w' => ∃ a c, e = .returned (.tuple #[.slice a 0 c, .int .i64 2]) ∧ Below w.heap.size w w' :=
  (spl_lit 5 0 0 2 [] (by decide) (by decide) (by decide +kernel) (by decide +kernel) _ w (rdI_nilW w)).mono fun e w' ⟨a, c, h1, _, h3⟩ => ⟨a, c, h1, h3⟩
theorem spl_f (v : Value) (w : World) (hr : RdI w v 61 (risF 61)) : Calls Try.prog 9 #[v, .int .u8 2] w fun e w' => ∃ a c, e = .returned (.tuple #[.slice a 0 c, .int .i64 4]) ∧ Below w.heap.size w w' :=
  (spl_lit 2 61 0 4 (risF 61) (by decide +kernel) (by decide) (by decide +kernel) (by decide +kernel) _ w hr).mono fun e w' ⟨a, c, h1, _, h3⟩ => ⟨a, c, h1, h3⟩
theorem spl_g (v : Value) (w : World) (hr : RdI w v 2 (zerosB 64)) : Calls Try.prog 9 #[v, .int .u8 2] w fun e w' => ∃ a c, e = .returned (.tuple #[.slice a 0 c, .int .i64 32]) ∧ Below w.heap.size w w' :=
  (spl_lit 2 2 0 32 (zerosB 64) (by decide +kernel) (by decide) (by decide +kernel) (by decide +kernel) _ w hr).mono fun e w' ⟨a, c, h1, _, h3⟩ => ⟨a, c, h1, h3⟩
theorem spl_h (v : Value) (w : World) (hr : RdI w v 61 (risF 61)) : Calls Try.prog 9 #[v, .int .u8 7] w fun e w' => ∃ a c, e = .returned (.tuple #[.slice a 0 c, .int .i64 2]) ∧ Below w.heap.size w w' :=
  (spl_lit 7 61 0 2 (risF 61) (by decide +kernel) (by decide) (by decide +kernel) (by decide +kernel) _ w hr).mono fun e w' ⟨a, c, h1, _, h3⟩ => ⟨a, c, h1, h3⟩
theorem spl_i (w : World) : Calls Try.prog 9 #[.slice none 0 0, .int .u8 4] w fun e w' => ∃ g c xa xc, e = .returned (.tuple #[.slice (some ⟨g, 0, none⟩) 1 c, .int .i64 0]) ∧ w'.cell? ⟨g, 2, none⟩ = some (.slice xa 0 xc) ∧ g < w'.heap.size ∧ Below w.heap.size w w' :=
  (spl_lit 4 0 1 0 [] (by decide) (by decide) (by decide +kernel) (by decide +kernel) _ w (rdI_nilW w)).mono fun e w' ⟨a, c, h1, h2, h3⟩ => by
    obtain ⟨g, c', xa, xc, h4, h5, h6⟩ := h2.cell 0 (by decide +kernel)
    injection h4 with h7 _ _
    subst h7
    exact ⟨g, c, xa, xc, h1, h5, h6, h3⟩
theorem spl_j (v : Value) (w : World) (hr : RdI w v 60 (risF 60)) : Calls Try.prog 9 #[v, .int .u8 3] w fun e w' => ∃ g c xa xc, e = .returned (.tuple #[.slice (some ⟨g, 0, none⟩) 2 c, .int .i64 0]) ∧ w'.cell? ⟨g, 6, none⟩ = some (.slice xa 20 xc) ∧ g < w'.heap.size ∧ Below w.heap.size w w' :=
  (spl_lit 3 60 2 0 (risF 60) (by decide +kernel) (by decide) (by decide +kernel) (by decide +kernel) _ w hr).mono fun e w' ⟨a, c, h1, h2, h3⟩ => by
    obtain ⟨g, c', xa, xc, h4, h5, h6⟩ := h2.cell 1 (by decide +kernel)
    injection h4 with h7 _ _
    subst h7
    rw [show (nthF (splL 3 60 (risF 60)) 1).n = 20 by decide +kernel] at h5
    exact ⟨g, c, xa, xc, h1, h5, h6, h3⟩
theorem spl_k (v : Value) (w : World) (hr : RdI w v 40 (risF 40)) : Calls Try.prog 9 #[v, .int .u8 2] w fun e w' => ∃ a c, e = .returned (.tuple #[.slice a 1 c, .int .i64 0]) ∧ Below w.heap.size w w' :=
  (spl_lit 2 40 1 0 (risF 40) (by decide +kernel) (by decide) (by decide +kernel) (by decide +kernel) _ w hr).mono fun e w' ⟨a, c, h1, _, h3⟩ => ⟨a, c, h1, h3⟩
theorem ref_nil (w : World) : Calls Try.prog 16 #[.slice none 0 0] w fun e w' => e = .returned (.bool true) ∧ Below w.heap.size w w' :=
  refused_any [] bytes_nil (by decide +kernel) _ w (.inl ⟨none, 0, rfl, fun _ => rfl, rfl⟩)
theorem ref_n0 (w : World) : Calls Try.prog 16 #[.slice (some ⟨w.heap.size, 0, none⟩) 2 2] (w.alloc (.cells #[.int .u8 0, .int .u8 0] 5)) fun e w' => e = .returned (.bool true) ∧ Below w.heap.size w w' :=
  ref_lit [0, 0] (by decide +kernel) (by decide) 2 rfl (by decide) _ rfl w
theorem ref_n1 (w : World) : Calls Try.prog 16 #[.slice (some ⟨w.heap.size, 0, none⟩) 3 3] (w.alloc (.cells #[.int .u8 1, .int .u8 248, .int .u8 1] 5)) fun e w' => e = .returned (.bool true) ∧ Below w.heap.size w w' :=
  ref_lit [1, 248, 1] (by decide +kernel) (by decide) 3 rfl (by decide) _ rfl w
theorem ref_n2 (w : World) : Calls Try.prog 16 #[.slice (some ⟨w.heap.size, 0, none⟩) 3 3] (w.alloc (.cells #[.int .u8 1, .int .u8 1, .int .u8 1] 5)) fun e w' => e = .returned (.bool true) ∧ Below w.heap.size w w' :=
  ref_lit [1, 1, 1] (by decide +kernel) (by decide) 3 rfl (by decide) _ rfl w
theorem ref_n3 (w : World) : Calls Try.prog 16 #[.slice (some ⟨w.heap.size, 0, none⟩) 2 2] (w.alloc (.cells #[.int .u8 3, .int .u8 1] 5)) fun e w' => e = .returned (.bool true) ∧ Below w.heap.size w w' :=
  ref_lit [3, 1] (by decide +kernel) (by decide) 2 rfl (by decide) _ rfl w
theorem ref_n4 (w : World) : Calls Try.prog 16 #[.slice (some ⟨w.heap.size, 0, none⟩) 2 2] (w.alloc (.cells #[.int .u8 5, .int .u8 9] 5)) fun e w' => e = .returned (.bool true) ∧ Below w.heap.size w w' :=
  ref_lit [5, 9] (by decide +kernel) (by decide) 2 rfl (by decide) _ rfl w
theorem ref_n5 (w : World) : Calls Try.prog 16 #[.slice (some ⟨w.heap.size, 0, none⟩) 3 3] (w.alloc (.cells #[.int .u8 5, .int .u8 1, .int .u8 1] 5)) fun e w' => e = .returned (.bool true) ∧ Below w.heap.size w w' :=
  ref_lit [5, 1, 1] (by decide +kernel) (by decide) 3 rfl (by decide) _ rfl w
theorem ref_n6 (w : World) : Calls Try.prog 16 #[.slice (some ⟨w.heap.size, 0, none⟩) 5 5] (w.alloc (.cells #[.int .u8 5, .int .u8 1, .int .u8 249, .int .u8 1, .int .u8 145] 5)) fun e w' => e = .returned (.bool true) ∧ Below w.heap.size w w' :=
  ref_lit [5, 1, 249, 1, 145] (by decide +kernel) (by decide) 5 rfl (by decide) _ rfl w
theorem ref_n7 (w : World) : Calls Try.prog 16 #[.slice (some ⟨w.heap.size, 0, none⟩) 3 3] (w.alloc (.cells #[.int .u8 6, .int .u8 0, .int .u8 0] 5)) fun e w' => e = .returned (.bool true) ∧ Below w.heap.size w w' :=
  ref_lit [6, 0, 0] (by decide +kernel) (by decide) 3 rfl (by decide) _ rfl w
theorem is_bye (w : World) : Calls Try.prog 17 #[.agg #[.int .u8 6, .int .u64 0, .slice none 0 0, .slice none 0 0], .slice (some ⟨w.heap.size, 0, none⟩) 2 2] (w.alloc (.cells #[.int .u8 6, .int .u8 0] 5)) fun e w' => e = .returned (.bool true) ∧ Below w.heap.size w w' :=
  is_lit ⟨6, 0, 0, [], []⟩ (none_fit 6 0 (by decide) (by decide)) (by decide +kernel) rfl rfl rfl [6, 0] (by decide +kernel) (by decide) 2 rfl (by decide) _ rfl w _ rfl
theorem rd_emptyF (w : World) (n : Nat) (hn : n ≤ 1000) : RdS (w.alloc (.cells (madeCells #[.slice none 0 0] n) 29)) (.slice (some ⟨w.heap.size, 0, none⟩) n n) (List.replicate n []) := by
  refine .inr ⟨w.heap.size, 0, n, by rw [List.length_replicate], by rw [List.length_replicate]; exact Nat.le_refl _, by unfold maxLen; omega, by simp, fun i hi => ?_⟩
  rw [List.length_replicate] at hi
  refine ⟨.slice none 0 0, ?_, ?_⟩
  · rw [cell_of_row _ _ _ _ _ _ (heap_alloc_new w _)]
    simp [madeCells, hi, Nat.mod_one]
  · unfold nthL
    rw [List.getElem?_replicate, if_pos hi]
    exact .inl ⟨none, 0, rfl, fun _ => rfl, rfl⟩
/-- Four long strings and one that is a little shorter, in a row. -/
theorem rd_fiveF (w : World) (a b : Value) (n : Nat) (ha : RdB w a (zerosB 400)) (hb : RdB w b (zerosB n)) : RdS (w.alloc (.cells #[a, a, a, a, b] 29)) (.slice (some ⟨w.heap.size, 0, none⟩) 5 5) [zerosB 400, zerosB 400, zerosB 400, zerosB 400, zerosB n] := by
  have hal := below_a w (.cells #[a, a, a, a, b] 29)
  have hrow := heap_alloc_new w (.cells #[a, a, a, a, b] 29)
  refine .inr ⟨w.heap.size, 0, 5, rfl, Nat.le_refl _, by decide, by simp, fun i hi => ?_⟩
  match i, hi with
  | 0, _ => exact ⟨_, cell_of_row _ _ _ _ _ _ hrow, ha.mono hal⟩
  | 1, _ => exact ⟨_, cell_of_row _ _ _ _ _ _ hrow, ha.mono hal⟩
  | 2, _ => exact ⟨_, cell_of_row _ _ _ _ _ _ hrow, ha.mono hal⟩
  | 3, _ => exact ⟨_, cell_of_row _ _ _ _ _ _ hrow, ha.mono hal⟩
  | 4, _ => exact ⟨_, cell_of_row _ _ _ _ _ _ hrow, hb.mono hal⟩
end Go.Proofs.Ytfaojjleapenaab

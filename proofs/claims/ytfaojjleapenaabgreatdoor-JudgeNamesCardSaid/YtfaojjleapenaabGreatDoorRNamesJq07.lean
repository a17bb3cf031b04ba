/- Texts that the row stands on, part 7. -/
import Derived.Test.YtfaojjleapenaabGreatDoorRNamesJq06
import Derived.Test.YtfaojjleapenaabGreatDoorTie
import Derived.LaidMore
import Derived.OpenVars
import Derived.Stop.Joined
import Derived.ChangeSlices
namespace Go
namespace YtfaojjleapenaabGreatDoor
set_option linter.unusedVariables false
section
variable {P : Program} {ops : Array Oper} {md : Region.Mode} {Q : Exit → Act → World → Prop}
/-- What an operation that ends well leaves: a value and a world, of which R is true. -/
def fxUpon (P : Program) (R : Value → World → Prop) : Result Next → Prop
  | .ok (.value v) w' => R v w'
  | .ok .skip w' => R undef w'
  | .ok (.enter f args) w' => Calls P f args w' fun e w'' => ∃ v, e = .returned v ∧ R v w''
  | _ => False
def FxStep (P : Program) (ops : Array Oper) (o : Oper) (a : Act) (w : World) (R : Value → World → Prop) : Prop :=
  if Region.wanted o (yielded ops a.tmps) = true then fxUpon P R ((execOp a.eval o).run P w) else R undef w
theorem fx_wpOp {i : Nat} {o : Oper} {a : Act} {w : World} {R : Value → World → Prop} {K : Act → World → Prop} (hi : ops[i]? = some o) (h : FxStep P ops o a w R) (hK : ∀ v w', R v w' → K (a.put o.dst v) w') : wpOp P ops Q i K a w := by
  unfold wpOp
  simp only [hi]
  unfold FxStep at h
  split
  · rename_i hw
    rw [if_pos hw] at h
    refine .inl ?_
    unfold Oper.wp
    generalize (execOp a.eval o).run P w = r at h
    cases r with
    | halt x w' => cases x <;> exact h.elim
    | ok nx w' =>
      cases nx with
      | value v => exact hK v w' h
      | skip => exact hK undef w' h
      | defer d => exact h.elim
      | row r a => exact h.elim
      | enter f args =>
        refine Calls.mono h fun e w'' he => ?_
        obtain ⟨v, rfl, hR⟩ := he
        exact hK v w'' hR
      | _ => exact h.elim
  · rename_i hw
    rw [if_neg hw] at h
    exact hK undef w h
/-- The frame: those of the first k operations that L names have put their values. -/
def fxF (ops : Array Oper) (vs : Nat → Value) (L : Nat → Bool) (a0 : Act) : Nat → Act
  | 0 => a0
  | k + 1 => if L k = true then (fxF ops vs L a0 k).put ((ops[k]?).bind (·.dst)) (vs k) else fxF ops vs L a0 k
abbrev fxT : Nat → Bool := fun _ => true
theorem put_tmps_ne (a : Act) (x : Option Tmp) (v : Value) (t : Tmp) (h : x ≠ some t) : (a.put x v).tmps[t]? = a.tmps[t]? := by
  cases x with
  | none => rfl
  | some d =>
    have hne : d ≠ t := fun e => h (by rw [e])
    simp [Act.put, Array.getElem?_setIfInBounds_ne hne]
theorem put_tmps_congr (a b : Act) (x : Option Tmp) (v : Value) (t : Tmp) (h : a.tmps[t]? = b.tmps[t]?) : (a.put x v).tmps[t]? = (b.put x v).tmps[t]? := by
  cases x with
  | none => exact h
  | some d =>
    by_cases e : d = t
    · subst e
      simp only [Act.put, Array.getElem?_setIfInBounds, if_true]
      have h1 : d < a.tmps.size ↔ d < b.tmps.size := by
        constructor
        · intro hl
          rw [Array.getElem?_eq_getElem hl] at h
          exact (Array.getElem?_eq_some_iff.1 h.symm).1
        · intro hl
          rw [Array.getElem?_eq_getElem hl] at h
          exact (Array.getElem?_eq_some_iff.1 h).1
      by_cases hl : d < a.tmps.size
      · rw [if_pos hl, if_pos (h1.1 hl)]
      · rw [if_neg hl, if_neg (fun h2 => hl (h1.2 h2))]
    · simp only [Act.put, Array.getElem?_setIfInBounds_ne e]; exact h
theorem eval_tmps (a b : Act) (x : Operand) (h : ∀ t, x = .tmp t → a.tmps[t]? = b.tmps[t]?) : a.eval x = b.eval x := by
  cases x with
  | tmp t => simp only [Act.eval, Array.getD_eq_getD_getElem?, h t rfl]
  | _ => rfl
/-- A slot that the operation i looks at: it has what the lexical order gives. -/
theorem fxF_look (vs : Nat → Value) (L : Nat → Bool) (a0 : Act) (n i : Nat) (hi : i ≤ n) (t : Tmp) (hl : ∀ j, j < n → (ops[j]?).bind (·.dst) = some t → (j < i → L j = true) ∧ (i ≤ j → L j = false)) :
    (fxF ops vs L a0 n).tmps[t]? = (fxF ops vs fxT a0 i).tmps[t]? := by
  have h1 : ∀ k, k ≤ i → (fxF ops vs L a0 k).tmps[t]? = (fxF ops vs fxT a0 k).tmps[t]? := by
    intro k
    induction k with
    | zero => intro _; rfl
    | succ k ih =>
      intro hk
      have ih := ih (by omega)
      simp only [fxF, fxT, if_true]
      by_cases hd : (ops[k]?).bind (·.dst) = some t
      · rw [if_pos ((hl k (by omega) hd).1 (by omega))]
        exact put_tmps_congr _ _ _ _ _ ih
      · rw [put_tmps_ne _ _ _ _ hd]
        split
        · rw [put_tmps_ne _ _ _ _ hd]; exact ih
        · exact ih
  have h2 : ∀ d, i + d ≤ n → (fxF ops vs L a0 (i + d)).tmps[t]? = (fxF ops vs L a0 i).tmps[t]? := by
    intro d
    induction d with
    | zero => intro _; rfl
    | succ d ih =>
      intro hk
      rw [← ih (by omega)]
      show (fxF ops vs L a0 (i + d + 1)).tmps[t]? = _
      simp only [fxF]
      split
      · rename_i hL
        refine put_tmps_ne _ _ _ _ fun hd => ?_
        rw [(hl (i + d) (by omega) hd).2 (by omega)] at hL; cases hL
      · rfl
  have := h2 (n - i) (by omega)
  rw [show i + (n - i) = n by omega] at this
  rw [this, h1 i (Nat.le_refl _)]
theorem fxF_agree (vs vs' : Nat → Value) (L L' : Nat → Bool) (a0 : Act) (k : Nat) (h : ∀ j, j < k → L j = L' j ∧ (L j = true → vs j = vs' j)) : fxF ops vs L a0 k = fxF ops vs' L' a0 k := by
  induction k with
  | zero => rfl
  | succ k ih =>
    have h1 := h k (Nat.lt_succ_self _)
    simp only [fxF]
    rw [ih fun j hj => h j (by omega), ← h1.1]
    split
    · rename_i hL; rw [h1.2 hL]
    · rfl
theorem fxF_put (vs : Nat → Value) (L : Nat → Bool) (a0 : Act) (n i : Nat) (v : Value) (hin : i < n) (hL : L i = false) (hd : ∀ k, i < k → k < n → L k = true → ∀ d, (ops[i]?).bind (·.dst) = some d → (ops[k]?).bind (·.dst) ≠ some d) :
    (fxF ops vs L a0 n).put ((ops[i]?).bind (·.dst)) v = fxF ops (fun j => if j = i then v else vs j) (fun j => if j = i then true else L j) a0 n := by
  have key : ∀ d, i + 1 + d ≤ n → (fxF ops vs L a0 (i + 1 + d)).put ((ops[i]?).bind (·.dst)) v = fxF ops (fun j => if j = i then v else vs j) (fun j => if j = i then true else L j) a0 (i + 1 + d) := by
    intro d
    induction d with
    | zero =>
      intro _
      simp only [fxF, Nat.add_zero, if_true, hL]
      rw [if_neg (by decide)]
      congr 1
      exact fxF_agree _ _ _ _ _ _ fun j hj => by
        have hne : j ≠ i := by omega
        simp [hne]
    | succ d ih =>
      intro hk
      have ih := ih (by omega)
      have hne : i + 1 + d ≠ i := by omega
      show (fxF ops vs L a0 (i + 1 + d + 1)).put _ v = fxF ops _ _ a0 (i + 1 + d + 1)
      simp only [fxF, if_neg hne]
      by_cases hLk : L (i + 1 + d) = true
      · rw [if_pos hLk, if_pos hLk, ← ih]
        exact (Act.put_comm _ _ _ fun d' hd' hd2 => hd (i + 1 + d) (by omega) (by omega) hLk d' hd2 hd').trans rfl
      · rw [if_neg hLk, if_neg hLk]; exact ih
  have := key (n - (i + 1)) (by omega)
  rwa [show i + 1 + (n - (i + 1)) = n by omega] at this
/-- The waiting of the operations, and the frames, as' they are to be; A names for each operation all that must come before it. -/
def fxB (ops : Array Oper) (n : Nat) (A : List (List Nat)) : Bool :=
  Region.noSelect ops && decide (n ≤ ops.size) &&
  ((List.range ops.size).all fun i => match ops[i]? with
    | none => true
    | some o => (o.after.all fun e => !Region.binds .any e || decide (e.on < i)) && ((A.getD i []).all fun j => decide (j < i) && o.after.any fun e => Region.binds .any e && (e.on == j || (A.getD e.on []).contains j))) &&
  ((List.range ops.size).all fun i => decide (i < n) || (List.range n).all fun j => (A.getD i []).contains j) &&
  ((List.range n).all fun i => match ops[i]? with
    | none => true
    | some o => (List.range n).all fun j => match (ops[j]?).bind (·.dst) with
      | none => true
      | some d => (!(o.looksAt ops).contains d || (decide (j < i) && (A.getD i []).contains j) || (decide (i < j) && (A.getD j []).contains i) || decide (j = i)) &&
        (!(o.dst == some d) || decide (j ≤ i) || (A.getD j []).contains i)) &&
  Region.seqB .any ops (ops.size - n) n ((Array.replicate n true) ++ (Array.replicate (ops.size - n) false))
structure FxOk (ops : Array Oper) (n : Nat) (A : List (List Nat)) : Prop where
  sel : Region.noSelect ops = true
  le : n ≤ ops.size
  aft : ∀ i o, ops[i]? = some o → ∀ e ∈ o.after, Region.binds .any e = true → e.on < i
  anc : ∀ i o, ops[i]? = some o → ∀ j ∈ A.getD i [], j < i ∧ ∃ e ∈ o.after, Region.binds .any e = true ∧ (e.on = j ∨ j ∈ A.getD e.on [])
  tail : ∀ i, n ≤ i → i < ops.size → ∀ j, j < n → j ∈ A.getD i []
  look : ∀ i o j d, i < n → j < n → ops[i]? = some o → (ops[j]?).bind (·.dst) = some d → d ∈ o.looksAt ops → (j < i ∧ j ∈ A.getD i []) ∨ (i < j ∧ i ∈ A.getD j []) ∨ j = i
  dst : ∀ i o j d, i < n → j < n → ops[i]? = some o → (ops[j]?).bind (·.dst) = some d → o.dst = some d → i < j → i ∈ A.getD j []
  seq : Region.seqB .any ops (ops.size - n) n ((Array.replicate n true) ++ (Array.replicate (ops.size - n) false)) = true
theorem fxB_ok {n : Nat} {A : List (List Nat)} (h : fxB ops n A = true) : FxOk ops n A := by
  unfold fxB at h
  simp only [Bool.and_eq_true, decide_eq_true_eq] at h
  obtain ⟨⟨⟨⟨⟨h1, h2⟩, h3⟩, h4⟩, h5⟩, h6⟩ := h
  refine ⟨h1, h2, fun i o ho e he hb => ?_, fun i o ho j hj => ?_, fun i hi hs j hj => ?_, fun i o j d hi hj ho hd hl => ?_, fun i o j d hi hj ho hd hl hij => ?_, h6⟩
  · have hi := (Array.getElem?_eq_some_iff.1 ho).1
    have k := List.all_eq_true.1 h3 i (List.mem_range.2 hi)
    simp only [ho, Bool.and_eq_true] at k
    have k1 := Array.all_eq_true'.1 k.1 e he
    simpa [hb] using k1
  · have hi := (Array.getElem?_eq_some_iff.1 ho).1
    have k := List.all_eq_true.1 h3 i (List.mem_range.2 hi)
    simp only [ho, Bool.and_eq_true] at k
    have k1 := List.all_eq_true.1 k.2 j hj
    simp only [Bool.and_eq_true, decide_eq_true_eq] at k1
    refine ⟨k1.1, ?_⟩
    obtain ⟨e, he, hb⟩ := Array.any_eq_true'.1 k1.2
    simp only [Bool.and_eq_true, Bool.or_eq_true, beq_iff_eq, List.contains_iff_mem] at hb
    exact ⟨e, he, hb.1, hb.2⟩
  · have k := List.all_eq_true.1 h4 i (List.mem_range.2 hs)
    rw [Bool.or_eq_true, decide_eq_true_eq] at k
    rcases k with k | k
    · omega
    · have := List.all_eq_true.1 k j (List.mem_range.2 hj)
      simpa using this
  · have k := List.all_eq_true.1 h5 i (List.mem_range.2 hi)
    simp only [ho] at k
    have k1 := List.all_eq_true.1 k j (List.mem_range.2 hj)
    simp only [hd, Bool.and_eq_true] at k1
    have k2 := k1.1
    simp only [Bool.or_eq_true, Bool.and_eq_true, decide_eq_true_eq, List.contains_iff_mem, Bool.not_eq_true'] at k2
    rcases k2 with ((k2 | k2) | k2) | k2
    · have : (o.looksAt ops).contains d = true := by simpa using hl
      rw [this] at k2; cases k2
    · exact .inl k2
    · exact .inr (.inl k2)
    · exact .inr (.inr k2)
  · have k := List.all_eq_true.1 h5 i (List.mem_range.2 hi)
    simp only [ho] at k
    have k1 := List.all_eq_true.1 k j (List.mem_range.2 hj)
    simp only [hd, Bool.and_eq_true] at k1
    have k2 := k1.2
    simp only [Bool.or_eq_true, decide_eq_true_eq, List.contains_iff_mem, Bool.not_eq_true'] at k2
    rcases k2 with (k2 | k2) | k2
    · rw [hl] at k2; simp at k2
    · omega
    · exact k2
theorem looks_tmp {o : Oper} {t : Tmp} (h : .tmp t ∈ o.op.operands) : t ∈ o.looksAt ops := by
  unfold Oper.looksAt
  rw [List.mem_append]
  refine .inl ?_
  rw [List.mem_filterMap]
  exact ⟨.tmp t, by simpa using h, rfl⟩
theorem looks_guard {o : Oper} {g : Nat} {b : Bool} (h : o.guard = some (g, b)) {t : Tmp} (ht : (ops[g]?).bind (·.dst) = some t) : t ∈ o.looksAt ops := by
  unfold Oper.looksAt
  rw [List.mem_append]
  refine .inr ?_
  simp [h, ht]
theorem fx_same {o : Oper} (hs : ∀ cs b, o.op ≠ .select cs b) (a b : Act) (h : ∀ t, t ∈ o.looksAt ops → a.tmps[t]? = b.tmps[t]?) (w : World) (R : Value → World → Prop) : FxStep P ops o a w R = FxStep P ops o b w R := by
  have h1 : execOp a.eval o = execOp b.eval o := execOp_congr o hs fun x hx => eval_tmps a b x fun t ht => h t (looks_tmp (by rw [← ht]; exact hx))
  have h2 : Region.wanted o (yielded ops a.tmps) = Region.wanted o (yielded ops b.tmps) := by
    unfold Region.wanted
    cases hg : o.guard with
    | none => rfl
    | some gw =>
      obtain ⟨g, wnt⟩ := gw
      simp only
      have h3 : yielded ops a.tmps g = yielded ops b.tmps g := by
        unfold yielded
        cases hd : (ops[g]?).bind (·.dst) with
        | none => rfl
        | some t => simp only [Option.bind_some, h t (looks_guard hg hd)]
      rw [h3]
  unfold FxStep
  rw [h1, h2]
theorem anc_listed {n : Nat} {A : List (List Nat)} (hB : FxOk ops n A) {listed : Array Bool} (cl : Closed .any ops listed) :
    ∀ i o, ops[i]? = some o → (∀ e ∈ o.after, Region.binds .any e = true → listed.getD e.on false = true) → ∀ j ∈ A.getD i [], listed.getD j false = true := by
  intro i
  induction i using Nat.strongRecOn with
  | _ i ih =>
    intro o ho hall j hj
    obtain ⟨_, e, he, hb, h | h⟩ := hB.anc i o ho j hj
    · rw [← h]; exact hall e he hb
    · have hon := hB.aft i o ho e he hb
      have hlt : e.on < ops.size := Nat.lt_trans hon (Array.getElem?_eq_some_iff.1 ho).1
      exact ih e.on hon _ (Array.getElem?_eq_getElem hlt) (fun e2 he2 hb2 => cl.2 _ _ (Array.getElem?_eq_getElem hlt) (hall e he hb) e2 he2 hb2) j h
/-- How many of the first n are not listed. -/
def fxLeft (listed : Array Bool) (n : Nat) : Nat := ((List.range n).filter fun j => !listed.getD j false).length
theorem fxLeft_set {listed : Array Bool} {n i : Nat} (hi : i < n) (hs : i < listed.size) (h : listed.getD i false = false) : fxLeft (listed.setIfInBounds i true) n + 1 = fxLeft listed n := by
  have gi : (listed.setIfInBounds i true).getD i false = true := by simp [hs]
  have go : ∀ j, j ≠ i → (listed.setIfInBounds i true).getD j false = listed.getD j false := fun j hj => getD_set_ne false (fun e => hj e.symm)
  have key : ∀ m, fxLeft (listed.setIfInBounds i true) m + (if i < m then 1 else 0) = fxLeft listed m := by
    intro m
    induction m with
    | zero => rfl
    | succ m ih =>
      unfold fxLeft at ih ⊢
      rw [List.range_succ, List.filter_append, List.filter_append, List.length_append, List.length_append, ← ih]
      by_cases e : m = i
      · subst e
        rw [if_neg (Nat.lt_irrefl m), if_pos (Nat.lt_succ_self m)]
        simp only [List.filter_cons, List.filter_nil, gi, h, Bool.not_true, Bool.not_false, if_true, Bool.false_eq_true, if_false, List.length_nil, List.length_cons]
      · rw [show (if i < m + 1 then 1 else 0) = (if i < m then 1 else 0) by
          by_cases h1 : i < m
          · rw [if_pos h1, if_pos (by omega)]
          · rw [if_neg h1, if_neg (by omega)]]
        simp only [List.filter_cons, List.filter_nil, go m e]
        omega
  have := key n
  rw [if_pos hi] at this
  exact this
theorem fxLeft_zero {listed : Array Bool} {n : Nat} (h : fxLeft listed n = 0) : ∀ j, j < n → listed.getD j false = true := fun j hj => by
  have h1 := List.eq_nil_of_length_eq_zero h
  rw [List.filter_eq_nil_iff] at h1
  simpa using h1 j (List.mem_range.2 hj)
theorem fxLeft_pos {listed : Array Bool} {n : Nat} (h : fxLeft listed n ≠ 0) : ∃ j, j < n ∧ listed.getD j false = false := by
  refine Classical.byContradiction fun hn => h ?_
  unfold fxLeft
  rw [List.length_eq_zero_iff, List.filter_eq_nil_iff]
  intro j hj
  have hj := List.mem_range.1 hj
  cases hb : listed.getD j false with
  | true => simp
  | false => exact absurd ⟨j, hj, hb⟩ hn
/-- The operation i may come behind j, if j does not have to come behind i. -/
def fxAfter (A : List (List Nat)) (i j : Nat) : Bool := decide (i ≠ j) && !(A.getD j []).contains i
/-- The operation i may come before j. -/
def fxBefore (A : List (List Nat)) (i j : Nat) : Bool := decide (i ≠ j) && !(A.getD i []).contains j
section
variable {n : Nat} {A : List (List Nat)} {Ψ : Nat → World → Prop} {Φ : Nat → Value → World → Prop} {G : Nat → World → World → Prop} {Inv : World → Prop} {a0 : Act}
theorem fx_any (hB : FxOk ops n A) (hI : ∀ i w w', i < n → Inv w → G i w w' → Inv w')
    (hG : ∀ i j v w w', i < n → j < n → fxAfter A i j = true → Inv w → Φ j v w → G i w w' → Φ j v w')
    (hP : ∀ i j w w', i < n → j < n → fxBefore A i j = true → Inv w → Ψ j w → G i w w' → Ψ j w')
    (hstep : ∀ i o vs w, i < n → ops[i]? = some o → Inv w → Ψ i w → (∀ j, j ∈ A.getD i [] → Φ j (vs j) w) → FxStep P ops o (fxF ops vs fxT a0 i) w fun v w' => Φ i v w' ∧ G i w w')
    (hdone : ∀ vs w, Inv w → (∀ j, j < n → Φ j (vs j) w) → wpList P ops Q (ops.toList.drop n) (fxF ops vs fxT a0 n) w) :
    ∀ (d : Nat) (listed : Array Bool) (vs : Nat → Value) (w : World), Closed .any ops listed → (∀ j, n ≤ j → j < ops.size → listed.getD j false = false) → fxLeft listed n = d → Inv w → (∀ j, j < n → listed.getD j false = false → Ψ j w) →
      (∀ j, j < n → listed.getD j false = true → Φ j (vs j) w) → wpAny P .any ops Q (d + (ops.size - n)) listed (fxF ops vs (fun j => listed.getD j false) a0 n) w := by
  intro d
  induction d with
  | zero =>
    intro listed vs w cl hout hleft hinv hpre hf
    have hall := fxLeft_zero hleft
    have hL : listed = (Array.replicate n true) ++ (Array.replicate (ops.size - n) false) := by
      refine Array.ext (by rw [cl.1]; have := hB.le; simp; omega) fun j hj1 hj2 => ?_
      have e : listed.getD j false = listed[j] := by simp [Array.getD, hj1]
      rw [← e]
      by_cases hjn : j < n
      · rw [hall j hjn, Array.getElem_append_left (by simpa using hjn)]; simp
      · rw [hout j (by omega) (by rw [← cl.1]; exact hj1), Array.getElem_append_right (by simpa using hjn)]; simp
    have hfr : fxF ops vs (fun j => listed.getD j false) a0 n = fxF ops vs fxT a0 n := fxF_agree _ _ _ _ _ _ fun j hj => ⟨hall j hj, fun _ => rfl⟩
    rw [hfr, Nat.zero_add]
    have hlen : (ops.toList.drop n).length = ops.size - n := by simp
    have h := wpAny_of_seq (P := P) (ops := ops) (md := .any) (Q' := Q) (ops.toList.drop n) n listed (fxF ops vs fxT a0 n) w (fun j => by simp [List.getElem?_drop]) (by rw [hlen, hL]; exact hB.seq) (hdone vs w hinv fun j hj => hf j hj (hall j hj))
    rwa [hlen] at h
  | succ d ih =>
    intro listed vs w cl hout hleft hinv hpre hf
    rw [show d + 1 + (ops.size - n) = (d + (ops.size - n)) + 1 by omega]
    refine ⟨fun hnil => ?_, fun i hi => ?_⟩
    · exfalso
      obtain ⟨j, hj, hju⟩ := fxLeft_pos (listed := listed) (n := n) (by omega)
      have hex : ∃ j, j ∈ Region.ready .any ops listed := by
        clear hnil
        induction j using Nat.strongRecOn with
        | _ j jh =>
          have hlt : j < ops.size := Nat.lt_of_lt_of_le hj hB.le
          by_cases ha : ∀ e ∈ ops[j].after, Region.binds .any e = true → listed.getD e.on false = true
          · refine ⟨j, mem_ready.2 ⟨?_, _, Array.getElem?_eq_getElem hlt, ha⟩⟩
            have hjs : j < listed.size := by rw [cl.1]; exact hlt
            simp [Array.getD, hjs] at hju ⊢
            exact hju
          · obtain ⟨e, he⟩ := Classical.not_forall.1 ha
            obtain ⟨he1, he2⟩ := Classical.not_imp.1 he
            obtain ⟨hb, hu⟩ := Classical.not_imp.1 he2
            have hon := hB.aft j _ (Array.getElem?_eq_getElem hlt) e he1 hb
            exact jh e.on hon (by omega) (by simpa using hu)
      obtain ⟨j', hj'⟩ := hex
      rw [hnil] at hj'; cases hj'
    · obtain ⟨hiu, o, ho, hall⟩ := mem_ready.1 hi
      have his : i < ops.size := (Array.getElem?_eq_some_iff.1 ho).1
      have hils : i < listed.size := by rw [cl.1]; exact his
      have hif : listed.getD i false = false := by simp [Array.getD, hils] at hiu ⊢; exact hiu
      have hanc := anc_listed hB cl i o ho hall
      rcases Nat.lt_or_ge i n with hin | hin
      · have hlk : ∀ t, t ∈ o.looksAt ops → (fxF ops vs (fun j => listed.getD j false) a0 n).tmps[t]? = (fxF ops vs fxT a0 i).tmps[t]? := fun t ht =>
          fxF_look vs _ a0 n i (Nat.le_of_lt hin) t fun j hj hd => by
            rcases hB.look i o j t hin hj ho hd ht with ⟨h1, h2⟩ | ⟨h1, h2⟩ | h1
            · exact ⟨fun _ => hanc j h2, fun h => by omega⟩
            · refine ⟨fun h => by omega, fun _ => ?_⟩
              cases hb : listed.getD j false with
              | false => rfl
              | true =>
                have hjs : j < ops.size := Nat.lt_of_lt_of_le hj hB.le
                have := anc_listed hB cl j _ (Array.getElem?_eq_getElem hjs) (fun e he hb2 => cl.2 j _ (Array.getElem?_eq_getElem hjs) hb e he hb2) i h2
                rw [hif] at this; cases this
            · subst h1; exact ⟨fun h => by omega, fun _ => hif⟩
        have hsel : ∀ cs b, o.op ≠ .select cs b := fun cs b => Region.noSelect_spec hB.sel i o cs b ho
        have hst := hstep i o vs w hin ho hinv (hpre i hin hif) fun j hj => hf j (by have := (hB.anc i o ho j hj).1; omega) (hanc j hj)
        rw [← fx_same hsel _ _ hlk] at hst
        refine fx_wpOp ho hst fun v w' ⟨hΦ, hg⟩ => ?_
        have hdd : o.dst = (ops[i]?).bind (·.dst) := by rw [ho]; rfl
        have hfp := fxF_put (ops := ops) vs (fun j => listed.getD j false) a0 n i v hin hif fun k hk hkn hLk d' hd' hd2 => by
          have hks : k < ops.size := Nat.lt_of_lt_of_le hkn hB.le
          rw [ho] at hd'
          have h2 := hB.dst i o k d' hin hkn ho hd2 hd' hk
          have := anc_listed hB cl k _ (Array.getElem?_eq_getElem hks) (fun e he hb2 => cl.2 k _ (Array.getElem?_eq_getElem hks) hLk e he hb2) i h2
          rw [hif] at this; cases this
        rw [hdd, hfp]
        have hfr : fxF ops (fun j => if j = i then v else vs j) (fun j => if j = i then true else listed.getD j false) a0 n = fxF ops (fun j => if j = i then v else vs j) (fun j => (listed.setIfInBounds i true).getD j false) a0 n := fxF_agree _ _ _ _ _ _ fun j hj => by
          refine ⟨?_, fun _ => rfl⟩
          by_cases e : j = i
          · subst e; simp [hils]
          · rw [if_neg e, getD_set_ne false (fun h => e h.symm)]
        rw [hfr]
        refine ih _ _ _ (cl.set hi) (fun j h1 h2 => ?_) ?_ (hI i w w' hin hinv hg) (fun j hj hjl => ?_) fun j hj hjl => ?_
        · rw [getD_set_ne false (by omega)]; exact hout j h1 h2
        · have := fxLeft_set hin hils hif; omega
        · by_cases e : j = i
          · subst e; simp [hils] at hjl
          · rw [getD_set_ne false (fun h => e h.symm)] at hjl
            refine hP i j w w' hin hj ?_ hinv (hpre j hj hjl) hg
            unfold fxBefore
            have hni : j ∉ A.getD i [] := fun hm => by rw [hanc j hm] at hjl; cases hjl
            rw [Bool.and_eq_true, decide_eq_true_eq]
            exact ⟨fun h => e h.symm, by simpa using hni⟩
        · by_cases e : j = i
          · subst e; simp only [if_true]; exact hΦ
          · simp only [if_neg e]
            rw [getD_set_ne false (fun h => e h.symm)] at hjl
            refine hG i j (vs j) w w' hin hj ?_ hinv (hf j hj hjl) hg
            unfold fxAfter
            have hjs : j < ops.size := Nat.lt_of_lt_of_le hj hB.le
            have hni : i ∉ A.getD j [] := fun hm => by
              have := anc_listed hB cl j _ (Array.getElem?_eq_getElem hjs) (fun e he hb2 => cl.2 j _ (Array.getElem?_eq_getElem hjs) hjl e he hb2) i hm
              rw [hif] at this; cases this
            rw [Bool.and_eq_true, decide_eq_true_eq]
            exact ⟨fun h => e h.symm, by simpa using hni⟩
      · exfalso
        obtain ⟨j, hj, hju⟩ := fxLeft_pos (listed := listed) (n := n) (by omega)
        have := hanc j (hB.tail i hin his j hj)
        rw [hju] at this; cases this
/-- **A region that draws its order**: one fact for each of its first n operations, kept by all that may come behind it; what comes behind them is walked as' a list. -/
theorem wp_region_fx {id : Nat} {w : World} {l : List Oper} (n : Nat) (A : List (List Nat)) (hm : P.follows .mixedOrders = true) (hB : fxB l.toArray n A = true)
    (Φ : Nat → Value → World → Prop) (G : Nat → World → World → Prop) (Inv : World → Prop) (Ψ : Nat → World → Prop) (h0 : Inv { w with drawn := w.drawn + 1 }) (hp0 : ∀ j, j < n → Ψ j { w with drawn := w.drawn + 1 })
    (hI : ∀ i w w', i < n → Inv w → G i w w' → Inv w')
    (hG : ∀ i j v w w', i < n → j < n → fxAfter A i j = true → Inv w → Φ j v w → G i w w' → Φ j v w')
    (hP : ∀ i j w w', i < n → j < n → fxBefore A i j = true → Inv w → Ψ j w → G i w w' → Ψ j w')
    (hstep : ∀ i o vs w, i < n → l.toArray[i]? = some o → Inv w → Ψ i w → (∀ j, j ∈ A.getD i [] → Φ j (vs j) w) → FxStep P l.toArray o (fxF l.toArray vs fxT a0 i) w fun v w' => Φ i v w' ∧ G i w w')
    (hdone : ∀ vs w, Inv w → (∀ j, j < n → Φ j (vs j) w) → wpList P l.toArray Q (l.drop n) (fxF l.toArray vs fxT a0 n) w) : (Code.region id l.toArray true).wp P Q a0 w := by
  have hk := fxB_ok hB
  have cl0 : Closed .any l.toArray (Array.replicate l.toArray.size false) := ⟨by simp, fun j oj _ hl => (by rw [getD_replicate_false] at hl; cases hl)⟩
  have hl0 : fxLeft (Array.replicate l.toArray.size false) n = n := by
    unfold fxLeft
    rw [List.filter_eq_self.2 (fun j _ => by rw [getD_replicate_false]; rfl), List.length_range]
  have h := fx_any (a0 := a0) hk hI hG hP hstep (fun vs w h1 h2 => by simpa using hdone vs w h1 h2) n (Array.replicate l.toArray.size false) (fun _ => undef) { w with drawn := w.drawn + 1 } cl0 (fun j _ _ => getD_replicate_false _ _) hl0 h0 (fun j hj _ => hp0 j hj) (fun j _ hl => by rw [getD_replicate_false] at hl; cases hl)
  have hfr : fxF l.toArray (fun _ => undef) (fun j => (Array.replicate l.toArray.size false).getD j false) a0 n = a0 := by
    have : ∀ k, fxF l.toArray (fun _ => undef) (fun j => (Array.replicate l.toArray.size false).getD j false) a0 k = a0 := by
      intro k
      induction k with
      | zero => rfl
      | succ k ih =>
        show (if (Array.replicate l.toArray.size false).getD k false = true then _ else _) = a0
        rw [getD_replicate_false, if_neg (by decide)]; exact ih
    exact this n
  rw [hfr, show n + (l.toArray.size - n) = l.toArray.size by have := hk.le; omega] at h
  exact wp_region_any hm h
end
section
variable {o : Oper} {a : Act} {w : World} {R : Value → World → Prop}
theorem fx_val {v : Value} {w' : World} (hw : Region.wanted o (yielded ops a.tmps) = true) (h : (execOp a.eval o).run P w = .ok (.value v) w') (hR : R v w') : FxStep P ops o a w R := by
  unfold FxStep
  rw [if_pos hw, h]
  exact hR
theorem fx_call {T : Array TypeId} {f : FuncId} {fn : Func} {c : Code} {xs : Array Operand} (us : Array Value) (hw : Region.wanted o (yielded ops a.tmps) = true) (ho : o.op = .call { callee := .value (.func f), args := xs, argTypes := T })
    (hf : P.funcs[f]? = some fn) (hname : (fn.name == "runtime.NumGoroutine") = false) (hb : fn.body = some c) (hx : xs.map a.eval = us) (h3 : a.eval (.func f) = .func (.func f) #[] #[])
    (hc : Calls P f us w fun e w'' => ∃ v, e = .returned v ∧ R v w'') : FxStep P ops o a w R := by
  have hn : fn.name ≠ "runtime.NumGoroutine" := by simpa using hname
  unfold FxStep
  rw [if_pos hw]
  unfold execOp
  generalize a.eval = ev at *
  have hr : (callFunc f us).run P w = .ok (.enter f us) w := by simp [callFunc, hf, hn, hb]
  simp only [ho]
  simp [go_sem, hx, h3]
  rw [hr]
  exact hc
end
end
end YtfaojjleapenaabGreatDoor
end Go
namespace Go.Proofs.YtfaojjleapenaabGreatDoor.wir.val.top
open Go.RowKit Go.YtfaojjleapenaabGreatDoor
set_option linter.unusedVariables false
theorem run_makeLsJ (w : World) (n : Nat) (hn : n ≤ 1000) : (Instr.makeSlice 26 (.int .i64 (n : Int)) (.int .i64 (n : Int))).run Tryz.prog w = .ok (.slice (some ⟨w.heap.size, 0, none⟩) n n) (w.alloc (.cells (madeCells #[.slice none 0 0] n) 22)) := by
  obtain ⟨i, hi, hz, hs, hb⟩ := info_parts (show (Tryz.prog.info? 22).map (fun i => (i.zero, i.size, i.bytes)) = some (some (.slice none 0 0), 1, 24) by kernel_rfl)
  have h := run_make (P := Tryz.prog) w 26 22 i (.slice none 0 0) Tryz.underlying26 hi hz .i64 .i64 (n : Int) (n : Int) (by omega) (by omega) (by rw [hb]; omega) (by omega)
  rw [h, hs]
  simp only [Int.toNat_natCast, Nat.mul_one, Value.cells]
set_option maxHeartbeats 4000000 in
set_option maxRecDepth 100000 in
/-- The bytes of what a secret signs, one's own. -/
theorem signed_own (a : Nat) (ha : 1 ≤ a ∧ a < 500000003) : ∃ B : List Int, vd B = 0 ∧ B.length ≤ 400 ∧ Bytes B ∧ ∀ w, GlobW w → Calls Tryz.prog 8 #[.int .u32 (a : Int)] w fun e w' => ∃ v, e = .returned v ∧ OwnB w.heap.size 5 w' v B ∧ Below w.heap.size w w' := by
  obtain ⟨T, fT, cT, vT, nT, FT, _, hS⟩ := sig_gen a ha kO kO_fit rfl (chk_ok (show ¬ 4 < 0 by decide) rfl (okO_of (kO.byA (grp.pw 4 a)).bare (grp.inG_pw 4 a grp.in4) kO_ok2 gO_sig0))
  have hF : T.F.length = 32 * T.n := by rw [nT, FT]; rfl
  obtain ⟨g1, g2, g3⟩ := vd_good fT hF cT vT
  refine ⟨encO T, g1, g2, g3, fun w hG0 => ?_⟩
  have hSg := Lib.hid (show Calls Tryz.prog 20 #[.int .u32 (a : Int), .agg #[.int .u32 0, .slice none 0 0, .int .u64 1, .int .u8 2, .string ⟨#[107]⟩, .int .u8 0, .int .i64 0, .int .u64 0, .string ⟨#[]⟩, .int .u32 0, .int .u32 0]] w fun e w' => ∃ qa qc, e = .returned (.tuple #[.agg (T.c (.slice qa T.n qc)), .int .i64 0]) ∧ RdI w' (.slice qa T.n qc) T.n T.F ∧ Below w.heap.size w w' from hS w (.slice none 0 0) (.inl ⟨none, 0, rfl, fun _ => rfl, rfl, rfl⟩) hG0)
  have hE := Lib.hid (fun wz v (h : RdI wz v T.n T.F) => opEncode_ok T fT v wz h cT)
  generalize encO T = B at *
  clear g1 g2 g3 hF nT FT fT cT vT hS hG0 ha
  go_enter Tryz.func8, Tryz.ntmps8
  go_upto_region 2 with (first
    | (go_at_call 20; (with_reducible refine (hSg.out).mono ?_); rintro e w1 ⟨qa, qc, rfl, hq, hb⟩; have hb1 := Lib.hid hb; have hq1 := Lib.hid hq; clear hb hq)
    | (refine storeNew _ rfl 41 _ _ rfl (T.c (.slice qa T.n qc)) 41 rfl rfl info_op rfl (op_one T qa T.n qc) ?_; intro w2 hr2 hb2; have r2 := Lib.hid hr2; have hb2 := Lib.hid hb2; have hq2 := Lib.hid (hq1.out.mono hb2.out); clear hr2))
  go_wp2_with (first
    | (refine wpList_load_row_g rfl 41 _ rfl _ rfl 41 (T.c (.slice qa T.n qc)) (0, 0) _ r2.out Tryz.underlying41 rfl info_op ?_)
    | (go_at_call 14; (with_reducible refine (hE.out _ _ hq2.out).mono ?_); rintro e w3 ⟨sv, rfl, h3, h4⟩; have hO := Lib.hid h3; have hb3 := Lib.hid h4; clear h3 h4))
  go_ret
  exact ⟨_, rfl, hO.out.mono (Nat.le_trans hb1.out.size hb2.out.size), (hb1.out.trans (hb2.out.mono hb1.out.size)).trans (hb3.out.mono (Nat.le_trans hb1.out.size hb2.out.size))⟩
/-- Zeros behind one's own bytes: the step. -/
theorem appendZ {P : Program} {ops : Array Oper} {rest : List Oper} {o : Oper} {a : Act} {w : World} {Q : Exit → Act → World → Prop} (hgd : o.guard = none) (s x : Operand) (t tn : TypeId)
    (ho : o.op = .call { callee := .builtin .append, args := #[s, x], argTypes := #[t, tn] })
    (base : Nat) (e : TypeId) (ht : P.underlying t = some (.slice e)) (htn : P.underlying tn = some (.int .i64)) (hinfo : (P.info? e).map (fun i => (i.zero, i.size, i.bytes)) = some (some (.int .u8 0), 1, 1))
    (v : Value) (hs : a.eval s = v) (l : List Int) (hown : OwnB base e w v l) (k : Nat) (hx : a.eval x = .int .i64 (k : Int)) (hk : 0 < k) (hk2 : k ≤ 1000) (hl : l.length ≤ 100000) (sa : Option Addr) (sc : Nat) (hr : RdB w (.slice sa k sc) (zerosB k)) (hbase : base ≤ w.heap.size)
    (h : ∀ v' w', OwnB base e w' v' (l ++ zerosB k) → w.grownBy w' v.ownBlock → Stop (wpList P ops Q rest (a.put o.dst v') w')) : wpList P ops Q (o :: rest) a w := by
  refine wpList_plain hgd fun K hK => ?_
  have hzl : (zerosB k).length = k := zerosB_length k
  obtain ⟨v', w', hrun, h2, h3⟩ := run_appendB (P := P) w base t o.type e ht hinfo v l hown (.slice sa k sc) (zerosB k) hr (by rw [hzl]; omega) hbase
  have hrun2 : (Builtin.append_ #[t, tn] o.type #[v, .int .i64 (k : Int)]).run P w = .ok v' w' := by
    rcases hr with ⟨_, _, e1, _, e2⟩ | ⟨b, oo, c, e1, h5, h6, h7, h8⟩
    · rw [e2] at hzl; simp at hzl; omega
    · rw [hzl] at e1
      injection e1 with e1 _ e3
      subst e1 e3
      have hcells : ∀ wz : World, wz.heap = w.heap → ∀ j u, (u8v (zerosB k))[j]? = some u → wz.cell? ((⟨b, oo, none⟩ : Addr).add j) = some u := fun wz hh j u hu => by
        have := RdB.src h8 j u hu
        unfold World.cell? at this ⊢
        rw [hh]
        exact this
      obtain ⟨va, vc, rfl⟩ := hown.rd.slice
      have hold : ∃ olds : Array Value, ∀ wz : World, wz.heap = w.heap → (Builtin.firstCells 1 l.length (.slice va l.length vc)).run P wz = .ok olds wz := by
        rcases hown.rd with ⟨a', c', e4, e5, e6⟩ | ⟨b', o', c', e4, f1, f2, f3, f4⟩
        · subst e6
          cases va with
          | none => exact ⟨#[], fun wz _ => run_firstCells_none (w := wz) 1 0 0 vc⟩
          | some A => exact ⟨#[], fun wz _ => by
              have := run_firstCells_some (P := P) (w := wz) 1 0 A 0 vc [] rfl (fun j u hu => by cases hu)
              exact this⟩
        · injection e4 with e4 _ e7
          subst e4 e7
          refine ⟨(u8v l).toArray, fun wz hh => run_firstCells_some (w := wz) 1 l.length _ l.length vc (u8v l) (by simp [u8v]) fun j u hu => ?_⟩
          have := RdB.src f4 j u hu
          unfold World.cell? at this ⊢
          rw [hh]
          exact this
      obtain ⟨olds, hold⟩ := hold
      rw [run_append_zeros w t tn o.type e ht htn hinfo va l.length vc hl k hk hk2 olds hold (fun hlt => by have := nextslicecap_le hlt; omega) b oo sc hcells]
      exact hrun
  unfold Oper.wp execOp
  simp only [ho, resolve, invoke, builtin, Sem.run_bind, Sem.run_pure, Result.andThen_ok, List.map_toArray, List.map_cons, List.map_nil, hs, hx, hrun2]
  exact hK _ _ (h v' w' h2 h3).out
def L6 (B5 B6 : List Int) : List (List Int) := [B5, [], zerosB 400, zerosB 401, [111, 4, 0, 7, 1, 0, 0], B6]
theorem vd_400 : vd (zerosB 400) = 2 := by decide +kernel
theorem L6_vd {B5 B6 : List Int} (h5 : vd B5 = 0) (h6 : vd B6 = 0) : (L6 B5 B6).map vd = [0, 2, 2, 3, 4, 0] := by
  unfold L6
  simp only [List.map_cons, List.map_nil, h5, h6, vd_nil, vd_400, vd_401, vd_bad]
theorem L6_cnt {B5 B6 : List Int} (h5 : vd B5 = 0) (h6 : vd B6 = 0) : cP (L6 B5 B6) 6 = [2, 0, 2, 1, 1, 0, 0, 0, 0, 0] := by
  have e : ∀ j : Nat, cnt (L6 B5 B6) 6 j = (([0, 2, 2, 3, 4, 0] : List Int).filter fun x => decide (x = (j : Int))).length := fun j => by
    rw [← L6_vd h5 h6]
    unfold cnt L6
    rw [List.filter_map, List.length_map]
    rfl
  unfold cP
  simp only [e]
  decide
theorem cnt_60 : cP (List.replicate 60 []) 60 = [0, 0, 60, 0, 0, 0, 0, 0, 0, 0] := by
  have e : ∀ j : Nat, cnt (List.replicate 60 []) 60 j = if j = 2 then 60 else 0 := fun j => by
    unfold cnt
    rw [show (List.replicate 60 ([] : List Int)).take 60 = List.replicate 60 [] by rw [List.take_replicate]; rfl]
    by_cases h : j = 2
    · subst h
      rw [List.filter_replicate, if_pos (by rw [vd_nil]; rfl), if_pos rfl, List.length_replicate]
    · rw [List.filter_replicate, if_neg (by rw [vd_nil, decide_eq_true_eq]; omega), if_neg h]; rfl
  unfold cP
  simp only [e]
  rfl
theorem rd_emptyS (w : World) (n : Nat) (hn : n ≤ 1000) : RdS (w.alloc (.cells (madeCells #[.slice none 0 0] n) 22)) (.slice (some ⟨w.heap.size, 0, none⟩) n n) (List.replicate n []) := by
  refine .inr ⟨w.heap.size, 0, n, by rw [List.length_replicate], by rw [List.length_replicate]; exact Nat.le_refl _, by unfold maxLen; omega, by simp, fun i hi => ?_⟩
  rw [List.length_replicate] at hi
  refine ⟨.slice none 0 0, ?_, ?_⟩
  · rw [cell_of_row _ _ _ _ _ _ (heap_alloc_new w _)]
    simp [madeCells, hi, Nat.mod_one]
  · unfold nthL
    rw [List.getElem?_replicate, if_pos hi]
    exact .inl ⟨none, 0, rfl, fun _ => rfl, rfl⟩
end Go.Proofs.YtfaojjleapenaabGreatDoor.wir.val.top
namespace Go.Proofs.YtfaojjleapenaabGreatDoor.wir.val.top
open Go.RowKit Go.YtfaojjleapenaabGreatDoor
set_option linter.unusedVariables false
def jnL (B5 B6 : List Int) : Nat → List Int
  | 0 => B5
  | 1 => zerosB 400
  | 2 => zerosB 401
  | 3 => [111, 4, 0, 7, 1, 0, 0]
  | _ => B6
def jnN (n5 n6 : Nat) : Nat → Nat
  | 0 => n5
  | 1 => 400
  | 2 => 401
  | 3 => 7
  | _ => n6
def jnF (B5 B6 : List Int) (n5 n6 i : Nat) (v : Value) (w : World) : Prop := ∃ (a : Option Addr) (c : Nat), v = .slice a (jnN n5 n6 i) c ∧ RdB w v (jnL B5 B6 i)
theorem jnF_mono {B5 B6 : List Int} {n5 n6 i : Nat} {v : Value} {w w' : World} (h : jnF B5 B6 n5 n6 i v w) (hb : Below w.heap.size w w') : jnF B5 B6 n5 n6 i v w' := by
  obtain ⟨a, c, e, h⟩ := h
  exact ⟨a, c, e, h.mono hb⟩
def jnA : List (List Nat) := [[], [], [], [], [0], [0, 1, 2, 3, 4], [0, 1, 2, 3, 4, 5]]
set_option maxHeartbeats 16000000 in
set_option maxRecDepth 100000 in
theorem jnames_law (w : World) (hG0 : GlobW w) : Calls Tryz.prog 3 #[] w fun e w' => e = .returned (.bool true) ∧ Below w.heap.size w w' := by
  obtain ⟨B5, b51, b52, b53, hB5⟩ := signed_own 5 ⟨by omega, by omega⟩
  obtain ⟨B6, b61, b62, b63, hB6⟩ := signed_own 6 ⟨by omega, by omega⟩
  obtain ⟨n5, hn5⟩ : ∃ n, B5.length = n := ⟨_, rfl⟩
  obtain ⟨n6, hn6⟩ : ∃ n, B6.length = n := ⟨_, rfl⟩
  have hbL : ∀ i, Bytes (nthL (L6 B5 B6) i) := fun i => by
    match i with
    | 0 => exact b53
    | 1 => exact bytes_nil
    | 2 => exact bytes_zeros 400
    | 3 => exact bytes_zeros 401
    | 4 => exact bytes7
    | 5 => exact b63
    | j + 6 => rw [show nthL (L6 B5 B6) (j + 6) = [] by unfold nthL L6; simp]; exact bytes_nil
  have m61 : ∀ wz : World, (Instr.makeSlice 26 (.int .i64 61) (.int .i64 61)).run Tryz.prog wz = .ok (.slice (some ⟨wz.heap.size, 0, none⟩) 61 61) (wz.alloc (.cells (madeCells #[.slice none 0 0] 61) 22)) := fun wz => run_makeLsJ wz 61 (by decide)
  have m60 : ∀ wz : World, (Instr.makeSlice 26 (.int .i64 60) (.int .i64 60)).run Tryz.prog wz = .ok (.slice (some ⟨wz.heap.size, 0, none⟩) 60 60) (wz.alloc (.cells (madeCells #[.slice none 0 0] 60) 22)) := fun wz => run_makeLsJ wz 60 (by decide)
  have f1 := Lib.hid (fun (wz : World) => (show Calls Tryz.prog 6 #[.slice (some ⟨wz.heap.size, 0, none⟩) 61 61] (wz.alloc (.cells (madeCells #[.slice none 0 0] 61) 22)) fun e w' => e = .returned (.tuple #[.slice none 0 0, .int .i64 4]) ∧ Below wz.heap.size wz w' from
    (many_long _ 61 61 _ (by decide)).mono fun e w' ⟨h1, h2⟩ => ⟨h1, by rw [h2]; exact below_a wz _⟩))
  have f2 := Lib.hid (fun (wz : World) => (show Calls Tryz.prog 7 #[.slice (some ⟨wz.heap.size, 0, none⟩) 61 61] (wz.alloc (.cells (madeCells #[.slice none 0 0] 61) 22)) fun e w' => e = .returned (.tuple #[.agg (c64s [0, 0, 0, 0, 0, 0, 0, 0, 0, 0]), .int .i64 4]) ∧ Below wz.heap.size wz w' from
    (count_long _ 61 61 _ (by decide)).mono fun e w' ⟨h1, h2⟩ => ⟨h1, (below_a wz _).trans (h2.mono (by simp))⟩))
  have f3 := Lib.hid (fun (wz : World) (hg : GlobW wz) => (show Calls Tryz.prog 7 #[.slice (some ⟨wz.heap.size, 0, none⟩) 60 60] (wz.alloc (.cells (madeCells #[.slice none 0 0] 60) 22)) fun e w' => e = .returned (.tuple #[.agg (c64s [0, 0, 60, 0, 0, 0, 0, 0, 0, 0]), .int .i64 0]) ∧ Below wz.heap.size wz w' from by
    have h := count_any (List.replicate 60 []) _ _ (rd_emptyS wz 60 (by decide)) (fun i => by unfold nthL; rw [List.getElem?_replicate]; split <;> exact bytes_nil) (by rw [List.length_replicate]; exact Nat.le_refl _) (hg.mono (below_a wz _))
    rw [List.length_replicate, cnt_60] at h
    exact h.mono fun e w' ⟨h1, h2⟩ => ⟨h1, (below_a wz _).trans (h2.mono (by simp))⟩))
  have s5 := Lib.hid (fun (wz : World) (hg : GlobW wz) => (show Calls Tryz.prog 8 #[.int .u32 5] wz fun e w' => ∃ v, e = .returned v ∧ OwnB wz.heap.size 5 w' v B5 ∧ Below wz.heap.size wz w' from hB5 wz hg))
  have s6 := Lib.hid (fun (wz : World) (hg : GlobW wz) => (show Calls Tryz.prog 8 #[.int .u32 6] wz fun e w' => ∃ v, e = .returned v ∧ OwnB wz.heap.size 5 w' v B6 ∧ Below wz.heap.size wz w' from hB6 wz hg))
  have f5 := Lib.hid (fun (wz : World) (a : Option Addr) (c : Nat) (h : RdS wz (.slice a 6 c) (L6 B5 B6)) (hg : GlobW wz) => (show Calls Tryz.prog 6 #[.slice a 6 c] wz fun e w' => ∃ g, e = .returned (.tuple #[.slice (some ⟨g, 0, none⟩) 6 6, .int .i64 0]) ∧ w'.heap[g]? = some (.cells #[.int .u8 0, .int .u8 2, .int .u8 2, .int .u8 3, .int .u8 4, .int .u8 0] 5 (0, 0)) ∧ Below wz.heap.size wz w' from by
    refine (many_any (L6 B5 B6) (.slice a 6 c) wz h hbL (by show 6 ≤ 60; decide) hg).mono ?_
    rintro e w' ⟨he, h1, h2⟩
    rw [L6_vd b51 b61] at h1
    exact ⟨_, he, h1, h2⟩))
  have f6 := Lib.hid (fun (wz : World) (a : Option Addr) (c : Nat) (h : RdS wz (.slice a 6 c) (L6 B5 B6)) (hg : GlobW wz) => (show Calls Tryz.prog 7 #[.slice a 6 c] wz fun e w' => e = .returned (.tuple #[.agg (c64s [2, 0, 2, 1, 1, 0, 0, 0, 0, 0]), .int .i64 0]) ∧ Below wz.heap.size wz w' from by
    have h := count_any (L6 B5 B6) (.slice a 6 c) wz h hbL (by show 6 ≤ 60; decide) hg
    rw [show (L6 B5 B6).length = 6 from rfl, L6_cnt b51 b61] at h
    exact h))
  have f7 := Lib.hid (fun (wz : World) (hg : GlobW wz) => (show Calls Tryz.prog 9 #[.slice (some ⟨wz.heap.size, 0, none⟩) 7 7] (wz.alloc (.cells #[.int .u8 111, .int .u8 4, .int .u8 0, .int .u8 7, .int .u8 1, .int .u8 0, .int .u8 0] 5)) fun e w' => ∃ a c, e = .returned (.tuple #[.agg (zO.c (.slice a 0 c)), .agg (u8s (zerosB 32)), .int .u8 4]) ∧ RdI w' (.slice a 0 c) 0 [] ∧ Below wz.heap.size wz w' from by
    have h := judgeOf_noT [111, 4, 0, 7, 1, 0, 0] _ _ (rd7 wz) bytes7 (hg.mono (below_a wz _)) (by rw [vd_bad]; decide)
    rw [vd_bad] at h
    exact h.mono fun e w' ⟨a, c, h1, h2, h3⟩ => ⟨a, c, h1, h2, (below_a wz _).trans (h3.mono (by simp))⟩))
  have f8 := Lib.hid (fun (wz : World) (hg : GlobW wz) => (show Calls Tryz.prog 6 #[.slice none 0 0] wz fun e w' => ∃ g, e = .returned (.tuple #[.slice (some ⟨g, 0, none⟩) 0 0, .int .i64 0]) ∧ Below wz.heap.size wz w' from
    (many_any [] (.slice none 0 0) wz (.inl ⟨none, 0, rfl, fun _ => rfl, rfl⟩) (fun i => by simp [nthL]; exact bytes_nil) (by decide) hg).mono fun e w' ⟨h1, _, h3⟩ => ⟨_, h1, h3⟩))
  have f9 := Lib.hid (fun (wz : World) (g : Nat) (h : wz.heap[g]? = some (.cells #[.int .u8 0, .int .u8 2, .int .u8 2, .int .u8 3, .int .u8 4, .int .u8 0] 5 (0, 0))) => (show Calls Tryz.prog 10 #[.slice (some ⟨g, 0, none⟩) 6 6, .slice (some ⟨wz.heap.size, 0, none⟩) 6 6] (wz.alloc (.cells #[.int .u8 0, .int .u8 2, .int .u8 2, .int .u8 3, .int .u8 4, .int .u8 0] 5)) fun e w' => e = .returned (.bool true) ∧ Below wz.heap.size wz w' from
    (same_true _ _ [0, 2, 2, 3, 4, 0] _ (by decide) ((rdB_row (cs := [0, 2, 2, 3, 4, 0]) h 6 rfl (by decide)).mono (below_a wz _)) (rdB_row (cs := [0, 2, 2, 3, 4, 0]) (heap_alloc_new wz _) 6 rfl (by decide))).mono fun e w' ⟨h1, h2⟩ => ⟨h1, (below_a wz _).trans (h2.mono (by simp))⟩))
  have f10 := Lib.hid (fun (wz : World) (v : Value) (h : RdI wz v 0 []) => (show Calls Tryz.prog 11 #[.agg (zO.c v), .agg #[.int .u32 0, .slice none 0 0, .int .u64 0, .int .u8 0, .string ⟨#[]⟩, .int .u8 0, .int .i64 0, .int .u64 0, .string ⟨#[]⟩, .int .u32 0, .int .u32 0]] wz fun e w' => e = .returned (.bool true) ∧ Below wz.heap.size wz w' from
    sameO_yes zO (by decide) v (.slice none 0 0) wz h (.inl ⟨none, 0, rfl, fun _ => rfl, rfl, rfl⟩)))
  have hvl : vd (B5 ++ zerosB 400) = 3 ∨ n5 = 0 := by
    by_cases h : n5 = 0
    · exact .inr h
    · exact .inl (by unfold vd; rw [if_pos (by rw [List.length_append, zerosB_length]; omega)])
  have hn50 : n5 ≠ 0 := by
    intro h
    have : B5 = [] := List.eq_nil_of_length_eq_zero (by rw [hn5, h])
    rw [this, vd_nil] at b51
    cases b51
  have hvl2 := hvl.resolve_right hn50
  have f11 := Lib.hid (fun (wz : World) (v : Value) (h : RdB wz v (B5 ++ zerosB 400)) (hg : GlobW wz) => (show Calls Tryz.prog 12 #[v] wz fun e w' => e = .returned (.int .u8 3) ∧ Below wz.heap.size wz w' from by
    have h := verdict_any (B5 ++ zerosB 400) v wz h (bytes_append _ _ b53 (bytes_zeros 400)) hg
    rw [hvl2] at h
    exact h))
  have f12 := Lib.hid (fun (wz : World) (hg : GlobW wz) => alive8 wz hg)
  have hmk : ∀ (n : Nat) (hn : n ≤ 1000) (wz : World), (Instr.makeSlice 22 (.int .i64 (n : Int)) (.int .i64 (n : Int))).run Tryz.prog wz = .ok (.slice (some ⟨wz.heap.size, 0, none⟩) n n) (wz.alloc (.cells (u8s (zerosB n)) 5)) := fun n hn wz => run_makeB (P := Tryz.prog) wz 22 5 Tryz.underlying22 (by kernel_rfl) n n (Nat.le_refl _) (by omega)
  have mk4 := Lib.hid (show ∀ wz : World, (Instr.makeSlice 22 (.int .i64 400) (.int .i64 400)).run Tryz.prog wz = .ok (.slice (some ⟨wz.heap.size, 0, none⟩) 400 400) (wz.alloc (.cells (u8s (zerosB 400)) 5)) from hmk 400 (by decide))
  have mk41 := Lib.hid (show ∀ wz : World, (Instr.makeSlice 22 (.int .i64 401) (.int .i64 401)).run Tryz.prog wz = .ok (.slice (some ⟨wz.heap.size, 0, none⟩) 401 401) (wz.alloc (.cells (u8s (zerosB 401)) 5)) from hmk 401 (by decide))
  have heq1 := Lib.hid (fun wz => eqCnt [0, 0, 60, 0, 0, 0, 0, 0, 0, 0] rfl wz)
  have heq2 := Lib.hid (fun wz => eqCnt [2, 0, 2, 1, 1, 0, 0, 0, 0, 0] rfl wz)
  have heq3 := Lib.hid (show ∀ wz, (binOp .eql 43 (.agg (u8s (zerosB 32))) (.agg (u8s (zerosB 32)))).run Tryz.prog wz = .ok (.bool true) wz from fun wz => by rw [eql_idT _ _ (zerosB_length 32) (zerosB_length 32) wz, decide_eq_true rfl])
  have di := Lib.hid zid_info
  have ds := Lib.hid (show ∀ x : Array Value, x = u8s (zerosB 32) → x.size = (u8s (zerosB 32)).size from fun x hx => by rw [hx])
  have hS0 := Lib.hid (Below.refl w.heap.size w)
  have hG := Lib.hid hG0
  have hn5' := Lib.hid hn5; have hn6' := Lib.hid hn6
  have b52' := Lib.hid b52
  clear b51 b52 b53 b61 b62 b63 hB5 hB6 hbL hG0 hvl hn50 hvl2 hmk hn5 hn6
  go_enter Tryz.func3, Tryz.ntmps3
  go_upto_region 2 with (go_at_call 6; (with_reducible refine (f1.out _).mono ?_); rintro e9 w4 ⟨rfl, q2⟩; (try replace hG := Lib.hid (hG.out.mono q2)); replace hS0 := Lib.hid (hS0.out.trans (Below.mono q2 hS0.out.size)); clear q2)
  go_upto_region 3 with (first
    | (go_at_call 7; (with_reducible refine (f2.out _).mono ?_); rintro e9 w4 ⟨rfl, q2⟩; (try replace hG := Lib.hid (hG.out.mono q2)); replace hS0 := Lib.hid (hS0.out.trans (Below.mono q2 hS0.out.size)); clear q2)
    | (refine storeNew _ rfl 27 _ _ rfl (c64s [0, 0, 0, 0, 0, 0, 0, 0, 0, 0]) 27 rfl rfl info_cnt rfl (c64s_one _) ?_; intro wx hrx hbx; (try replace hG := Lib.hid (hG.out.mono hbx)); replace hS0 := Lib.hid (hS0.out.trans (Below.mono hbx hS0.out.size)); have rA := Lib.hid hrx; clear hrx hbx))
  go_upto_region 4 with (first
    | (go_at_call 7; (with_reducible refine (f3.out _ hG.out).mono ?_); rintro e9 w4 ⟨rfl, q2⟩; (try replace hG := Lib.hid (hG.out.mono q2)); replace hS0 := Lib.hid (hS0.out.trans (Below.mono q2 hS0.out.size)); clear q2)
    | (refine storeNew _ rfl 27 _ _ rfl (c64s [0, 0, 60, 0, 0, 0, 0, 0, 0, 0]) 27 rfl rfl info_cnt rfl (c64s_one _) ?_; intro wx hrx hbx; (try replace hG := Lib.hid (hG.out.mono hbx)); replace hS0 := Lib.hid (hS0.out.trans (Below.mono hbx hS0.out.size)); have r60 := Lib.hid hrx; clear hrx hbx))
  clear m61 m60 rA
  refine wp_region_fx 5 jnA (by kernel_rfl) (by kernel_rfl) (jnF B5 B6 n5 n6) (fun _ a b => Below a.heap.size a b) (fun wz => Below wx.heap.size wx wz) (fun _ _ => True)
    (Below.refl _ _).drew (fun _ _ => trivial) (fun i a b hi h hg => h.trans (Below.mono hg h.size)) (fun i j v a b hi hj ha _ h hg => jnF_mono h hg) (fun i j a b hi hj ha _ h hg => trivial) ?hstep ?hdone
  case hstep =>
    intro i op vs wz hi hop hinv hpre hd
    match i, hi with
    | 0, _ =>
      simp only [List.getElem?_toArray, List.getElem?_cons_zero, List.getElem?_cons_succ, Option.some.injEq] at hop
      subst hop
      generalize hfr : fxF _ vs fxT _ 0 = fr
      clear hfr
      have ec : ∀ v, fr.eval (.const v) = v := fun _ => rfl
      refine fx_call #[.int .u32 5] rfl rfl Tryz.func8 (by kernel_rfl) rfl (by simp [ec]) rfl ((s5.out wz (hG.out.mono hinv)).mono ?_)
      rintro e9 w9 ⟨v, rfl, z1, z2⟩
      obtain ⟨va, vc, hv⟩ := z1.rd.slice
      exact ⟨_, rfl, ⟨va, vc, by rw [hv, hn5'.out]; rfl, z1.rd⟩, z2⟩
    | 1, _ =>
      simp only [List.getElem?_toArray, List.getElem?_cons_zero, List.getElem?_cons_succ, Option.some.injEq] at hop
      subst hop
      generalize hfr : fxF _ vs fxT _ 1 = fr
      clear hfr
      have ec : ∀ v, fr.eval (.const v) = v := fun _ => rfl
      refine fx_val (v := .slice (some ⟨wz.heap.size, 0, none⟩) 400 400) (w' := wz.alloc (.cells (u8s (zerosB 400)) 5)) rfl ?_ ⟨⟨_, _, rfl, rd_zeros wz 400 (by decide)⟩, below_a wz _⟩
      have hm := mk4.out wz
      unfold execOp
      generalize fr.eval = ev at ec ⊢
      simp [go_sem, hm, ec]
    | 2, _ =>
      simp only [List.getElem?_toArray, List.getElem?_cons_zero, List.getElem?_cons_succ, Option.some.injEq] at hop
      subst hop
      generalize hfr : fxF _ vs fxT _ 2 = fr
      clear hfr
      have ec : ∀ v, fr.eval (.const v) = v := fun _ => rfl
      refine fx_val (v := .slice (some ⟨wz.heap.size, 0, none⟩) 401 401) (w' := wz.alloc (.cells (u8s (zerosB 401)) 5)) rfl ?_ ⟨⟨_, _, rfl, rd_zeros wz 401 (by decide)⟩, below_a wz _⟩
      have hm := mk41.out wz
      unfold execOp
      generalize fr.eval = ev at ec ⊢
      simp [go_sem, hm, ec]
    | 3, _ =>
      simp only [List.getElem?_toArray, List.getElem?_cons_zero, List.getElem?_cons_succ, Option.some.injEq] at hop
      subst hop
      generalize hfr : fxF _ vs fxT _ 3 = fr
      clear hfr
      have ec : ∀ v, fr.eval (.const v) = v := fun _ => rfl
      refine fx_val (v := .slice (some ⟨wz.heap.size, 0, none⟩) 7 7) (w' := wz.alloc (.cells #[.int .u8 111, .int .u8 4, .int .u8 0, .int .u8 7, .int .u8 1, .int .u8 0, .int .u8 0] 5)) rfl ?_ ⟨⟨_, _, rfl, rd7 wz⟩, below_a wz _⟩
      unfold execOp
      generalize fr.eval = ev at ec ⊢
      simp [go_sem, ec]
    | 4, _ =>
      simp only [List.getElem?_toArray, List.getElem?_cons_zero, List.getElem?_cons_succ, Option.some.injEq] at hop
      subst hop
      generalize hfr : fxF _ vs fxT _ 4 = fr
      clear hfr
      have ec : ∀ v, fr.eval (.const v) = v := fun _ => rfl
      refine fx_call #[.int .u32 6] rfl rfl Tryz.func8 (by kernel_rfl) rfl (by simp [ec]) rfl ((s6.out wz (hG.out.mono hinv)).mono ?_)
      rintro e9 w9 ⟨v, rfl, z1, z2⟩
      obtain ⟨va, vc, hv⟩ := z1.rd.slice
      exact ⟨_, rfl, ⟨va, vc, by rw [hv, hn6'.out]; rfl, z1.rd⟩, z2⟩
    | j + 5, hj => exact absurd hj (by omega)
  case hdone =>
    intro vs w5 hinv hf
    obtain ⟨a0, c0, e0, h0⟩ := hf 0 (by decide)
    obtain ⟨a1, c1, e1, h1⟩ := hf 1 (by decide)
    obtain ⟨a2, c2, e2, h2⟩ := hf 2 (by decide)
    obtain ⟨a3, c3, e3, h3⟩ := hf 3 (by decide)
    obtain ⟨a4, c4, e4, h4⟩ := hf 4 (by decide)
    simp only [fxF, fxT, if_true, List.drop_succ_cons, List.drop_zero, List.getElem?_toArray, List.getElem?_cons_zero, List.getElem?_cons_succ, Option.bind_some]
    rw [e0] at h0; rw [e1] at h1; rw [e2] at h2; rw [e3] at h3; rw [e4] at h4
    rw [e0, e1, e2, e3, e4]
    simp only [jnN, jnL] at h0 h1 h2 h3 h4
    simp only [jnN]
    have hw6 : RdS (w5.alloc (.cells #[.slice a0 n5 c0, .slice none 0 0, .slice a1 400 c1, .slice a2 401 c2, .slice a3 7 c3, .slice a4 n6 c4] 22)) (.slice (some ⟨w5.heap.size, 0, none⟩) 6 6) (L6 B5 B6) := by
      have hal := below_a w5 (.cells #[.slice a0 n5 c0, .slice none 0 0, .slice a1 400 c1, .slice a2 401 c2, .slice a3 7 c3, .slice a4 n6 c4] 22)
      have hrow := heap_alloc_new w5 (.cells #[.slice a0 n5 c0, .slice none 0 0, .slice a1 400 c1, .slice a2 401 c2, .slice a3 7 c3, .slice a4 n6 c4] 22)
      refine .inr ⟨w5.heap.size, 0, 6, rfl, Nat.le_refl _, by decide, by simp, fun i hi => ?_⟩
      match i, hi with
      | 0, _ => exact ⟨_, cell_of_row _ _ _ _ _ _ hrow, h0.mono hal⟩
      | 1, _ => exact ⟨_, cell_of_row _ _ _ _ _ _ hrow, .inl ⟨none, 0, rfl, fun _ => rfl, rfl⟩⟩
      | 2, _ => exact ⟨_, cell_of_row _ _ _ _ _ _ hrow, h1.mono hal⟩
      | 3, _ => exact ⟨_, cell_of_row _ _ _ _ _ _ hrow, h2.mono hal⟩
      | 4, _ => exact ⟨_, cell_of_row _ _ _ _ _ _ hrow, h3.mono hal⟩
      | 5, _ => exact ⟨_, cell_of_row _ _ _ _ _ _ hrow, h4.mono hal⟩
    have xZ0 := h1
    obtain ⟨w6, hw6e⟩ : ∃ x, x = w5.alloc (.cells #[.slice a0 n5 c0, .slice none 0 0, .slice a1 400 c1, .slice a2 401 c2, .slice a3 7 c3, .slice a4 n6 c4] 22) := ⟨_, rfl⟩
    have hb56 : Below wx.heap.size wx w6 := by rw [hw6e]; exact hinv.trans ((below_a w5 _).mono hinv.size)
    have xZ := Lib.hid (show RdB w6 (.slice a1 400 c1) (zerosB 400) by rw [hw6e]; exact h1.mono (below_a w5 _))
    rw [← hw6e] at hw6
    have xS := Lib.hid hw6
    obtain ⟨g6, hg6⟩ : ∃ g, g = w5.heap.size := ⟨_, rfl⟩
    rw [← hg6] at xS
    have hb56 := Lib.hid hb56
    clear h0 h1 h2 h3 h4 e0 e1 e2 e3 e4 hf hinv xZ0 hw6
    (try replace r60 := Lib.hid (rowB r60.out hb56.out (Array.getElem?_eq_some_iff.1 r60.out).1))
    (try replace hG := Lib.hid (hG.out.mono hb56.out))
    replace hS0 := Lib.hid (hS0.out.trans (Below.mono hb56.out hS0.out.size))
    clear hb56
    go_upto_region 5 with fail
    rw [← hg6, ← hw6e]
    clear hg6 hw6e
    go_upto_region 6 with (go_at_call 6; (with_reducible refine (f5.out _ _ _ xS.out hG.out).mono ?_); rintro e9 w4 ⟨gv, rfl, q1, q2⟩; (try replace r60 := Lib.hid (rowB r60.out q2 (Array.getElem?_eq_some_iff.1 r60.out).1)); (try replace hG := Lib.hid (hG.out.mono q2)); (try replace xZ := Lib.hid (xZ.out.mono q2)); (try replace xS := Lib.hid (xS.out.mono q2)); replace hS0 := Lib.hid (hS0.out.trans (Below.mono q2 hS0.out.size)); have rv := Lib.hid q1; clear q1; clear q2)
    go_upto_region 7 with (first
      | (go_at_call 7; (with_reducible refine (f6.out _ _ _ xS.out hG.out).mono ?_); rintro e9 w4 ⟨rfl, q2⟩; (try replace r60 := Lib.hid (rowB r60.out q2 (Array.getElem?_eq_some_iff.1 r60.out).1)); (try replace rv := Lib.hid (rowB rv.out q2 (Array.getElem?_eq_some_iff.1 rv.out).1)); (try replace hG := Lib.hid (hG.out.mono q2)); (try replace xZ := Lib.hid (xZ.out.mono q2)); (try replace xS := Lib.hid (xS.out.mono q2)); replace hS0 := Lib.hid (hS0.out.trans (Below.mono q2 hS0.out.size)); clear q2)
      | (refine storeNew _ rfl 27 _ _ rfl (c64s [2, 0, 2, 1, 1, 0, 0, 0, 0, 0]) 27 rfl rfl info_cnt rfl (c64s_one _) ?_; intro wx hrx hbx; (try replace r60 := Lib.hid (rowB r60.out hbx (Array.getElem?_eq_some_iff.1 r60.out).1)); (try replace rv := Lib.hid (rowB rv.out hbx (Array.getElem?_eq_some_iff.1 rv.out).1)); (try replace hG := Lib.hid (hG.out.mono hbx)); (try replace xZ := Lib.hid (xZ.out.mono hbx)); (try replace xS := Lib.hid (xS.out.mono hbx)); replace hS0 := Lib.hid (hS0.out.trans (Below.mono hbx hS0.out.size)); have rC := Lib.hid hrx; clear hrx hbx))
    clear xS
    go_upto_region 8 with (first
      | (go_at_call 9; (with_reducible refine (f7.out _ hG.out).mono ?_); rintro e9 w4 ⟨za, zc, rfl, q1, q2⟩; (try replace r60 := Lib.hid (rowB r60.out q2 (Array.getElem?_eq_some_iff.1 r60.out).1)); (try replace rv := Lib.hid (rowB rv.out q2 (Array.getElem?_eq_some_iff.1 rv.out).1)); (try replace rC := Lib.hid (rowB rC.out q2 (Array.getElem?_eq_some_iff.1 rC.out).1)); (try replace hG := Lib.hid (hG.out.mono q2)); (try replace xZ := Lib.hid (xZ.out.mono q2)); replace hS0 := Lib.hid (hS0.out.trans (Below.mono q2 hS0.out.size)); have xO := Lib.hid q1; clear q1; clear q2)
      | (refine wpList_store_row rfl 41 _ _ rfl w4.heap.size (zO.c (.slice za 0 zc)) rfl rfl 41 _ (rowA w4 _ _) info_op rfl (op_one zO za 0 zc) ?_)
      | (refine storeOver _ (w4.heap.size + 1) _ rfl 43 _ _ rfl (u8s (zerosB 32)) 43 ((setRow_other _ w4.heap.size (w4.heap.size + 1) _ (by omega)).trans (hn2 w4 _ _)) rfl rfl di.out (ds.out _ (by kernel_rfl)) (u8s_one _) ?_; intro wx hrx hbx0; have hbx := Lib.hid (show Below w4.heap.size w4 wx from (below_setRow' ((below_a w4 _).alloc (by simp) _) (Nat.le_refl _) _).trans (hbx0.mono (Nat.le_succ _))); (try replace r60 := Lib.hid (rowB r60.out hbx.out (Array.getElem?_eq_some_iff.1 r60.out).1)); (try replace rv := Lib.hid (rowB rv.out hbx.out (Array.getElem?_eq_some_iff.1 rv.out).1)); (try replace rC := Lib.hid (rowB rC.out hbx.out (Array.getElem?_eq_some_iff.1 rC.out).1)); (try replace hG := Lib.hid (hG.out.mono hbx.out)); (try replace xZ := Lib.hid (xZ.out.mono hbx.out)); (try replace xO := Lib.hid (xO.out.mono hbx.out)); replace hS0 := Lib.hid (hS0.out.trans (Below.mono hbx.out hS0.out.size)); have rO := Lib.hid ((hbx0.block w4.heap.size (Nat.lt_succ_self _)).trans (setRow_heap _ _ _ (zO.c (.slice za 0 zc)) _ _ (rowA w4 _ _))); have rI := Lib.hid hrx; clear hrx hbx0 hbx))
    go_upto_region 9 with (go_at_call 6; (with_reducible refine (f8.out _ hG.out).mono ?_); rintro e9 w4 ⟨gn, rfl, q2⟩; (try replace r60 := Lib.hid (rowB r60.out q2 (Array.getElem?_eq_some_iff.1 r60.out).1)); (try replace rv := Lib.hid (rowB rv.out q2 (Array.getElem?_eq_some_iff.1 rv.out).1)); (try replace rC := Lib.hid (rowB rC.out q2 (Array.getElem?_eq_some_iff.1 rC.out).1)); (try replace rO := Lib.hid (rowB rO.out q2 (Array.getElem?_eq_some_iff.1 rO.out).1)); (try replace rI := Lib.hid (rowB rI.out q2 (Array.getElem?_eq_some_iff.1 rI.out).1)); (try replace hG := Lib.hid (hG.out.mono q2)); (try replace xZ := Lib.hid (xZ.out.mono q2)); (try replace xO := Lib.hid (xO.out.mono q2)); replace hS0 := Lib.hid (hS0.out.trans (Below.mono q2 hS0.out.size)); clear q2)
    go_wp2_with (first
      | (go_at_call 8; (with_reducible refine (s5.out _ hG.out).mono ?_); rintro e9 w4 ⟨sv, rfl, q1, q2⟩; have xB := Lib.hid q1; have hq := Lib.hid q2; have hsz := Lib.hid q2.size; have xZ4 := Lib.hid (xZ.out.mono q2); clear q1 q2)
      | (refine appendZ rfl _ _ 22 3 rfl _ 5 Tryz.underlying22 Tryz.underlying3 (by kernel_rfl) _ rfl B5 xB.out 400 rfl (by decide) (by decide) (by have := hn5'.out; have := b52'.out; omega) _ _ xZ4.out hsz.out ?_))
    intro v7 w7 k1 k2
    have hbZ := Lib.hid (hq.out.trans (xB.out.below k2 hsz.out))
    have xL := Lib.hid k1.rd
    clear k1 k2 xB hq xZ4 xZ
    (try replace r60 := Lib.hid (rowB r60.out hbZ.out (Array.getElem?_eq_some_iff.1 r60.out).1))
    (try replace rv := Lib.hid (rowB rv.out hbZ.out (Array.getElem?_eq_some_iff.1 rv.out).1))
    (try replace rC := Lib.hid (rowB rC.out hbZ.out (Array.getElem?_eq_some_iff.1 rC.out).1))
    (try replace rO := Lib.hid (rowB rO.out hbZ.out (Array.getElem?_eq_some_iff.1 rO.out).1))
    (try replace rI := Lib.hid (rowB rI.out hbZ.out (Array.getElem?_eq_some_iff.1 rI.out).1))
    (try replace hG := Lib.hid (hG.out.mono hbZ.out))
    (try replace xO := Lib.hid (xO.out.mono hbZ.out))
    replace hS0 := Lib.hid (hS0.out.trans (Below.mono hbZ.out hS0.out.size))
    clear hbZ hsz
    refine Stop.go ?_
    go_upto_region 10 with fail
    go_step
    simp only [List.append]
    go_wp2_with (first
      | (refine loadR 27 _ rfl _ rfl rfl 27 (c64s [0, 0, 60, 0, 0, 0, 0, 0, 0, 0]) (0, 0) _ r60.out Tryz.underlying27 rfl info_cnt ?_)
      | (refine loadR 27 _ rfl _ rfl rfl 27 (c64s [2, 0, 2, 1, 1, 0, 0, 0, 0, 0]) (0, 0) _ rC.out Tryz.underlying27 rfl info_cnt ?_)
      | (refine eqlR 27 _ _ rfl (c64s [0, 0, 60, 0, 0, 0, 0, 0, 0, 0]) (c64s [0, 0, 60, 0, 0, 0, 0, 0, 0, 0]) rfl rfl rfl cntGuard true (heq1.out _) ?_)
      | (refine eqlR 27 _ _ rfl (c64s [2, 0, 2, 1, 1, 0, 0, 0, 0, 0]) (c64s [2, 0, 2, 1, 1, 0, 0, 0, 0, 0]) rfl rfl rfl cntGuard true (heq2.out _) ?_)
      | (go_at_call 10; (with_reducible refine (f9.out _ _ rv.out).mono ?_); rintro e9 w4 ⟨rfl, q2⟩; (try replace r60 := Lib.hid (rowB r60.out q2 (Array.getElem?_eq_some_iff.1 r60.out).1)); (try replace rv := Lib.hid (rowB rv.out q2 (Array.getElem?_eq_some_iff.1 rv.out).1)); (try replace rC := Lib.hid (rowB rC.out q2 (Array.getElem?_eq_some_iff.1 rC.out).1)); (try replace rO := Lib.hid (rowB rO.out q2 (Array.getElem?_eq_some_iff.1 rO.out).1)); (try replace rI := Lib.hid (rowB rI.out q2 (Array.getElem?_eq_some_iff.1 rI.out).1)); (try replace hG := Lib.hid (hG.out.mono q2)); (try replace xO := Lib.hid (xO.out.mono q2)); (try replace xL := Lib.hid (xL.out.mono q2)); replace hS0 := Lib.hid (hS0.out.trans (Below.mono q2 hS0.out.size)); clear q2)
      | (refine loadR 41 _ rfl _ rfl rfl 41 (zO.c (.slice za 0 zc)) (0, 0) _ rO.out Tryz.underlying41 rfl info_op ?_)
      | (go_at_call 11; (with_reducible refine (f10.out _ _ xO.out).mono ?_); rintro e9 w4 ⟨rfl, q2⟩; (try replace r60 := Lib.hid (rowB r60.out q2 (Array.getElem?_eq_some_iff.1 r60.out).1)); (try replace rv := Lib.hid (rowB rv.out q2 (Array.getElem?_eq_some_iff.1 rv.out).1)); (try replace rC := Lib.hid (rowB rC.out q2 (Array.getElem?_eq_some_iff.1 rC.out).1)); (try replace rO := Lib.hid (rowB rO.out q2 (Array.getElem?_eq_some_iff.1 rO.out).1)); (try replace rI := Lib.hid (rowB rI.out q2 (Array.getElem?_eq_some_iff.1 rI.out).1)); (try replace hG := Lib.hid (hG.out.mono q2)); (try replace xO := Lib.hid (xO.out.mono q2)); (try replace xL := Lib.hid (xL.out.mono q2)); replace hS0 := Lib.hid (hS0.out.trans (Below.mono q2 hS0.out.size)); clear q2)
      | (refine loadR 43 _ rfl _ rfl rfl 43 (u8s (zerosB 32)) (0, 0) _ rI.out Tryz.underlying43 rfl di.out ?_)
      | (refine eqlR 43 _ _ rfl (u8s (zerosB 32)) (u8s (zerosB 32)) rfl rfl rfl id_guardT true (heq3.out _) ?_)
      | (go_at_call 12; (with_reducible refine (f11.out _ _ xL.out hG.out).mono ?_); rintro e9 w4 ⟨rfl, q2⟩; (try replace r60 := Lib.hid (rowB r60.out q2 (Array.getElem?_eq_some_iff.1 r60.out).1)); (try replace rv := Lib.hid (rowB rv.out q2 (Array.getElem?_eq_some_iff.1 rv.out).1)); (try replace rC := Lib.hid (rowB rC.out q2 (Array.getElem?_eq_some_iff.1 rC.out).1)); (try replace rO := Lib.hid (rowB rO.out q2 (Array.getElem?_eq_some_iff.1 rO.out).1)); (try replace rI := Lib.hid (rowB rI.out q2 (Array.getElem?_eq_some_iff.1 rI.out).1)); (try replace hG := Lib.hid (hG.out.mono q2)); (try replace xO := Lib.hid (xO.out.mono q2)); (try replace xL := Lib.hid (xL.out.mono q2)); replace hS0 := Lib.hid (hS0.out.trans (Below.mono q2 hS0.out.size)); clear q2)
      | (go_at_call 13; (with_reducible refine (f12.out _ hG.out).mono ?_); rintro e9 w4 ⟨rfl, q2⟩; (try replace r60 := Lib.hid (rowB r60.out q2 (Array.getElem?_eq_some_iff.1 r60.out).1)); (try replace rv := Lib.hid (rowB rv.out q2 (Array.getElem?_eq_some_iff.1 rv.out).1)); (try replace rC := Lib.hid (rowB rC.out q2 (Array.getElem?_eq_some_iff.1 rC.out).1)); (try replace rO := Lib.hid (rowB rO.out q2 (Array.getElem?_eq_some_iff.1 rO.out).1)); (try replace rI := Lib.hid (rowB rI.out q2 (Array.getElem?_eq_some_iff.1 rI.out).1)); (try replace hG := Lib.hid (hG.out.mono q2)); (try replace xO := Lib.hid (xO.out.mono q2)); (try replace xL := Lib.hid (xL.out.mono q2)); replace hS0 := Lib.hid (hS0.out.trans (Below.mono q2 hS0.out.size)); clear q2))
    go_ret
    exact ⟨rfl, hS0.out⟩
end Go.Proofs.YtfaojjleapenaabGreatDoor.wir.val.top
namespace Go.Proofs.YtfaojjleapenaabGreatDoor
open Go.ChangeShapes Go.WideShapes Go.ChangeAt Go.WideMaps Go.WideElems Go.RowKit Go.YtfaojjleapenaabGreatDoor
set_option linter.unusedVariables false
theorem own : ownKnob Tryz.prog.godebug = none := by kernel_rfl
theorem laidOut : laidOutB Tryz.prog = true := by kernel_rfl
theorem gFirst : Tryz.prog.globalNamed "braid/digest.firstWords" = some 0 := by kernel_rfl
theorem gConst : Tryz.prog.globalNamed "braid/digest.constants" = some 1 := by kernel_rfl
theorem tFirst : (Tryz.prog.globals[0]?).map (·.type) = some 97 := by kernel_rfl
theorem tConst : (Tryz.prog.globals[1]?).map (·.type) = some 160 := by kernel_rfl
def laidL : List (String × DataW Unit) := [("braid/digest.firstWords", Rows.laid_braid_digest_firstWords), ("braid/digest.constants", Rows.laid_braid_digest_constants)]
section
variable {H : Type} {enc : TypeId × Value → H} {P : Program} {w : World} {base : Nat} {sp : Nat → Bool} {held : Bool}
def theInt : Value → Int
  | .int _ k => k
  | _ => 0
theorem trod_ints {fuel : Nat} {t e : TypeId} {n : Nat} {kd : IntKind} {cs : List Value} {x : DataW H × List MemPlace} (ht : P.underlying t = some (.array n e)) (he : P.underlying e = some (.int kd)) (hc : P.cellsOf e = 1) (hct : P.cellsOf t = n)
    (h : DataW.trod enc P w base sp held fuel t cs = some x) : ∃ ks : List Int, cs = ks.map (Value.int kd) ∧ ks.length = n ∧ (∀ k ∈ ks, (Lit.int kd k).wf = true) ∧ x.1 = .agg (ks.map fun k => .lit (.int kd k)) := by
  obtain ⟨xs, m, rfl, rfl, hl, hn, hel⟩ := DataW.trod_array ht h
  have hlen : cs.length = n := hl.trans hct
  have key : ∀ i, i < n → ∃ k, cs[i]? = some (.int kd k) ∧ (Lit.int kd k).wf = true ∧ xs[i]? = some (.lit (.int kd k), []) := by
    intro i hi
    have hx : xs[i]? = some xs[i] := List.getElem?_eq_getElem (by omega)
    have h1 := hel i hi
    rw [hc, Nat.mul_one, hx] at h1
    obtain ⟨k, e1, e2, e3⟩ := DataW.trod_int he h1
    refine ⟨k, ?_, e3, by rw [hx, e2]⟩
    have e4 : ((cs.drop i).take 1)[0]? = some (.int kd k) := by rw [e1]; rfl
    simpa [List.getElem?_take, List.getElem?_drop] using e4
  refine ⟨cs.map theInt, ?_, by simp [hlen], ?_, ?_⟩
  · apply List.ext_getElem?
    intro i
    by_cases hi : i < n
    · obtain ⟨k, e1, _, _⟩ := key i hi
      simp [e1, theInt]
    · rw [List.getElem?_eq_none (by omega), List.getElem?_eq_none (by simp; omega)]
  · intro k hk
    obtain ⟨i, hi, rfl⟩ := List.getElem_of_mem hk
    have hi' : i < n := by simpa [hlen] using hi
    obtain ⟨k, e1, e2, _⟩ := key i hi'
    have : (cs.map theInt)[i]? = some k := by simp [e1, theInt]
    rw [List.getElem?_eq_getElem hi] at this
    rw [Option.some.inj this]; exact e2
  · show DataW.agg _ = DataW.agg _
    congr 1
    apply List.ext_getElem?
    intro i
    by_cases hi : i < n
    · obtain ⟨k, e1, _, e3⟩ := key i hi
      simp [e1, e3, theInt]
    · rw [List.getElem?_eq_none (by simp; omega), List.getElem?_eq_none (by simp; omega)]
theorem trodAll_stays (hl : laidOutB P = true) {W W' : World} {sp' : Nat → Bool} : ∀ {ts : List TypeId} {vs : List Value} {ds : List (DataW H)} {ps : List MemPlace}, (∀ t ∈ ts, P.readableRec t = true ∧ t < P.types.size) →
    DataW.TrodAll enc P W base (fun _ => true) true ts vs ds ps → (∀ p ∈ ps, W.sameAt W' p) → (∀ p ∈ ps, sp' p.block = true) → DataW.TrodAll enc P W' base sp' true ts vs ds ps
  | [], [], [], _, _, h, _, _ => h
  | [], [], _ :: _, _, _, h, _, _ => h.elim
  | [], _ :: _, _, _, _, h, _, _ => by cases ‹List (DataW H)› <;> exact h.elim
  | _ :: _, [], _, _, _, h, _, _ => by cases ‹List (DataW H)› <;> exact h.elim
  | _ :: _, _ :: _, [], _, _, h, _, _ => h.elim
  | t :: ts, v :: vs, d :: ds, ps, ht, h, hs, hp => by
    obtain ⟨p, q, h1, h2, rfl⟩ := h
    obtain ⟨r1, r2⟩ := ht t List.mem_cons_self
    exact ⟨p, q, Trod_stays hl r1 r2 h1 (fun x hx => hs x (List.mem_append_left _ hx)) (fun x hx => hp x (List.mem_append_left _ hx)),
      trodAll_stays hl (fun u hu => ht u (List.mem_cons_of_mem _ hu)) h2 (fun x hx => hs x (List.mem_append_right _ hx)) (fun x hx => hp x (List.mem_append_right _ hx)), rfl⟩
/-- A law's end: true, in a world whose old memory is as' it was. -/
theorem law_post {f : Func} {s : ChangeSpec} {apart fresh handsOn : Bool} {W W' : World} {args : Array Value} {v : Value} {ds gs : List (DataW H)} {before : List MemPlace} (hl : laidOutB P = true)
    (hts : ∀ t ∈ f.params.toList, P.readableRec t = true ∧ t < P.types.size) (hvs : varsRowed P s.vars = true)
    (hW : DataW.Whole enc P f.params.toList s.vars apart W args.toList ds gs before) (hb : Below W.heap.size W W')
    (hres : ∀ (b : Nat) (sp : Nat → Bool) (hd : Bool), DataW.TrodAll enc P W' b sp hd f.resultTypes.toList (v.resultList f.resultTypes.size) (s.fn H (ds ++ gs)).results [])
    (hargs : (s.fn H (ds ++ gs)).args = ds) (hvars : (s.fn H (ds ++ gs)).vars = gs) :
    s.post enc P f apart fresh handsOn false W args v W' := by
  have hW2 := hW
  have hlt : ∀ p ∈ before, p.block < W.heap.size := fun p hp => hW.lt p hp
  obtain ⟨p, q, hA, hV, rfl, hfz, hnd⟩ := hW
  refine ⟨ds, gs, p ++ q, [], p, q, hW2, hres _ _ _, ?_, ?_, hb.frame _, fun h => by cases h⟩
  · rw [hargs]
    exact trodAll_stays hl hts hA (fun x hx => hb.same (hlt x (List.mem_append_left _ hx))) (fun x hx => by simpa using hlt x (List.mem_append_left _ hx))
  · rw [hvars]
    exact Below.trodVars hl hb hvs hV
end
theorem u32s_of {cs : Array Value} {ks : List Int} (h : cs.toList = ks.map (Value.int .u32)) : cs = u32s ks := by
  apply Array.toList_inj.1
  rw [h]; simp [u32s]
theorem lits_inj : ∀ {a b : List Int}, (a.map fun k => (DataW.lit (.int .u32 k) : DataW Unit)) = b.map (fun k => .lit (.int .u32 k)) → a = b
  | [], [], _ => rfl
  | [], _ :: _, h => by simp at h
  | _ :: _, [], h => by simp at h
  | a :: xs, b :: ys, h => by
    simp only [List.map_cons, List.cons.injEq, DataW.lit.injEq, Lit.int.injEq, true_and] at h
    rw [h.1, lits_inj h.2]
/-- What the condition on the listed variables gives the walks. -/
theorem of_laid {W : World} (h : laidMetH Tryz.prog laidL W) : ∃ Tg Tf : TypeId, W.heap[1]? = some (.cells (u32s constW) Tg (0, 0)) ∧ W.heap[0]? = some (.cells firstW.cells Tf (0, 0)) := by
  rw [MakeChecks.laidMetH_plain _ _ _ (by kernel_rfl)] at h
  obtain ⟨ps, ⟨g0, t0, cs0, f0, p0, q0, hg0, ht0, hv0, hd0, ⟨g1, t1, cs1, f1, p1, q1, hg1, ht1, hv1, hd1, _, eq1⟩, eq0⟩, _, hm⟩ := h
  obtain rfl := Option.some.inj (gFirst.symm.trans hg0)
  obtain rfl := Option.some.inj (gConst.symm.trans hg1)
  obtain rfl := Option.some.inj (tFirst.symm.trans ht0)
  obtain rfl := Option.some.inj (tConst.symm.trans ht1)
  obtain ⟨k0, a0, l0, _, x0⟩ := trod_ints Tryz.underlying97 Tryz.underlying31 (by kernel_rfl) (by kernel_rfl) hd0
  obtain ⟨k1, a1, l1, _, x1⟩ := trod_ints Tryz.underlying160 Tryz.underlying31 (by kernel_rfl) (by kernel_rfl) hd1
  have c0 := u32s_of a0
  have c1 := u32s_of a1
  have d0 : k0 = firstW.list := lits_inj (DataW.agg.inj (x0.symm.trans rfl))
  have d1 : k1 = constW := lits_inj (DataW.agg.inj (x1.symm.trans rfl))
  have z0 : cs0.size = 8 := by rw [c0]; simpa [u32s] using l0
  have z1 : cs1.size = 64 := by rw [c1]; simpa [u32s] using l1
  have m0 := (hm 0 0 (by rw [eq0]; exact List.mem_append_left _ (List.mem_append_left _ (MemPlace.mem_row.2 ⟨0, by omega, rfl⟩)))).1
  have m1 := (hm 1 0 (by rw [eq0, eq1]; exact List.mem_append_right _ (List.mem_append_left _ (List.mem_append_left _ (MemPlace.mem_row.2 ⟨0, by omega, rfl⟩))))).1
  obtain ⟨e0, T0, m0⟩ := m0
  obtain ⟨e1, T1, m1⟩ := m1
  unfold World.var? at hv0 hv1
  rw [gFirst] at hv0
  rw [gConst] at hv1
  simp only [Option.bind_some, m0, m1, Option.some.injEq] at hv0 hv1
  refine ⟨T1, T0, ?_, ?_⟩
  · rw [m1, hv1, c1, d1]
  · rw [m0, hv0, c0, d0]; rfl
/-- The door's own heap meets the condition. -/
theorem door_met (os : Os) (args : Array Value) : laidMetH Tryz.prog laidL ((World.doorLaid Tryz.prog 400 os).forCall (fun _ _ => 0) ⟨#[], args, []⟩).memory :=
  laidMetH_of_parts3 (fuel := 8) (laidMet_of_run' 8 (by kernel_rfl) (by kernel_rfl)) (by kernel_rfl) (by kernel_rfl)
end Go.Proofs.YtfaojjleapenaabGreatDoor
namespace Go.Proofs.YtfaojjleapenaabGreatDoor
open Go.ChangeShapes Go.WideShapes Go.ChangeAt Go.WideMaps Go.WideElems Go.RowKit Go.YtfaojjleapenaabGreatDoor
set_option linter.unusedVariables false
section
variable {H : Type} {enc : TypeId × Value → H} {P : Program} {W : World}
end
end Go.Proofs.YtfaojjleapenaabGreatDoor

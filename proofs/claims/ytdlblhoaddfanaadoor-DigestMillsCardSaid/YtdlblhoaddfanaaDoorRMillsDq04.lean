/- Texts that the row stands on, part 4. -/
import Derived.Test.YtdlblhoaddfanaaDoorRMillsDq03
import Derived.Deep.CutBlock
namespace Go.Proofs.YtdlblhoaddfanaaDoor
open Go.RowKit Go.YtdlblhoaddfanaaDoor
set_option linter.unusedVariables false
theorem below_aD (w : World) (o : Obj) : Below w.heap.size w (w.alloc o) := (Below.refl _ _).alloc (Nat.le_refl _) _
theorem rowD {w w' : World} {g : Nat} {o : Obj} (h : w.heap[g]? = some o) (hb : Below w.heap.size w w') : w'.heap[g]? = some o := (hb.block g (Array.getElem?_eq_some_iff.1 h).1).trans h
theorem own_lit0 {w : World} {g B : Nat} (hg : w.heap[g]? = some (.cells #[] 5 (0, 0))) (hB : B ≤ g) : OwnB B 5 w (.slice (some ⟨g, 0, none⟩) 0 0) [] :=
  ⟨rfl, .inr ⟨g, 0, _, rfl, hB, hg, Nat.le_refl _, by decide, rfl, rfl⟩⟩
end Go.Proofs.YtdlblhoaddfanaaDoor
namespace Go
namespace YtdlblhoaddfanaaDoor
set_option linter.unusedVariables false
section
variable {P : Program} {ops : Array Oper} {md : Region.Mode} {Q : Exit → Act → World → Prop}
/-- What an operation that ends well leaves: a value and a world, of which R is true. -/
def fxUpon (P : Program) (R : Value → World → Prop) : Result Next → Prop
  | .ok (.value v) w' => R v w'
  | .ok .skip w' => R undef w'
  | .ok (.enter f args) w' => Calls P f args w' fun e w'' => ∃ v, e = .returned v ∧ R v w''
  | _ => False
def FxStep (P : Program) (ops : Array Oper) (o : Oper) (a : Act) (w : World) (R : Value → World → Prop) : Prop :=
  if Region.wanted o (yielded ops a.tmps) = true then fxUpon P R ((execOp a.eval o).run P w) else R undef w
theorem fx_wpOp {i : Nat} {o : Oper} {a : Act} {w : World} {R : Value → World → Prop} {K : Act → World → Prop} (hi : ops[i]? = some o) (h : FxStep P ops o a w R) (hK : ∀ v w', R v w' → K (a.put o.dst v) w') : wpOp P ops Q i K a w := by
  unfold wpOp
  simp only [hi]
  unfold FxStep at h
  split
  · rename_i hw
    rw [if_pos hw] at h
    refine .inl ?_
    unfold Oper.wp
    generalize (execOp a.eval o).run P w = r at h
    cases r with
    | halt x w' => cases x <;> exact h.elim
    | ok nx w' =>
      cases nx with
      | value v => exact hK v w' h
      | skip => exact hK undef w' h
      | defer d => exact h.elim
      | row r a => exact h.elim
      | enter f args =>
        refine Calls.mono h fun e w'' he => ?_
        obtain ⟨v, rfl, hR⟩ := he
        exact hK v w'' hR
      | _ => exact h.elim
  · rename_i hw
    rw [if_neg hw] at h
    exact hK undef w h
/-- The frame: those of the first k operations that L names have put their values. -/
def fxF (ops : Array Oper) (vs : Nat → Value) (L : Nat → Bool) (a0 : Act) : Nat → Act
  | 0 => a0
  | k + 1 => if L k = true then (fxF ops vs L a0 k).put ((ops[k]?).bind (·.dst)) (vs k) else fxF ops vs L a0 k
abbrev fxT : Nat → Bool := fun _ => true
theorem put_tmps_ne (a : Act) (x : Option Tmp) (v : Value) (t : Tmp) (h : x ≠ some t) : (a.put x v).tmps[t]? = a.tmps[t]? := by
  cases x with
  | none => rfl
  | some d =>
    have hne : d ≠ t := fun e => h (by rw [e])
    simp [Act.put, Array.getElem?_setIfInBounds_ne hne]
theorem put_tmps_congr (a b : Act) (x : Option Tmp) (v : Value) (t : Tmp) (h : a.tmps[t]? = b.tmps[t]?) : (a.put x v).tmps[t]? = (b.put x v).tmps[t]? := by
  cases x with
  | none => exact h
  | some d =>
    by_cases e : d = t
    · subst e
      simp only [Act.put, Array.getElem?_setIfInBounds, if_true]
      have h1 : d < a.tmps.size ↔ d < b.tmps.size := by
        constructor
        · intro hl
          rw [Array.getElem?_eq_getElem hl] at h
          exact (Array.getElem?_eq_some_iff.1 h.symm).1
        · intro hl
          rw [Array.getElem?_eq_getElem hl] at h
          exact (Array.getElem?_eq_some_iff.1 h).1
      by_cases hl : d < a.tmps.size
      · rw [if_pos hl, if_pos (h1.1 hl)]
      · rw [if_neg hl, if_neg (fun h2 => hl (h1.2 h2))]
    · simp only [Act.put, Array.getElem?_setIfInBounds_ne e]; exact h
theorem eval_tmps (a b : Act) (x : Operand) (h : ∀ t, x = .tmp t → a.tmps[t]? = b.tmps[t]?) : a.eval x = b.eval x := by
  cases x with
  | tmp t => simp only [Act.eval, Array.getD_eq_getD_getElem?, h t rfl]
  | _ => rfl
/-- A slot that the operation i looks at: it has what the lexical order gives. -/
theorem fxF_look (vs : Nat → Value) (L : Nat → Bool) (a0 : Act) (n i : Nat) (hi : i ≤ n) (t : Tmp) (hl : ∀ j, j < n → (ops[j]?).bind (·.dst) = some t → (j < i → L j = true) ∧ (i ≤ j → L j = false)) :
    (fxF ops vs L a0 n).tmps[t]? = (fxF ops vs fxT a0 i).tmps[t]? := by
  have h1 : ∀ k, k ≤ i → (fxF ops vs L a0 k).tmps[t]? = (fxF ops vs fxT a0 k).tmps[t]? := by
    intro k
    induction k with
    | zero => intro _; rfl
    | succ k ih =>
      intro hk
      have ih := ih (by omega)
      simp only [fxF, fxT, if_true]
      by_cases hd : (ops[k]?).bind (·.dst) = some t
      · rw [if_pos ((hl k (by omega) hd).1 (by omega))]
        exact put_tmps_congr _ _ _ _ _ ih
      · rw [put_tmps_ne _ _ _ _ hd]
        split
        · rw [put_tmps_ne _ _ _ _ hd]; exact ih
        · exact ih
  have h2 : ∀ d, i + d ≤ n → (fxF ops vs L a0 (i + d)).tmps[t]? = (fxF ops vs L a0 i).tmps[t]? := by
    intro d
    induction d with
    | zero => intro _; rfl
    | succ d ih =>
      intro hk
      rw [← ih (by omega)]
      show (fxF ops vs L a0 (i + d + 1)).tmps[t]? = _
      simp only [fxF]
      split
      · rename_i hL
        refine put_tmps_ne _ _ _ _ fun hd => ?_
        rw [(hl (i + d) (by omega) hd).2 (by omega)] at hL; cases hL
      · rfl
  have := h2 (n - i) (by omega)
  rw [show i + (n - i) = n by omega] at this
  rw [this, h1 i (Nat.le_refl _)]
theorem fxF_agree (vs vs' : Nat → Value) (L L' : Nat → Bool) (a0 : Act) (k : Nat) (h : ∀ j, j < k → L j = L' j ∧ (L j = true → vs j = vs' j)) : fxF ops vs L a0 k = fxF ops vs' L' a0 k := by
  induction k with
  | zero => rfl
  | succ k ih =>
    have h1 := h k (Nat.lt_succ_self _)
    simp only [fxF]
    rw [ih fun j hj => h j (by omega), ← h1.1]
    split
    · rename_i hL; rw [h1.2 hL]
    · rfl
theorem fxF_put (vs : Nat → Value) (L : Nat → Bool) (a0 : Act) (n i : Nat) (v : Value) (hin : i < n) (hL : L i = false) (hd : ∀ k, i < k → k < n → L k = true → ∀ d, (ops[i]?).bind (·.dst) = some d → (ops[k]?).bind (·.dst) ≠ some d) :
    (fxF ops vs L a0 n).put ((ops[i]?).bind (·.dst)) v = fxF ops (fun j => if j = i then v else vs j) (fun j => if j = i then true else L j) a0 n := by
  have key : ∀ d, i + 1 + d ≤ n → (fxF ops vs L a0 (i + 1 + d)).put ((ops[i]?).bind (·.dst)) v = fxF ops (fun j => if j = i then v else vs j) (fun j => if j = i then true else L j) a0 (i + 1 + d) := by
    intro d
    induction d with
    | zero =>
      intro _
      simp only [fxF, Nat.add_zero, if_true, hL]
      rw [if_neg (by decide)]
      congr 1
      exact fxF_agree _ _ _ _ _ _ fun j hj => by
        have hne : j ≠ i := by omega
        simp [hne]
    | succ d ih =>
      intro hk
      have ih := ih (by omega)
      have hne : i + 1 + d ≠ i := by omega
      show (fxF ops vs L a0 (i + 1 + d + 1)).put _ v = fxF ops _ _ a0 (i + 1 + d + 1)
      simp only [fxF, if_neg hne]
      by_cases hLk : L (i + 1 + d) = true
      · rw [if_pos hLk, if_pos hLk, ← ih]
        exact (Act.put_comm _ _ _ fun d' hd' hd2 => hd (i + 1 + d) (by omega) (by omega) hLk d' hd2 hd').trans rfl
      · rw [if_neg hLk, if_neg hLk]; exact ih
  have := key (n - (i + 1)) (by omega)
  rwa [show i + 1 + (n - (i + 1)) = n by omega] at this
/-- The waiting of the operations, and the frames, as' they are to be; A names for each operation all that must come before it. -/
def fxB (ops : Array Oper) (n : Nat) (A : List (List Nat)) : Bool :=
  Region.noSelect ops && decide (n ≤ ops.size) &&
  ((List.range ops.size).all fun i => match ops[i]? with
    | none => true
    | some o => (o.after.all fun e => !Region.binds .any e || decide (e.on < i)) && ((A.getD i []).all fun j => decide (j < i) && o.after.any fun e => Region.binds .any e && (e.on == j || (A.getD e.on []).contains j))) &&
  ((List.range ops.size).all fun i => decide (i < n) || (List.range n).all fun j => (A.getD i []).contains j) &&
  ((List.range n).all fun i => match ops[i]? with
    | none => true
    | some o => (List.range n).all fun j => match (ops[j]?).bind (·.dst) with
      | none => true
      | some d => (!(o.looksAt ops).contains d || (decide (j < i) && (A.getD i []).contains j) || (decide (i < j) && (A.getD j []).contains i) || decide (j = i)) &&
        (!(o.dst == some d) || decide (j ≤ i) || (A.getD j []).contains i)) &&
  Region.seqB .any ops (ops.size - n) n ((Array.replicate n true) ++ (Array.replicate (ops.size - n) false))
structure FxOk (ops : Array Oper) (n : Nat) (A : List (List Nat)) : Prop where
  sel : Region.noSelect ops = true
  le : n ≤ ops.size
  aft : ∀ i o, ops[i]? = some o → ∀ e ∈ o.after, Region.binds .any e = true → e.on < i
  anc : ∀ i o, ops[i]? = some o → ∀ j ∈ A.getD i [], j < i ∧ ∃ e ∈ o.after, Region.binds .any e = true ∧ (e.on = j ∨ j ∈ A.getD e.on [])
  tail : ∀ i, n ≤ i → i < ops.size → ∀ j, j < n → j ∈ A.getD i []
  look : ∀ i o j d, i < n → j < n → ops[i]? = some o → (ops[j]?).bind (·.dst) = some d → d ∈ o.looksAt ops → (j < i ∧ j ∈ A.getD i []) ∨ (i < j ∧ i ∈ A.getD j []) ∨ j = i
  dst : ∀ i o j d, i < n → j < n → ops[i]? = some o → (ops[j]?).bind (·.dst) = some d → o.dst = some d → i < j → i ∈ A.getD j []
  seq : Region.seqB .any ops (ops.size - n) n ((Array.replicate n true) ++ (Array.replicate (ops.size - n) false)) = true
theorem fxB_ok {n : Nat} {A : List (List Nat)} (h : fxB ops n A = true) : FxOk ops n A := by
  unfold fxB at h
  simp only [Bool.and_eq_true, decide_eq_true_eq] at h
  obtain ⟨⟨⟨⟨⟨h1, h2⟩, h3⟩, h4⟩, h5⟩, h6⟩ := h
  refine ⟨h1, h2, fun i o ho e he hb => ?_, fun i o ho j hj => ?_, fun i hi hs j hj => ?_, fun i o j d hi hj ho hd hl => ?_, fun i o j d hi hj ho hd hl hij => ?_, h6⟩
  · have hi := (Array.getElem?_eq_some_iff.1 ho).1
    have k := List.all_eq_true.1 h3 i (List.mem_range.2 hi)
    simp only [ho, Bool.and_eq_true] at k
    have k1 := Array.all_eq_true'.1 k.1 e he
    simpa [hb] using k1
  · have hi := (Array.getElem?_eq_some_iff.1 ho).1
    have k := List.all_eq_true.1 h3 i (List.mem_range.2 hi)
    simp only [ho, Bool.and_eq_true] at k
    have k1 := List.all_eq_true.1 k.2 j hj
    simp only [Bool.and_eq_true, decide_eq_true_eq] at k1
    refine ⟨k1.1, ?_⟩
    obtain ⟨e, he, hb⟩ := Array.any_eq_true'.1 k1.2
    simp only [Bool.and_eq_true, Bool.or_eq_true, beq_iff_eq, List.contains_iff_mem] at hb
    exact ⟨e, he, hb.1, hb.2⟩
  · have k := List.all_eq_true.1 h4 i (List.mem_range.2 hs)
    rw [Bool.or_eq_true, decide_eq_true_eq] at k
    rcases k with k | k
    · omega
    · have := List.all_eq_true.1 k j (List.mem_range.2 hj)
      simpa using this
  · have k := List.all_eq_true.1 h5 i (List.mem_range.2 hi)
    simp only [ho] at k
    have k1 := List.all_eq_true.1 k j (List.mem_range.2 hj)
    simp only [hd, Bool.and_eq_true] at k1
    have k2 := k1.1
    simp only [Bool.or_eq_true, Bool.and_eq_true, decide_eq_true_eq, List.contains_iff_mem, Bool.not_eq_true'] at k2
    rcases k2 with ((k2 | k2) | k2) | k2
    · have : (o.looksAt ops).contains d = true := by simpa using hl
      rw [this] at k2; cases k2
    · exact .inl k2
    · exact .inr (.inl k2)
    · exact .inr (.inr k2)
  · have k := List.all_eq_true.1 h5 i (List.mem_range.2 hi)
    simp only [ho] at k
    have k1 := List.all_eq_true.1 k j (List.mem_range.2 hj)
    simp only [hd, Bool.and_eq_true] at k1
    have k2 := k1.2
    simp only [Bool.or_eq_true, decide_eq_true_eq, List.contains_iff_mem, Bool.not_eq_true'] at k2
    rcases k2 with (k2 | k2) | k2
    · rw [hl] at k2; simp at k2
    · omega
    · exact k2
theorem looks_tmp {o : Oper} {t : Tmp} (h : .tmp t ∈ o.op.operands) : t ∈ o.looksAt ops := by
  unfold Oper.looksAt
  rw [List.mem_append]
  refine .inl ?_
  rw [List.mem_filterMap]
  exact ⟨.tmp t, by simpa using h, rfl⟩
theorem looks_guard {o : Oper} {g : Nat} {b : Bool} (h : o.guard = some (g, b)) {t : Tmp} (ht : (ops[g]?).bind (·.dst) = some t) : t ∈ o.looksAt ops := by
  unfold Oper.looksAt
  rw [List.mem_append]
  refine .inr ?_
  simp [h, ht]
theorem fx_same {o : Oper} (hs : ∀ cs b, o.op ≠ .select cs b) (a b : Act) (h : ∀ t, t ∈ o.looksAt ops → a.tmps[t]? = b.tmps[t]?) (w : World) (R : Value → World → Prop) : FxStep P ops o a w R = FxStep P ops o b w R := by
  have h1 : execOp a.eval o = execOp b.eval o := execOp_congr o hs fun x hx => eval_tmps a b x fun t ht => h t (looks_tmp (by rw [← ht]; exact hx))
  have h2 : Region.wanted o (yielded ops a.tmps) = Region.wanted o (yielded ops b.tmps) := by
    unfold Region.wanted
    cases hg : o.guard with
    | none => rfl
    | some gw =>
      obtain ⟨g, wnt⟩ := gw
      simp only
      have h3 : yielded ops a.tmps g = yielded ops b.tmps g := by
        unfold yielded
        cases hd : (ops[g]?).bind (·.dst) with
        | none => rfl
        | some t => simp only [Option.bind_some, h t (looks_guard hg hd)]
      rw [h3]
  unfold FxStep
  rw [h1, h2]
theorem anc_listed {n : Nat} {A : List (List Nat)} (hB : FxOk ops n A) {listed : Array Bool} (cl : Closed .any ops listed) :
    ∀ i o, ops[i]? = some o → (∀ e ∈ o.after, Region.binds .any e = true → listed.getD e.on false = true) → ∀ j ∈ A.getD i [], listed.getD j false = true := by
  intro i
  induction i using Nat.strongRecOn with
  | _ i ih =>
    intro o ho hall j hj
    obtain ⟨_, e, he, hb, h | h⟩ := hB.anc i o ho j hj
    · rw [← h]; exact hall e he hb
    · have hon := hB.aft i o ho e he hb
      have hlt : e.on < ops.size := Nat.lt_trans hon (Array.getElem?_eq_some_iff.1 ho).1
      exact ih e.on hon _ (Array.getElem?_eq_getElem hlt) (fun e2 he2 hb2 => cl.2 _ _ (Array.getElem?_eq_getElem hlt) (hall e he hb) e2 he2 hb2) j h
/-- How many of the first n are not listed. -/
def fxLeft (listed : Array Bool) (n : Nat) : Nat := ((List.range n).filter fun j => !listed.getD j false).length
theorem fxLeft_set {listed : Array Bool} {n i : Nat} (hi : i < n) (hs : i < listed.size) (h : listed.getD i false = false) : fxLeft (listed.setIfInBounds i true) n + 1 = fxLeft listed n := by
  have gi : (listed.setIfInBounds i true).getD i false = true := by simp [hs]
  have go : ∀ j, j ≠ i → (listed.setIfInBounds i true).getD j false = listed.getD j false := fun j hj => getD_set_ne false (fun e => hj e.symm)
  have key : ∀ m, fxLeft (listed.setIfInBounds i true) m + (if i < m then 1 else 0) = fxLeft listed m := by
    intro m
    induction m with
    | zero => rfl
    | succ m ih =>
      unfold fxLeft at ih ⊢
      rw [List.range_succ, List.filter_append, List.filter_append, List.length_append, List.length_append, ← ih]
      by_cases e : m = i
      · subst e
        rw [if_neg (Nat.lt_irrefl m), if_pos (Nat.lt_succ_self m)]
        simp only [List.filter_cons, List.filter_nil, gi, h, Bool.not_true, Bool.not_false, if_true, Bool.false_eq_true, if_false, List.length_nil, List.length_cons]
      · rw [show (if i < m + 1 then 1 else 0) = (if i < m then 1 else 0) by
          by_cases h1 : i < m
          · rw [if_pos h1, if_pos (by omega)]
          · rw [if_neg h1, if_neg (by omega)]]
        simp only [List.filter_cons, List.filter_nil, go m e]
        omega
  have := key n
  rw [if_pos hi] at this
  exact this
theorem fxLeft_zero {listed : Array Bool} {n : Nat} (h : fxLeft listed n = 0) : ∀ j, j < n → listed.getD j false = true := fun j hj => by
  have h1 := List.eq_nil_of_length_eq_zero h
  rw [List.filter_eq_nil_iff] at h1
  simpa using h1 j (List.mem_range.2 hj)
theorem fxLeft_pos {listed : Array Bool} {n : Nat} (h : fxLeft listed n ≠ 0) : ∃ j, j < n ∧ listed.getD j false = false := by
  refine Classical.byContradiction fun hn => h ?_
  unfold fxLeft
  rw [List.length_eq_zero_iff, List.filter_eq_nil_iff]
  intro j hj
  have hj := List.mem_range.1 hj
  cases hb : listed.getD j false with
  | true => simp
  | false => exact absurd ⟨j, hj, hb⟩ hn
/-- The operation i may come behind j, if j does not have to come behind i. -/
def fxAfter (A : List (List Nat)) (i j : Nat) : Bool := decide (i ≠ j) && !(A.getD j []).contains i
/-- The operation i may come before j. -/
def fxBefore (A : List (List Nat)) (i j : Nat) : Bool := decide (i ≠ j) && !(A.getD i []).contains j
section
variable {n : Nat} {A : List (List Nat)} {Ψ : Nat → World → Prop} {Φ : Nat → Value → World → Prop} {G : Nat → World → World → Prop} {Inv : World → Prop} {a0 : Act}
theorem fx_any (hB : FxOk ops n A) (hI : ∀ i w w', i < n → Inv w → G i w w' → Inv w')
    (hG : ∀ i j v w w', i < n → j < n → fxAfter A i j = true → Inv w → Φ j v w → G i w w' → Φ j v w')
    (hP : ∀ i j w w', i < n → j < n → fxBefore A i j = true → Inv w → Ψ j w → G i w w' → Ψ j w')
    (hstep : ∀ i o vs w, i < n → ops[i]? = some o → Inv w → Ψ i w → (∀ j, j ∈ A.getD i [] → Φ j (vs j) w) → FxStep P ops o (fxF ops vs fxT a0 i) w fun v w' => Φ i v w' ∧ G i w w')
    (hdone : ∀ vs w, Inv w → (∀ j, j < n → Φ j (vs j) w) → wpList P ops Q (ops.toList.drop n) (fxF ops vs fxT a0 n) w) :
    ∀ (d : Nat) (listed : Array Bool) (vs : Nat → Value) (w : World), Closed .any ops listed → (∀ j, n ≤ j → j < ops.size → listed.getD j false = false) → fxLeft listed n = d → Inv w → (∀ j, j < n → listed.getD j false = false → Ψ j w) →
      (∀ j, j < n → listed.getD j false = true → Φ j (vs j) w) → wpAny P .any ops Q (d + (ops.size - n)) listed (fxF ops vs (fun j => listed.getD j false) a0 n) w := by
  intro d
  induction d with
  | zero =>
    intro listed vs w cl hout hleft hinv hpre hf
    have hall := fxLeft_zero hleft
    have hL : listed = (Array.replicate n true) ++ (Array.replicate (ops.size - n) false) := by
      refine Array.ext (by rw [cl.1]; have := hB.le; simp; omega) fun j hj1 hj2 => ?_
      have e : listed.getD j false = listed[j] := by simp [Array.getD, hj1]
      rw [← e]
      by_cases hjn : j < n
      · rw [hall j hjn, Array.getElem_append_left (by simpa using hjn)]; simp
      · rw [hout j (by omega) (by rw [← cl.1]; exact hj1), Array.getElem_append_right (by simpa using hjn)]; simp
    have hfr : fxF ops vs (fun j => listed.getD j false) a0 n = fxF ops vs fxT a0 n := fxF_agree _ _ _ _ _ _ fun j hj => ⟨hall j hj, fun _ => rfl⟩
    rw [hfr, Nat.zero_add]
    have hlen : (ops.toList.drop n).length = ops.size - n := by simp
    have h := wpAny_of_seq (P := P) (ops := ops) (md := .any) (Q' := Q) (ops.toList.drop n) n listed (fxF ops vs fxT a0 n) w (fun j => by simp [List.getElem?_drop]) (by rw [hlen, hL]; exact hB.seq) (hdone vs w hinv fun j hj => hf j hj (hall j hj))
    rwa [hlen] at h
  | succ d ih =>
    intro listed vs w cl hout hleft hinv hpre hf
    rw [show d + 1 + (ops.size - n) = (d + (ops.size - n)) + 1 by omega]
    refine ⟨fun hnil => ?_, fun i hi => ?_⟩
    · exfalso
      obtain ⟨j, hj, hju⟩ := fxLeft_pos (listed := listed) (n := n) (by omega)
      have hex : ∃ j, j ∈ Region.ready .any ops listed := by
        clear hnil
        induction j using Nat.strongRecOn with
        | _ j jh =>
          have hlt : j < ops.size := Nat.lt_of_lt_of_le hj hB.le
          by_cases ha : ∀ e ∈ ops[j].after, Region.binds .any e = true → listed.getD e.on false = true
          · refine ⟨j, mem_ready.2 ⟨?_, _, Array.getElem?_eq_getElem hlt, ha⟩⟩
            have hjs : j < listed.size := by rw [cl.1]; exact hlt
            simp [Array.getD, hjs] at hju ⊢
            exact hju
          · obtain ⟨e, he⟩ := Classical.not_forall.1 ha
            obtain ⟨he1, he2⟩ := Classical.not_imp.1 he
            obtain ⟨hb, hu⟩ := Classical.not_imp.1 he2
            have hon := hB.aft j _ (Array.getElem?_eq_getElem hlt) e he1 hb
            exact jh e.on hon (by omega) (by simpa using hu)
      obtain ⟨j', hj'⟩ := hex
      rw [hnil] at hj'; cases hj'
    · obtain ⟨hiu, o, ho, hall⟩ := mem_ready.1 hi
      have his : i < ops.size := (Array.getElem?_eq_some_iff.1 ho).1
      have hils : i < listed.size := by rw [cl.1]; exact his
      have hif : listed.getD i false = false := by simp [Array.getD, hils] at hiu ⊢; exact hiu
      have hanc := anc_listed hB cl i o ho hall
      rcases Nat.lt_or_ge i n with hin | hin
      · have hlk : ∀ t, t ∈ o.looksAt ops → (fxF ops vs (fun j => listed.getD j false) a0 n).tmps[t]? = (fxF ops vs fxT a0 i).tmps[t]? := fun t ht =>
          fxF_look vs _ a0 n i (Nat.le_of_lt hin) t fun j hj hd => by
            rcases hB.look i o j t hin hj ho hd ht with ⟨h1, h2⟩ | ⟨h1, h2⟩ | h1
            · exact ⟨fun _ => hanc j h2, fun h => by omega⟩
            · refine ⟨fun h => by omega, fun _ => ?_⟩
              cases hb : listed.getD j false with
              | false => rfl
              | true =>
                have hjs : j < ops.size := Nat.lt_of_lt_of_le hj hB.le
                have := anc_listed hB cl j _ (Array.getElem?_eq_getElem hjs) (fun e he hb2 => cl.2 j _ (Array.getElem?_eq_getElem hjs) hb e he hb2) i h2
                rw [hif] at this; cases this
            · subst h1; exact ⟨fun h => by omega, fun _ => hif⟩
        have hsel : ∀ cs b, o.op ≠ .select cs b := fun cs b => Region.noSelect_spec hB.sel i o cs b ho
        have hst := hstep i o vs w hin ho hinv (hpre i hin hif) fun j hj => hf j (by have := (hB.anc i o ho j hj).1; omega) (hanc j hj)
        rw [← fx_same hsel _ _ hlk] at hst
        refine fx_wpOp ho hst fun v w' ⟨hΦ, hg⟩ => ?_
        have hdd : o.dst = (ops[i]?).bind (·.dst) := by rw [ho]; rfl
        have hfp := fxF_put (ops := ops) vs (fun j => listed.getD j false) a0 n i v hin hif fun k hk hkn hLk d' hd' hd2 => by
          have hks : k < ops.size := Nat.lt_of_lt_of_le hkn hB.le
          rw [ho] at hd'
          have h2 := hB.dst i o k d' hin hkn ho hd2 hd' hk
          have := anc_listed hB cl k _ (Array.getElem?_eq_getElem hks) (fun e he hb2 => cl.2 k _ (Array.getElem?_eq_getElem hks) hLk e he hb2) i h2
          rw [hif] at this; cases this
        rw [hdd, hfp]
        have hfr : fxF ops (fun j => if j = i then v else vs j) (fun j => if j = i then true else listed.getD j false) a0 n = fxF ops (fun j => if j = i then v else vs j) (fun j => (listed.setIfInBounds i true).getD j false) a0 n := fxF_agree _ _ _ _ _ _ fun j hj => by
          refine ⟨?_, fun _ => rfl⟩
          by_cases e : j = i
          · subst e; simp [hils]
          · rw [if_neg e, getD_set_ne false (fun h => e h.symm)]
        rw [hfr]
        refine ih _ _ _ (cl.set hi) (fun j h1 h2 => ?_) ?_ (hI i w w' hin hinv hg) (fun j hj hjl => ?_) fun j hj hjl => ?_
        · rw [getD_set_ne false (by omega)]; exact hout j h1 h2
        · have := fxLeft_set hin hils hif; omega
        · by_cases e : j = i
          · subst e; simp [hils] at hjl
          · rw [getD_set_ne false (fun h => e h.symm)] at hjl
            refine hP i j w w' hin hj ?_ hinv (hpre j hj hjl) hg
            unfold fxBefore
            have hni : j ∉ A.getD i [] := fun hm => by rw [hanc j hm] at hjl; cases hjl
            rw [Bool.and_eq_true, decide_eq_true_eq]
            exact ⟨fun h => e h.symm, by simpa using hni⟩
        · by_cases e : j = i
          · subst e; simp only [if_true]; exact hΦ
          · simp only [if_neg e]
            rw [getD_set_ne false (fun h => e h.symm)] at hjl
            refine hG i j (vs j) w w' hin hj ?_ hinv (hf j hj hjl) hg
            unfold fxAfter
            have hjs : j < ops.size := Nat.lt_of_lt_of_le hj hB.le
            have hni : i ∉ A.getD j [] := fun hm => by
              have := anc_listed hB cl j _ (Array.getElem?_eq_getElem hjs) (fun e he hb2 => cl.2 j _ (Array.getElem?_eq_getElem hjs) hjl e he hb2) i hm
              rw [hif] at this; cases this
            rw [Bool.and_eq_true, decide_eq_true_eq]
            exact ⟨fun h => e h.symm, by simpa using hni⟩
      · exfalso
        obtain ⟨j, hj, hju⟩ := fxLeft_pos (listed := listed) (n := n) (by omega)
        have := hanc j (hB.tail i hin his j hj)
        rw [hju] at this; cases this
/-- **A region that draws its order**: one fact for each of its first n operations, kept by all that may come behind it; what comes behind them is walked as' a list. -/
theorem wp_region_fx {id : Nat} {w : World} {l : List Oper} (n : Nat) (A : List (List Nat)) (hm : P.follows .mixedOrders = true) (hB : fxB l.toArray n A = true)
    (Φ : Nat → Value → World → Prop) (G : Nat → World → World → Prop) (Inv : World → Prop) (Ψ : Nat → World → Prop) (h0 : Inv { w with drawn := w.drawn + 1 }) (hp0 : ∀ j, j < n → Ψ j { w with drawn := w.drawn + 1 })
    (hI : ∀ i w w', i < n → Inv w → G i w w' → Inv w')
    (hG : ∀ i j v w w', i < n → j < n → fxAfter A i j = true → Inv w → Φ j v w → G i w w' → Φ j v w')
    (hP : ∀ i j w w', i < n → j < n → fxBefore A i j = true → Inv w → Ψ j w → G i w w' → Ψ j w')
    (hstep : ∀ i o vs w, i < n → l.toArray[i]? = some o → Inv w → Ψ i w → (∀ j, j ∈ A.getD i [] → Φ j (vs j) w) → FxStep P l.toArray o (fxF l.toArray vs fxT a0 i) w fun v w' => Φ i v w' ∧ G i w w')
    (hdone : ∀ vs w, Inv w → (∀ j, j < n → Φ j (vs j) w) → wpList P l.toArray Q (l.drop n) (fxF l.toArray vs fxT a0 n) w) : (Code.region id l.toArray true).wp P Q a0 w := by
  have hk := fxB_ok hB
  have cl0 : Closed .any l.toArray (Array.replicate l.toArray.size false) := ⟨by simp, fun j oj _ hl => (by rw [getD_replicate_false] at hl; cases hl)⟩
  have hl0 : fxLeft (Array.replicate l.toArray.size false) n = n := by
    unfold fxLeft
    rw [List.filter_eq_self.2 (fun j _ => by rw [getD_replicate_false]; rfl), List.length_range]
  have h := fx_any (a0 := a0) hk hI hG hP hstep (fun vs w h1 h2 => by simpa using hdone vs w h1 h2) n (Array.replicate l.toArray.size false) (fun _ => undef) { w with drawn := w.drawn + 1 } cl0 (fun j _ _ => getD_replicate_false _ _) hl0 h0 (fun j hj _ => hp0 j hj) (fun j _ hl => by rw [getD_replicate_false] at hl; cases hl)
  have hfr : fxF l.toArray (fun _ => undef) (fun j => (Array.replicate l.toArray.size false).getD j false) a0 n = a0 := by
    have : ∀ k, fxF l.toArray (fun _ => undef) (fun j => (Array.replicate l.toArray.size false).getD j false) a0 k = a0 := by
      intro k
      induction k with
      | zero => rfl
      | succ k ih =>
        show (if (Array.replicate l.toArray.size false).getD k false = true then _ else _) = a0
        rw [getD_replicate_false, if_neg (by decide)]; exact ih
    exact this n
  rw [hfr, show n + (l.toArray.size - n) = l.toArray.size by have := hk.le; omega] at h
  exact wp_region_any hm h
end
/-- The last of the first i operations that puts its value into the slot t. -/
def fxLast (ops : Array Oper) (t : Tmp) : Nat → Option Nat
  | 0 => none
  | k + 1 => if ((ops[k]?).bind (·.dst) == some t) = true then some k else fxLast ops t k
theorem fx_old {vs : Nat → Value} {a0 : Act} {t : Tmp} : ∀ i, fxLast ops t i = none → (fxF ops vs fxT a0 i).eval (.tmp t) = a0.eval (.tmp t)
  | 0, _ => rfl
  | k + 1, h => by
    unfold fxLast at h
    split at h
    · cases h
    · rename_i hd
      simp only [fxF, fxT, if_true]
      rw [eval_tmps _ (fxF ops vs fxT a0 k) (.tmp t) (fun t' e => by
        injection e with e
        subst e
        exact put_tmps_ne _ _ _ _ (by simpa using hd))]
      exact fx_old k h
theorem fxF_size {vs : Nat → Value} {a0 : Act} (k : Nat) : (fxF ops vs fxT a0 k).tmps.size = a0.tmps.size := by
  induction k with
  | zero => rfl
  | succ k ih =>
    simp only [fxF, fxT, if_true]
    cases (ops[k]?).bind (·.dst) with
    | none => exact ih
    | some d => simp [Act.put, ih]
theorem fx_new {vs : Nat → Value} {a0 : Act} {t : Tmp} {j : Nat} (ht : t < a0.tmps.size) : ∀ i, fxLast ops t i = some j → (fxF ops vs fxT a0 i).eval (.tmp t) = vs j
  | 0, h => by cases h
  | k + 1, h => by
    unfold fxLast at h
    simp only [fxF, fxT, if_true]
    split at h
    · rename_i hd
      injection h with h
      subst h
      rw [show (ops[k]?).bind (·.dst) = some t by simpa using hd]
      have hs : t < (fxF ops vs fxT a0 k).tmps.size := by rw [fxF_size]; exact ht
      simp [Act.eval, Act.put, Array.getD_eq_getD_getElem?, hs]
    · rename_i hd
      rw [eval_tmps _ (fxF ops vs fxT a0 k) (.tmp t) (fun t' e => by
        injection e with e
        subst e
        exact put_tmps_ne _ _ _ _ (by simpa using hd))]
      exact fx_new ht k h
section
variable {o : Oper} {a : Act} {w : World} {R : Value → World → Prop}
theorem fx_val {v : Value} {w' : World} (hw : Region.wanted o (yielded ops a.tmps) = true) (h : (execOp a.eval o).run P w = .ok (.value v) w') (hR : R v w') : FxStep P ops o a w R := by
  unfold FxStep
  rw [if_pos hw, h]
  exact hR
theorem fx_move (x : Operand) (hg : o.guard = none) (ho : o.op = .move x) (hR : R (a.eval x) w) : FxStep P ops o a w R :=
  fx_val (v := a.eval x) (w' := w) (by simp [Region.wanted, hg]) (by unfold execOp; simp [ho, go_sem]) hR
theorem fx_call {T : Array TypeId} {f : FuncId} {fn : Func} {c : Code} {xs : Array Operand} (us : Array Value) (hw : Region.wanted o (yielded ops a.tmps) = true) (ho : o.op = .call { callee := .value (.func f), args := xs, argTypes := T })
    (hf : P.funcs[f]? = some fn) (hname : (fn.name == "runtime.NumGoroutine") = false) (hb : fn.body = some c) (hx : xs.map a.eval = us) (h3 : a.eval (.func f) = .func (.func f) #[] #[])
    (hc : Calls P f us w fun e w'' => ∃ v, e = .returned v ∧ R v w'') : FxStep P ops o a w R := by
  have hn : fn.name ≠ "runtime.NumGoroutine" := by simpa using hname
  unfold FxStep
  rw [if_pos hw]
  unfold execOp
  generalize a.eval = ev at *
  have hr : (callFunc f us).run P w = .ok (.enter f us) w := by simp [callFunc, hf, hn, hb]
  simp only [ho]
  simp [go_sem, hx, h3]
  rw [hr]
  exact hc
end
end
end YtdlblhoaddfanaaDoor
end Go
namespace Go
namespace YtdlblhoaddfanaaDoor
set_option linter.unusedVariables false
section
variable {P : Program} {ops : Array Oper} {md : Region.Mode} {Q : Exit → Act → World → Prop}
/-- Behind the operation i, another one than i that uses j may come, or the end uses it. -/
def fxNeed (n : Nat) (A U : List (List Nat)) (Uf : List Nat) (i j : Nat) : Bool := Uf.contains j || (List.range n).any fun k => decide (k ≠ i) && !(A.getD i []).contains k && (U.getD k []).contains j
def fxLive (n : Nat) (U : List (List Nat)) (Uf : List Nat) (listed : Array Bool) (j : Nat) : Prop := j ∈ Uf ∨ ∃ k, k < n ∧ listed.getD k false = false ∧ j ∈ U.getD k []
def fxUses (n : Nat) (A U : List (List Nat)) : Bool := (List.range n).all fun k => (U.getD k []).all fun j => (A.getD k []).contains j
theorem fxUses_mem {n : Nat} {A U : List (List Nat)} (h : fxUses n A U = true) {i j : Nat} (hi : i < n) (hj : j ∈ U.getD i []) : j ∈ A.getD i [] := by
  have h1 := List.all_eq_true.1 (List.all_eq_true.1 h i (List.mem_range.2 hi)) j hj
  simpa using h1
section
variable {n : Nat} {A : List (List Nat)} {Ψ : Nat → World → Prop} {Φ : Nat → (Nat → Value) → World → Prop} {G : Nat → World → World → Prop} {Inv : World → Prop} {a0 : Act}
theorem fx_anyU {U : List (List Nat)} {Uf : List Nat} (hB : FxOk ops n A) (hU : fxUses n A U = true) (hI : ∀ i w w', i < n → Inv w → G i w w' → Inv w')
    (hC : ∀ j vs vs' w, j < n → (∀ k, k = j ∨ k ∈ A.getD j [] → vs k = vs' k) → Φ j vs w → Φ j vs' w)
    (hG : ∀ i j vs w w', i < n → j < n → fxAfter A i j = true → fxNeed n A U Uf i j = true → Inv w → Φ j vs w → G i w w' → Φ j vs w')
    (hP : ∀ i j w w', i < n → j < n → fxBefore A i j = true → Inv w → Ψ j w → G i w w' → Ψ j w')
    (hstep : ∀ i o vs w, i < n → ops[i]? = some o → Inv w → Ψ i w → (∀ j, j ∈ U.getD i [] → Φ j vs w) → FxStep P ops o (fxF ops vs fxT a0 i) w fun v w' => Φ i (fun j => if j = i then v else vs j) w' ∧ G i w w')
    (hdone : ∀ vs w, Inv w → (∀ j, j < n → j ∈ Uf → Φ j vs w) → wpList P ops Q (ops.toList.drop n) (fxF ops vs fxT a0 n) w) :
    ∀ (d : Nat) (listed : Array Bool) (vs : Nat → Value) (w : World), Closed .any ops listed → (∀ j, n ≤ j → j < ops.size → listed.getD j false = false) → fxLeft listed n = d → Inv w → (∀ j, j < n → listed.getD j false = false → Ψ j w) →
      (∀ j, j < n → listed.getD j false = true → fxLive n U Uf listed j → Φ j vs w) → wpAny P .any ops Q (d + (ops.size - n)) listed (fxF ops vs (fun j => listed.getD j false) a0 n) w := by
  intro d
  induction d with
  | zero =>
    intro listed vs w cl hout hleft hinv hpre hf
    have hall := fxLeft_zero hleft
    have hL : listed = (Array.replicate n true) ++ (Array.replicate (ops.size - n) false) := by
      refine Array.ext (by rw [cl.1]; have := hB.le; simp; omega) fun j hj1 hj2 => ?_
      have e : listed.getD j false = listed[j] := by simp [Array.getD, hj1]
      rw [← e]
      by_cases hjn : j < n
      · rw [hall j hjn, Array.getElem_append_left (by simpa using hjn)]; simp
      · rw [hout j (by omega) (by rw [← cl.1]; exact hj1), Array.getElem_append_right (by simpa using hjn)]; simp
    have hfr : fxF ops vs (fun j => listed.getD j false) a0 n = fxF ops vs fxT a0 n := fxF_agree _ _ _ _ _ _ fun j hj => ⟨hall j hj, fun _ => rfl⟩
    rw [hfr, Nat.zero_add]
    have hlen : (ops.toList.drop n).length = ops.size - n := by simp
    have h := wpAny_of_seq (P := P) (ops := ops) (md := .any) (Q' := Q) (ops.toList.drop n) n listed (fxF ops vs fxT a0 n) w (fun j => by simp [List.getElem?_drop]) (by rw [hlen, hL]; exact hB.seq) (hdone vs w hinv fun j hj hu => hf j hj (hall j hj) (.inl hu))
    rwa [hlen] at h
  | succ d ih =>
    intro listed vs w cl hout hleft hinv hpre hf
    rw [show d + 1 + (ops.size - n) = (d + (ops.size - n)) + 1 by omega]
    refine ⟨fun hnil => ?_, fun i hi => ?_⟩
    · exfalso
      obtain ⟨j, hj, hju⟩ := fxLeft_pos (listed := listed) (n := n) (by omega)
      have hex : ∃ j, j ∈ Region.ready .any ops listed := by
        clear hnil
        induction j using Nat.strongRecOn with
        | _ j jh =>
          have hlt : j < ops.size := Nat.lt_of_lt_of_le hj hB.le
          by_cases ha : ∀ e ∈ ops[j].after, Region.binds .any e = true → listed.getD e.on false = true
          · refine ⟨j, mem_ready.2 ⟨?_, _, Array.getElem?_eq_getElem hlt, ha⟩⟩
            have hjs : j < listed.size := by rw [cl.1]; exact hlt
            simp [Array.getD, hjs] at hju ⊢
            exact hju
          · obtain ⟨e, he⟩ := Classical.not_forall.1 ha
            obtain ⟨he1, he2⟩ := Classical.not_imp.1 he
            obtain ⟨hb, hu⟩ := Classical.not_imp.1 he2
            have hon := hB.aft j _ (Array.getElem?_eq_getElem hlt) e he1 hb
            exact jh e.on hon (by omega) (by simpa using hu)
      obtain ⟨j', hj'⟩ := hex
      rw [hnil] at hj'; cases hj'
    · obtain ⟨hiu, o, ho, hall⟩ := mem_ready.1 hi
      have his : i < ops.size := (Array.getElem?_eq_some_iff.1 ho).1
      have hils : i < listed.size := by rw [cl.1]; exact his
      have hif : listed.getD i false = false := by simp [Array.getD, hils] at hiu ⊢; exact hiu
      have hanc := anc_listed hB cl i o ho hall
      rcases Nat.lt_or_ge i n with hin | hin
      · have hlk : ∀ t, t ∈ o.looksAt ops → (fxF ops vs (fun j => listed.getD j false) a0 n).tmps[t]? = (fxF ops vs fxT a0 i).tmps[t]? := fun t ht =>
          fxF_look vs _ a0 n i (Nat.le_of_lt hin) t fun j hj hd => by
            rcases hB.look i o j t hin hj ho hd ht with ⟨h1, h2⟩ | ⟨h1, h2⟩ | h1
            · exact ⟨fun _ => hanc j h2, fun h => by omega⟩
            · refine ⟨fun h => by omega, fun _ => ?_⟩
              cases hb : listed.getD j false with
              | false => rfl
              | true =>
                have hjs : j < ops.size := Nat.lt_of_lt_of_le hj hB.le
                have := anc_listed hB cl j _ (Array.getElem?_eq_getElem hjs) (fun e he hb2 => cl.2 j _ (Array.getElem?_eq_getElem hjs) hb e he hb2) i h2
                rw [hif] at this; cases this
            · subst h1; exact ⟨fun h => by omega, fun _ => hif⟩
        have hsel : ∀ cs b, o.op ≠ .select cs b := fun cs b => Region.noSelect_spec hB.sel i o cs b ho
        have hst := hstep i o vs w hin ho hinv (hpre i hin hif) fun j hj => (have hja := fxUses_mem hU hin hj; hf j (by have := (hB.anc i o ho j hja).1; omega) (hanc j hja) (.inr ⟨i, hin, hif, hj⟩))
        rw [← fx_same hsel _ _ hlk] at hst
        refine fx_wpOp ho hst fun v w' ⟨hΦ, hg⟩ => ?_
        have hdd : o.dst = (ops[i]?).bind (·.dst) := by rw [ho]; rfl
        have hfp := fxF_put (ops := ops) vs (fun j => listed.getD j false) a0 n i v hin hif fun k hk hkn hLk d' hd' hd2 => by
          have hks : k < ops.size := Nat.lt_of_lt_of_le hkn hB.le
          rw [ho] at hd'
          have h2 := hB.dst i o k d' hin hkn ho hd2 hd' hk
          have := anc_listed hB cl k _ (Array.getElem?_eq_getElem hks) (fun e he hb2 => cl.2 k _ (Array.getElem?_eq_getElem hks) hLk e he hb2) i h2
          rw [hif] at this; cases this
        rw [hdd, hfp]
        have hfr : fxF ops (fun j => if j = i then v else vs j) (fun j => if j = i then true else listed.getD j false) a0 n = fxF ops (fun j => if j = i then v else vs j) (fun j => (listed.setIfInBounds i true).getD j false) a0 n := fxF_agree _ _ _ _ _ _ fun j hj => by
          refine ⟨?_, fun _ => rfl⟩
          by_cases e : j = i
          · subst e; simp [hils]
          · rw [if_neg e, getD_set_ne false (fun h => e h.symm)]
        rw [hfr]
        refine ih _ _ _ (cl.set hi) (fun j h1 h2 => ?_) ?_ (hI i w w' hin hinv hg) (fun j hj hjl => ?_) fun j hj hjl hlv => ?_
        · rw [getD_set_ne false (by omega)]; exact hout j h1 h2
        · have := fxLeft_set hin hils hif; omega
        · by_cases e : j = i
          · subst e; simp [hils] at hjl
          · rw [getD_set_ne false (fun h => e h.symm)] at hjl
            refine hP i j w w' hin hj ?_ hinv (hpre j hj hjl) hg
            unfold fxBefore
            have hni : j ∉ A.getD i [] := fun hm => by rw [hanc j hm] at hjl; cases hjl
            rw [Bool.and_eq_true, decide_eq_true_eq]
            exact ⟨fun h => e h.symm, by simpa using hni⟩
        · by_cases e : j = i
          · subst e; exact hΦ
          · rw [getD_set_ne false (fun h => e h.symm)] at hjl
            have hlv2 : fxLive n U Uf listed j ∧ fxNeed n A U Uf i j = true := by
              rcases hlv with h | ⟨k, hk, hkl, hku⟩
              · exact ⟨.inl h, by unfold fxNeed; simp [h]⟩
              · have hki : k ≠ i := fun h => by subst h; simp [hils] at hkl
                rw [getD_set_ne false (fun h => hki h.symm)] at hkl
                refine ⟨.inr ⟨k, hk, hkl, hku⟩, ?_⟩
                unfold fxNeed
                rw [Bool.or_eq_true, List.any_eq_true]
                refine .inr ⟨k, List.mem_range.2 hk, ?_⟩
                have hnk : k ∉ A.getD i [] := fun hm => by rw [hanc k hm] at hkl; cases hkl
                rw [Bool.and_eq_true, Bool.and_eq_true, decide_eq_true_eq]
                exact ⟨⟨hki, by simpa using hnk⟩, by simpa using hku⟩
            have hjs : j < ops.size := Nat.lt_of_lt_of_le hj hB.le
            have hni : i ∉ A.getD j [] := fun hm => by
              have := anc_listed hB cl j _ (Array.getElem?_eq_getElem hjs) (fun e he hb2 => cl.2 j _ (Array.getElem?_eq_getElem hjs) hjl e he hb2) i hm
              rw [hif] at this; cases this
            refine hC j vs _ w' hj (fun k hk => ?_) (hG i j vs w w' hin hj ?_ hlv2.2 hinv (hf j hj hjl hlv2.1) hg)
            · have hki : k ≠ i := by
                rcases hk with rfl | hk
                · exact e
                · exact fun h => hni (h ▸ hk)
              simp only [if_neg hki]
            · unfold fxAfter
              rw [Bool.and_eq_true, decide_eq_true_eq]
              exact ⟨fun h => e h.symm, by simpa using hni⟩
      · exfalso
        obtain ⟨j, hj, hju⟩ := fxLeft_pos (listed := listed) (n := n) (by omega)
        have := hanc j (hB.tail i hin his j hj)
        rw [hju] at this; cases this
/-- **A region that draws its order**, its facts used up: one fact for each of its first n operations, kept by all that may come behind it and ahead of one that uses it; what comes behind them is walked as' a list. -/
theorem wp_region_fxu {id : Nat} {w : World} {l : List Oper} (n : Nat) (A U : List (List Nat)) (Uf : List Nat) (hm : P.follows .mixedOrders = true) (hB : fxB l.toArray n A = true) (hU : fxUses n A U = true)
    (Φ : Nat → (Nat → Value) → World → Prop) (G : Nat → World → World → Prop) (Inv : World → Prop) (Ψ : Nat → World → Prop) (h0 : Inv { w with drawn := w.drawn + 1 }) (hp0 : ∀ j, j < n → Ψ j { w with drawn := w.drawn + 1 })
    (hI : ∀ i w w', i < n → Inv w → G i w w' → Inv w')
    (hC : ∀ j vs vs' w, j < n → (∀ k, k = j ∨ k ∈ A.getD j [] → vs k = vs' k) → Φ j vs w → Φ j vs' w)
    (hG : ∀ i j vs w w', i < n → j < n → fxAfter A i j = true → fxNeed n A U Uf i j = true → Inv w → Φ j vs w → G i w w' → Φ j vs w')
    (hP : ∀ i j w w', i < n → j < n → fxBefore A i j = true → Inv w → Ψ j w → G i w w' → Ψ j w')
    (hstep : ∀ i o vs w, i < n → l.toArray[i]? = some o → Inv w → Ψ i w → (∀ j, j ∈ U.getD i [] → Φ j vs w) → FxStep P l.toArray o (fxF l.toArray vs fxT a0 i) w fun v w' => Φ i (fun j => if j = i then v else vs j) w' ∧ G i w w')
    (hdone : ∀ vs w, Inv w → (∀ j, j < n → j ∈ Uf → Φ j vs w) → wpList P l.toArray Q (l.drop n) (fxF l.toArray vs fxT a0 n) w) : (Code.region id l.toArray true).wp P Q a0 w := by
  have hk := fxB_ok hB
  have cl0 : Closed .any l.toArray (Array.replicate l.toArray.size false) := ⟨by simp, fun j oj _ hl => (by rw [getD_replicate_false] at hl; cases hl)⟩
  have hl0 : fxLeft (Array.replicate l.toArray.size false) n = n := by
    unfold fxLeft
    rw [List.filter_eq_self.2 (fun j _ => by rw [getD_replicate_false]; rfl), List.length_range]
  have h := fx_anyU (U := U) (Uf := Uf) (a0 := a0) hk hU hI hC hG hP hstep (fun vs w h1 h2 => by simpa using hdone vs w h1 h2) n (Array.replicate l.toArray.size false) (fun _ => undef) { w with drawn := w.drawn + 1 } cl0 (fun j _ _ => getD_replicate_false _ _) hl0 h0 (fun j hj _ => hp0 j hj) (fun j _ hl _ => by rw [getD_replicate_false] at hl; cases hl)
  have hfr : fxF l.toArray (fun _ => undef) (fun j => (Array.replicate l.toArray.size false).getD j false) a0 n = a0 := by
    have : ∀ k, fxF l.toArray (fun _ => undef) (fun j => (Array.replicate l.toArray.size false).getD j false) a0 k = a0 := by
      intro k
      induction k with
      | zero => rfl
      | succ k ih =>
        show (if (Array.replicate l.toArray.size false).getD k false = true then _ else _) = a0
        rw [getD_replicate_false, if_neg (by decide)]; exact ih
    exact this n
  rw [hfr, show n + (l.toArray.size - n) = l.toArray.size by have := hk.le; omega] at h
  exact wp_region_any hm h
end
theorem fxu_append2 {o : Oper} {a : Act} {w w' : World} {R : Value → World → Prop} {v v' u : Value} (s x : Operand) (t : TypeId) (hg : o.guard = none) (ho : o.op = .call { callee := .builtin .append, args := #[s, x], argTypes := #[t, t] })
    (hs : a.eval s = v) (hx : a.eval x = u) (hrun : (Builtin.append_ #[t, t] o.type #[v, u]).run P w = .ok v' w') (hR : R v' w') : FxStep P ops o a w R :=
  fx_val (v := v') (w' := w') (by simp [Region.wanted, hg]) (by
    unfold execOp
    simp only [ho, resolve, invoke, builtin, Sem.run_bind, Sem.run_pure, Result.andThen_ok, List.map_toArray, List.map_cons, List.map_nil, hs, hx, hrun]) hR
end
end YtdlblhoaddfanaaDoor
end Go
namespace Go.Proofs.YtdlblhoaddfanaaDoor
open Go.RowKit Go.YtdlblhoaddfanaaDoor
set_option linter.unusedVariables false
theorem fx_cellD {P : Program} {ops : Array Oper} {o : Oper} {a : Act} {w : World} {R : Value → World → Prop} (ty : TypeId) (x : Operand) (hg : o.guard = none) (ho : o.op = .load ty x) (g k : Nat) (hx : a.eval x = .pointer (some ⟨g, k, none⟩)) (v : Value) (hc : w.cell? ⟨g, k, none⟩ = some v)
    (hu : (isAgg ty).run P w = .ok false w) (hR : R v w) : FxStep P ops o a w R :=
  fx_val (v := v) (w' := w) (by simp [Region.wanted, hg]) (by
    unfold execOp
    generalize a.eval = ev at *
    simp only [ho]
    simp [go_sem, hx, hu, hc]) hR
theorem fx_midD {P : Program} {ops : Array Oper} {o : Oper} {a : Act} {w : World} {R : Value → World → Prop} (ty : TypeId) (x : Operand) (hg : o.guard = none) (ho : o.op = .load ty x) (b off : Nat) (hx : a.eval x = .pointer (some ⟨b, off, none⟩)) (cs : List Value) (d : TypeDesc)
    (hu : P.underlying ty = some d) (hd : d.isRow = true) (hi : (P.info? ty).map (·.size) = some cs.length) (hS : w.rangeAt b off cs) (hR : R (.agg cs.toArray) w) : FxStep P ops o a w R :=
  fx_val (v := .agg cs.toArray) (w' := w) (by simp [Region.wanted, hg]) (by
    unfold execOp
    simp only [ho, hx, Instr.loadAt, Instr.sureAddr, Sem.run_bind, Sem.run_pure, Result.andThen_ok, run_loadVar_mid w b off ty cs d hS hu hd hi]) hR
theorem range_mill {w : World} {g : Nat} {x0 x1 x2 x3 x4 x5 x6 x7 : Value} (h0 : w.cell? ⟨g, 0, none⟩ = some x0) (h1 : w.cell? ⟨g, 1, none⟩ = some x1) (h2 : w.cell? ⟨g, 2, none⟩ = some x2) (h3 : w.cell? ⟨g, 3, none⟩ = some x3) (h4 : w.cell? ⟨g, 4, none⟩ = some x4) (h5 : w.cell? ⟨g, 5, none⟩ = some x5) (h6 : w.cell? ⟨g, 6, none⟩ = some x6) (h7 : w.cell? ⟨g, 7, none⟩ = some x7) : w.rangeAt g 0 [x0, x1, x2, x3, x4, x5, x6, x7] := by
  intro j v hv
  match j with
  | 0 => cases hv; exact h0
  | 1 => cases hv; exact h1
  | 2 => cases hv; exact h2
  | 3 => cases hv; exact h3
  | 4 => cases hv; exact h4
  | 5 => cases hv; exact h5
  | 6 => cases hv; exact h6
  | 7 => cases hv; exact h7
  | j + 8 => cases hv
def enA : List (List Nat) := [[], [0], [], [], [3], [2, 3, 4], [], [6], [2, 3, 4, 5, 6, 7], [2, 3, 4, 5, 6, 7, 8], [0, 1, 2, 3, 4, 5, 6, 7, 8, 9], [0, 1, 2, 3, 4, 5, 6, 7, 8, 9, 10], [0, 1, 2, 3, 4, 5, 6, 7, 8, 9, 10, 11], [0, 1, 2, 3, 4, 5, 6, 7, 8, 9, 10, 11, 12]]
def enU : List (List Nat) := [[], [0], [], [], [3], [2, 4], [], [6], [7], [5, 8]]
def enF : List Nat := [1, 9]
def enΦ (B gm : Nat) (ws : Array Value) (sv : Value) (M : Nat) (r t : List Int) : Nat → (Nat → Value) → World → Prop
  | 0, vs, _ => vs 0 = .pointer (some ⟨gm, 0, none⟩)
  | 1, vs, _ => vs 1 = .agg ws
  | 2, vs, w => ∃ g, vs 2 = .slice (some ⟨g, 0, none⟩) 0 0 ∧ B ≤ g ∧ w.heap[g]? = some (.cells #[] 5 (0, 0))
  | 3, vs, _ => vs 3 = .pointer (some ⟨gm, 8, none⟩)
  | 4, vs, _ => vs 4 = sv
  | 5, vs, w => OwnB B 5 w (vs 5) r
  | 6, vs, _ => vs 6 = .pointer (some ⟨gm, 9, none⟩)
  | 7, vs, _ => vs 7 = .int .i64 (M : Int)
  | 8, vs, w => RdB w (vs 8) t
  | _, vs, w => OwnB B 5 w (vs 9) (r ++ t)
def enG (B i : Nat) (w w' : World) : Prop := Below B w w' ∧ ((i = 5 ∨ i = 9) ∨ Below w.heap.size w w')
theorem enG_same (B i : Nat) (w : World) : enG B i w w := ⟨Below.refl _ _, .inr (Below.refl _ _)⟩
theorem enG_below {B i : Nat} {w w' : World} (hB : B ≤ w.heap.size) (hb : Below w.heap.size w w') : enG B i w w' := ⟨hb.mono hB, .inr hb⟩
theorem en_congr {B gm : Nat} {ws : Array Value} {sv : Value} {M : Nat} {r t : List Int} (j : Nat) (vs vs' : Nat → Value) (w : World) (hj : j < 10) (he : ∀ k, k = j ∨ k ∈ enA.getD j [] → vs k = vs' k)
    (h : enΦ B gm ws sv M r t j vs w) : enΦ B gm ws sv M r t j vs' w := by
  match j, hj with
  | 0, _ => exact (he 0 (.inl rfl)).symm.trans h
  | 1, _ => exact (he 1 (.inl rfl)).symm.trans h
  | 2, _ => obtain ⟨g, e, h1⟩ := h; exact ⟨g, (he 2 (.inl rfl)).symm.trans e, h1⟩
  | 3, _ => exact (he 3 (.inl rfl)).symm.trans h
  | 4, _ => exact (he 4 (.inl rfl)).symm.trans h
  | 5, _ => have h1 := he 5 (.inl rfl); have h2 : OwnB B 5 w (vs 5) r := h; rw [h1] at h2; exact h2
  | 6, _ => exact (he 6 (.inl rfl)).symm.trans h
  | 7, _ => exact (he 7 (.inl rfl)).symm.trans h
  | 8, _ => have h1 := he 8 (.inl rfl); have h2 : RdB w (vs 8) t := h; rw [h1] at h2; exact h2
  | 9, _ => have h1 := he 9 (.inl rfl); have h2 : OwnB B 5 w (vs 9) (r ++ t) := h; rw [h1] at h2; exact h2
  | j' + 10, hj' => exact absurd hj' (by omega)
theorem en_keep {B gm : Nat} {ws : Array Value} {sv : Value} {M : Nat} {r t : List Int} (i j : Nat) (vs : Nat → Value) (w w' : World) (hi : i < 10) (hj : j < 10) (ha : fxAfter enA i j = true) (hn : fxNeed 10 enA enU enF i j = true)
    (h : enΦ B gm ws sv M r t j vs w) (hg : enG B i w w') : enΦ B gm ws sv M r t j vs w' := by
  obtain ⟨_, (rfl | rfl) | hb⟩ := hg
  · match j, hj with
    | 0, _ => exact h
    | 1, _ => exact h
    | 2, _ => first | exact absurd ha (by decide) | exact absurd hn (by decide)
    | 3, _ => exact h
    | 4, _ => exact h
    | 5, _ => first | exact absurd ha (by decide) | exact absurd hn (by decide)
    | 6, _ => exact h
    | 7, _ => exact h
    | 8, _ => first | exact absurd ha (by decide) | exact absurd hn (by decide)
    | 9, _ => first | exact absurd ha (by decide) | exact absurd hn (by decide)
    | j' + 10, hj' => exact absurd hj' (by omega)
  · match j, hj with
    | 0, _ => exact h
    | 1, _ => exact h
    | 2, _ => first | exact absurd ha (by decide) | exact absurd hn (by decide)
    | 3, _ => exact h
    | 4, _ => exact h
    | 5, _ => first | exact absurd ha (by decide) | exact absurd hn (by decide)
    | 6, _ => exact h
    | 7, _ => exact h
    | 8, _ => first | exact absurd ha (by decide) | exact absurd hn (by decide)
    | 9, _ => first | exact absurd ha (by decide) | exact absurd hn (by decide)
    | j' + 10, hj' => exact absurd hj' (by omega)
  · match j, hj with
    | 0, _ => exact h
    | 1, _ => exact h
    | 2, _ => obtain ⟨g, e, h1, h2⟩ := h; exact ⟨g, e, h1, rowD h2 hb⟩
    | 3, _ => exact h
    | 4, _ => exact h
    | 5, _ => exact OwnB.kept h hb
    | 6, _ => exact h
    | 7, _ => exact h
    | 8, _ => exact RdB.mono h hb
    | 9, _ => exact OwnB.kept h hb
    | j' + 10, hj' => exact absurd hj' (by omega)
set_option maxRecDepth 100000 in
set_option maxHeartbeats 4000000 in
theorem rend_ok (v : V8) (rv : Value) (r : List Int) (M : Nat) (w : World) (hv : v.ok) (hr : RdB w rv r) (hrb : Bytes r) (hrl : r.length = M % 64) (hN : M ≤ 200000) :
    Calls Tryd.prog 8 #[.agg #[.int .u32 v.a, .int .u32 v.b, .int .u32 v.c, .int .u32 v.d, .int .u32 v.e, .int .u32 v.f, .int .u32 v.g, .int .u32 v.h, rv, .int .i64 M]] w
     fun e w' => e = .returned (.tuple #[.agg (u8s (endF v r M)), .int .i64 0]) ∧ Below w.heap.size w w' := by
  obtain ⟨a, c, rfl⟩ := hr.slice
  have hvd := validB_yes M r.length (by omega) hrl
  obtain ⟨D, hD⟩ : ∃ D, endF v r M = D := ⟨_, rfl⟩
  obtain ⟨G, hG⟩ : ∃ G, blocksF v (r ++ tailF M) = G := ⟨_, rfl⟩
  have hGok := Lib.hid (show G.ok by rw [← hG]; exact blocksF_ok _ _ hv)
  have hWD := Lib.hid (show writtenF G = D by rw [← hG, ← hD, tail_ending r M hrl]; rfl)
  have hDl : D.length = 32 := by rw [← hD]; exact writtenN_length _ 8
  obtain ⟨DA, hDA⟩ : ∃ DA, u8s D = DA := ⟨_, rfl⟩
  have hi := Lib.hid (show (Tryd.prog.info? 33).map (·.size) = some DA.size from by rw [← hDA, u8s_size, hDl]; kernel_rfl)
  have hs := Lib.hid (show (u8s (zerosB 32)).size = DA.size from by rw [← hDA, u8s_size, u8s_size, hDl, zerosB_length])
  have hone := Lib.hid (show DA.all (·.oneCell') = true by rw [← hDA]; exact u8s_one _)
  have hwr := fun wi => rwritten_G G D wi hGok.out hWD.out
  rw [hDA] at hwr
  have hwr := Lib.hid hwr
  rw [hD, hDA]
  clear hGok hWD
  have hzt := zT_lt M
  have hab := Lib.hid (bytes_append _ _ hrb (tailF_bytes M (by omega)))
  have hal : Hid ((r ++ tailF M).length ≤ 1000000) := Lib.hid (by rw [List.length_append, tailF_length]; omega)
  have hr' := Lib.hid hr; have hG' := Lib.hid hG; have hv' := Lib.hid hv
  have hrl64 : r.length < 64 := by omega
  clear hr hG hrb hrl hv hD hDl hDA
  generalize hrn : r.length = rn at *
  have hrn' := Lib.hid hrn; clear hrn
  go_enter Tryd.func8, Tryd.ntmps8
  go_upto_region 3 with (go_at_call 23; refine (rvalid_any v _ rn M _ ⟨a, c, rfl⟩).mono ?_; rintro e w1 ⟨rfl, hb1⟩; obtain ⟨hc1, hf1⟩ := bcell hb1; have hs1 := fun b (h : b < _) => Nat.lt_of_lt_of_le h hb1.size; have hb1' := Lib.hid hb1; clear hb1)
  obtain ⟨hB1, hz1, hrow1⟩ := below2 w _ _ hb1'.out
  have hrow0 := (hb1'.out.block w.heap.size (by simp; omega)).trans ((hp1 _ _ _ (by simp)).trans (heap_alloc_new w _))
  have k1 := Lib.hid (show w1.heap[w.heap.size + 1]? = some (.cells (u8s (zerosB 32)) 33 (0, 0)) from hrow1); have hB1' := Lib.hid hB1
  have kk : Hid (∀ wz, Below w1.heap.size w1 wz → wz.cell? ⟨w.heap.size, 0, none⟩ = some (.int .u32 v.a) ∧ wz.cell? ⟨w.heap.size, 1, none⟩ = some (.int .u32 v.b) ∧ wz.cell? ⟨w.heap.size, 2, none⟩ = some (.int .u32 v.c) ∧ wz.cell? ⟨w.heap.size, 3, none⟩ = some (.int .u32 v.d) ∧ wz.cell? ⟨w.heap.size, 4, none⟩ = some (.int .u32 v.e) ∧ wz.cell? ⟨w.heap.size, 5, none⟩ = some (.int .u32 v.f) ∧ wz.cell? ⟨w.heap.size, 6, none⟩ = some (.int .u32 v.g) ∧ wz.cell? ⟨w.heap.size, 7, none⟩ = some (.int .u32 v.h) ∧ wz.cell? ⟨w.heap.size, 8, none⟩ = some (.slice a rn c) ∧ wz.cell? ⟨w.heap.size, 9, none⟩ = some (.int .i64 M)) := Lib.hid (fun wz h => cells10 ((h.block w.heap.size (by omega)).trans hrow0))
  have kk2 := Lib.hid (fun (wz : World) (cs : Array Value) (h : Below w1.heap.size w1 wz) => cells10 ((setRow_other wz (w.heap.size + 1) w.heap.size cs (by omega)).trans ((h.block w.heap.size (by omega)).trans hrow0)))
  have r1 := Lib.hid (hr'.out.mono hB1'.out)
  obtain ⟨c0, c1, c2, c3, c4, c5, c6, c7, c8, c9⟩ := kk.out w1 (Below.refl _ _)
  clear hc1 hf1 hs1 hb1' hrow1 hrow0 hB1 hvd hr'
  have hgw : w.heap.size < w1.heap.size := by omega
  clear c0 c1 c2 c3 c4 c5 c6 c7 c8 c9
  refine wp_region_fxu 10 enA enU enF (by kernel_rfl) (by kernel_rfl) (by kernel_rfl) (enΦ w1.heap.size w.heap.size #[.int .u32 v.a, .int .u32 v.b, .int .u32 v.c, .int .u32 v.d, .int .u32 v.e, .int .u32 v.f, .int .u32 v.g, .int .u32 v.h] (.slice a rn c) M r (tailF M)) (enG w1.heap.size) (fun wz => Below w1.heap.size w1 wz) (fun _ _ => True) ((Below.refl _ _).drew) (fun _ _ => trivial) (fun i w w' hi h hg => h.trans hg.1) (fun j vs vs' w hj he h => en_congr j vs vs' w hj he h) (fun i j vs w w' hi hj ha hn hinv h hg => en_keep i j vs w w' hi hj ha hn h hg) (fun _ _ _ _ _ _ _ _ _ _ => trivial) ?hstep ?hdone
  case hstep =>
    intro i op vs wz hi hop hinv hpre hd
    match i, hi with
    | 0, _ =>
      simp only [List.getElem?_toArray, List.getElem?_cons_zero, List.getElem?_cons_succ, Option.some.injEq] at hop
      subst hop
      generalize hfr : fxF _ vs fxT _ 0 = fr
      have e : fr.eval (.tmp 1) = .pointer (some ⟨w.heap.size, 0, none⟩) := by rw [← hfr]; exact fx_old 0 (by kernel_rfl)
      clear hfr
      refine fx_val (v := .pointer (some ⟨w.heap.size, 0, none⟩)) (w' := wz) rfl ?_ ⟨rfl, enG_same _ _ _⟩
      unfold execOp
      generalize fr.eval = ev at e ⊢
      simp [go_sem, e]
    | 1, _ =>
      simp only [List.getElem?_toArray, List.getElem?_cons_zero, List.getElem?_cons_succ, Option.some.injEq] at hop
      subst hop
      have h0 : vs 0 = .pointer (some ⟨w.heap.size, 0, none⟩) := hd 0 (by decide)
      generalize hfr : fxF _ vs fxT _ 1 = fr
      have e : fr.eval (.tmp 8) = .pointer (some ⟨w.heap.size, 0, none⟩) := by rw [← hfr]; exact (fx_new (by simp) 1 (by kernel_rfl)).trans h0
      clear hfr
      obtain ⟨c0, c1, c2, c3, c4, c5, c6, c7, c8, c9⟩ := kk.out wz hinv
      exact fx_midD 23 (.tmp 8) rfl rfl w.heap.size 0 e _ _ Tryd.underlying23 rfl (by kernel_rfl) (range_mill c0 c1 c2 c3 c4 c5 c6 c7) ⟨rfl, enG_same _ _ _⟩
    | 2, _ =>
      simp only [List.getElem?_toArray, List.getElem?_cons_zero, List.getElem?_cons_succ, Option.some.injEq] at hop
      subst hop
      refine fx_val (v := .slice (some ⟨wz.heap.size, 0, none⟩) 0 0) (w' := wz.alloc (.cells #[] 5)) rfl ?_ ⟨⟨_, rfl, hinv.size, heap_alloc_new wz _⟩, enG_below hinv.size (below_aD _ _)⟩
      generalize fxF _ vs fxT _ 2 = fr
      unfold execOp
      generalize fr.eval = ev
      simp [go_sem]
    | 3, _ =>
      simp only [List.getElem?_toArray, List.getElem?_cons_zero, List.getElem?_cons_succ, Option.some.injEq] at hop
      subst hop
      generalize hfr : fxF _ vs fxT _ 3 = fr
      have e : fr.eval (.tmp 1) = .pointer (some ⟨w.heap.size, 0, none⟩) := by rw [← hfr]; exact fx_old 3 (by kernel_rfl)
      clear hfr
      refine fx_val (v := .pointer (some ⟨w.heap.size, 8, none⟩)) (w' := wz) rfl ?_ ⟨rfl, enG_same _ _ _⟩
      unfold execOp
      generalize fr.eval = ev at e ⊢
      simp [go_sem, e]
    | 4, _ =>
      simp only [List.getElem?_toArray, List.getElem?_cons_zero, List.getElem?_cons_succ, Option.some.injEq] at hop
      subst hop
      have h3 : vs 3 = .pointer (some ⟨w.heap.size, 8, none⟩) := hd 3 (by decide)
      generalize hfr : fxF _ vs fxT _ 4 = fr
      have e : fr.eval (.tmp 11) = .pointer (some ⟨w.heap.size, 8, none⟩) := by rw [← hfr]; exact (fx_new (by simp) 4 (by kernel_rfl)).trans h3
      clear hfr
      have hcc := kk.out wz hinv
      exact fx_cellD 24 (.tmp 11) rfl rfl w.heap.size 8 e (.slice a rn c) hcc.2.2.2.2.2.2.2.2.1 (Tryd.isAgg24 wz) ⟨rfl, enG_same _ _ _⟩
    | 5, _ =>
      simp only [List.getElem?_toArray, List.getElem?_cons_zero, List.getElem?_cons_succ, Option.some.injEq] at hop
      subst hop
      obtain ⟨g2, h2, hg2, hr2⟩ : ∃ g, vs 2 = .slice (some ⟨g, 0, none⟩) 0 0 ∧ w1.heap.size ≤ g ∧ wz.heap[g]? = some (.cells #[] 5 (0, 0)) := hd 2 (by decide)
      have h4 : vs 4 = .slice a rn c := hd 4 (by decide)
      generalize hfr : fxF _ vs fxT _ 5 = fr
      have e1 : fr.eval (.tmp 10) = .slice (some ⟨g2, 0, none⟩) 0 0 := by rw [← hfr]; exact (fx_new (by simp) 5 (by kernel_rfl)).trans h2
      have e2 : fr.eval (.tmp 12) = .slice a rn c := by rw [← hfr]; exact (fx_new (by simp) 5 (by kernel_rfl)).trans h4
      clear hfr
      obtain ⟨v', w', hrun, o1, o2⟩ := run_appendB wz w1.heap.size 24 24 5 Tryd.underlying24 (by kernel_rfl) (.slice (some ⟨g2, 0, none⟩) 0 0) [] (own_lit0 hr2 hg2) (.slice a rn c) r (r1.out.mono hinv) (by rw [hrn'.out]; simp; omega) hinv.size
      exact fxu_append2 (.tmp 10) (.tmp 12) 24 rfl rfl e1 e2 hrun ⟨o1, (own_lit0 hr2 hg2).below o2 hinv.size, .inl (.inl rfl)⟩
    | 6, _ =>
      simp only [List.getElem?_toArray, List.getElem?_cons_zero, List.getElem?_cons_succ, Option.some.injEq] at hop
      subst hop
      generalize hfr : fxF _ vs fxT _ 6 = fr
      have e : fr.eval (.tmp 1) = .pointer (some ⟨w.heap.size, 0, none⟩) := by rw [← hfr]; exact fx_old 6 (by kernel_rfl)
      clear hfr
      refine fx_val (v := .pointer (some ⟨w.heap.size, 9, none⟩)) (w' := wz) rfl ?_ ⟨rfl, enG_same _ _ _⟩
      unfold execOp
      generalize fr.eval = ev at e ⊢
      simp [go_sem, e]
    | 7, _ =>
      simp only [List.getElem?_toArray, List.getElem?_cons_zero, List.getElem?_cons_succ, Option.some.injEq] at hop
      subst hop
      have h6 : vs 6 = .pointer (some ⟨w.heap.size, 9, none⟩) := hd 6 (by decide)
      generalize hfr : fxF _ vs fxT _ 7 = fr
      have e : fr.eval (.tmp 14) = .pointer (some ⟨w.heap.size, 9, none⟩) := by rw [← hfr]; exact (fx_new (by simp) 7 (by kernel_rfl)).trans h6
      clear hfr
      have hcc := kk.out wz hinv
      exact fx_cellD 3 (.tmp 14) rfl rfl w.heap.size 9 e (.int .i64 (M : Int)) hcc.2.2.2.2.2.2.2.2.2 (Tryd.isAgg3 wz) ⟨rfl, enG_same _ _ _⟩
    | 8, _ =>
      simp only [List.getElem?_toArray, List.getElem?_cons_zero, List.getElem?_cons_succ, Option.some.injEq] at hop
      subst hop
      have h7 : vs 7 = .int .i64 (M : Int) := hd 7 (by decide)
      generalize hfr : fxF _ vs fxT _ 8 = fr
      have e1 : fr.eval (.tmp 15) = .int .i64 (M : Int) := by rw [← hfr]; exact (fx_new (by simp) 8 (by kernel_rfl)).trans h7
      clear hfr
      refine fx_call #[.int .i64 (M : Int)] rfl rfl Tryd.func27 (by kernel_rfl) rfl (by simp [e1]) rfl ((rtail_F M wz (by omega)).mono ?_)
      rintro e9 w9 ⟨ta, tc, rfl, z1, z2⟩
      exact ⟨_, rfl, z1, enG_below hinv.size z2⟩
    | 9, _ =>
      simp only [List.getElem?_toArray, List.getElem?_cons_zero, List.getElem?_cons_succ, Option.some.injEq] at hop
      subst hop
      have h5 : OwnB w1.heap.size 5 wz (vs 5) r := hd 5 (by decide)
      have h8 : RdB wz (vs 8) (tailF M) := hd 8 (by decide)
      generalize hfr : fxF _ vs fxT _ 9 = fr
      have e1 : fr.eval (.tmp 13) = vs 5 := by rw [← hfr]; exact (fx_new (by simp) 9 (by kernel_rfl)).trans rfl
      have e2 : fr.eval (.tmp 16) = vs 8 := by rw [← hfr]; exact (fx_new (by simp) 9 (by kernel_rfl)).trans rfl
      clear hfr
      obtain ⟨v', w', hrun, o1, o2⟩ := run_appendB wz w1.heap.size 24 24 5 Tryd.underlying24 (by kernel_rfl) (vs 5) r h5 (vs 8) (tailF M) h8 (by rw [hrn'.out, tailF_length]; omega) hinv.size
      exact fxu_append2 (.tmp 13) (.tmp 16) 24 rfl rfl e1 e2 hrun ⟨o1, h5.below o2 hinv.size, .inl (.inr rfl)⟩
    | i' + 10, hi' => exact absurd hi' (by omega)
  case hdone =>
    intro vs w5 hinv hf
    have h1 : vs 1 = .agg #[.int .u32 v.a, .int .u32 v.b, .int .u32 v.c, .int .u32 v.d, .int .u32 v.e, .int .u32 v.f, .int .u32 v.g, .int .u32 v.h] := hf 1 (by decide) (by decide)
    have h9 : OwnB w1.heap.size 5 w5 (vs 9) (r ++ tailF M) := hf 9 (by decide) (by decide)
    obtain ⟨xa, xc, hx⟩ := h9.rd.slice
    have rd4 := Lib.hid h9.rd
    rw [hx] at rd4
    simp only [fxF, fxT, if_true, List.drop_succ_cons, List.drop_zero, List.getElem?_toArray, List.getElem?_cons_zero, List.getElem?_cons_succ, Option.bind_some]
    rw [h1, hx]
    generalize (r ++ tailF M).length = xn at rd4 ⊢
    have hBx := Lib.hid hinv
    have hz4 := hinv.size
    have k5 := Lib.hid ((hinv.block (w.heap.size + 1) hz1).trans k1.out)
    clear hf h1 hx h9 hinv
    generalize vs 0 = z0 at *
    generalize vs 2 = z2 at *
    generalize vs 3 = z3 at *
    generalize vs 4 = z4 at *
    generalize vs 5 = z5 at *
    generalize vs 6 = z6 at *
    generalize vs 7 = z7 at *
    generalize vs 8 = z8 at *
    go_wp2_with (first
      | (go_at_call 24; (with_reducible refine (rblocks_any v G _ _ _ hv'.out hab.out rd4.out hal.out hG'.out).mono ?_); rintro e w6 ⟨rfl, hb5⟩; replace hBx := Lib.hid (hBx.out.trans (hb5.mono hz4)); have k6 := Lib.hid ((hb5.block (w.heap.size + 1) (Nat.lt_of_lt_of_le hz1 hz4)).trans k5.out); have hz5 := hBx.out.size; clear hb5)
      | (go_at_call 26; (with_reducible refine (hwr.out _).mono ?_); rintro e w7 ⟨rfl, hb6⟩; replace hBx := Lib.hid (hBx.out.trans (hb6.mono hz5)); have k7 := Lib.hid ((hb6.block (w.heap.size + 1) (Nat.lt_of_lt_of_le hz1 hz5)).trans k6.out); clear hb6)
      | (refine wpList_store_row rfl 33 _ _ rfl (w.heap.size + 1) DA rfl rfl 33 _ k7.out hi.out hs.out hone.out ?_))
    try simp only [Exit.inBlock, Exit.then]
    exact bodyPost_ret (results_row_tmp rfl _ _ (w.heap.size + 1) 33 _ _ _ rfl (setRow_heap _ _ _ _ _ _ k7.out) Tryd.underlying33 rfl hi.out) rfl ⟨rfl, below_setRow' (hB1'.out.trans (hBx.out.mono (by omega))) (Nat.le_succ _) _⟩
end Go.Proofs.YtdlblhoaddfanaaDoor
namespace Go.Proofs.YtdlblhoaddfanaaDoor
open Go.RowKit Go.YtdlblhoaddfanaaDoor
set_option linter.unusedVariables false
theorem setRow_sameD {w : World} {g : Nat} {cs : Array Value} {t : TypeId} {fr : Nat × Nat} (h : w.heap[g]? = some (.cells cs t fr)) : w.setRow g cs = w := by
  have e : (w.setRow g cs).heap = w.heap := by
    apply Array.ext_getElem?
    intro i
    by_cases hi : i = g
    · subst hi; rw [setRow_heap _ _ _ cs _ _ h, h]
    · exact setRow_other w g i cs hi
  unfold World.setRow at e ⊢
  simp only at e
  rw [e]
theorem run_clone {P : Program} (w : World) (B : Nat) (t ty e : TypeId) (i : TypeInfo) (z : Value) (size bytes : Nat) (ht : P.underlying t = some (.slice e)) (hi : P.info? e = some i) (hz : i.zero = some z)
    (hsize : i.size = size) (hby : i.bytes = bytes) (hzs : z.cells.size = size) (hsz : 0 < size) (g : Nat) (hg : w.heap[g]? = some (.cells #[] e (0, 0))) (hB : B ≤ g)
    (a : Addr) (m c : Nat) (news : List Value) (hl : news.length = m * size) (hnews : ∀ j u, news[j]? = some u → w.cell? (a.add j) = some u) (h1 : ∀ u ∈ news, u.oneCell' = true)
    (h63 : m ≤ maxLen) (hbytes : m * bytes ≤ 140737488355328) :
    ∃ v' w', (Builtin.append_ #[t, t] ty #[.slice (some ⟨g, 0, none⟩) 0 0, .slice (some a) m c]).run P w = .ok v' w' ∧ w'.ownsRow B e size v' m news ∧ Below w.heap.size w w' := by
  subst hsize
  subst hby
  have hgl := (Array.getElem?_eq_some_iff.1 hg).1
  by_cases hm : m = 0
  · subst hm
    have hn : news = [] := List.eq_nil_of_length_eq_zero (by simpa using hl)
    subst hn
    have hr := run_append_room (P := P) w t ty e i ht hi g 0 0 #[] hg a 0 c [] hl hnews h1 (Nat.le_refl _) (by simp)
    have hs : w.setRow g #[] = w := setRow_sameD hg
    refine ⟨_, _, hr, ?_, ?_⟩
    · simp only [List.append_nil, List.take_nil, List.drop_nil, List.append_nil]
      rw [show ([] : List Value).toArray = #[] from rfl]
      first
        | (rw [hs]; exact ⟨by simp, .inr ⟨g, 0, #[], rfl, hB, hg, Nat.le_refl _, by decide, by simp, by simp⟩⟩)
        | (refine ⟨by simp, .inr ⟨g, 0, _, rfl, hB, setRow_heap w g #[] _ e _ hg, Nat.le_refl _, by decide, by simp, by simp⟩⟩)
    · have : (w.setRow g (([] : List Value)).toArray) = w := hs
      first
        | (simp only [List.append_nil, List.take_nil, List.drop_nil]; rw [this]; exact Below.refl _ _)
        | (rw [show _ = w from hs]; exact Below.refl _ _)
  · have hmx := h63
    unfold maxLen at hmx
    have hr := run_append_grow (P := P) w t ty e i z ht hi hz ⟨g, 0, none⟩ 0 0 [] (by simp) (fun j u h => by cases h) a m c news hl hnews (by omega) (by omega) (growslice_fits (by omega) (by simpa using hbytes))
    have hge := grownCap_ge w (0 + m) 0 e
    have hcm : grownCap w (0 + m) 0 e ≤ maxLen := grownCap_le_maxLen w (0 + m) 0 e (by simpa using h63)
    refine ⟨_, _, hr, ⟨by simpa using hl, .inr ⟨w.heap.size, grownCap w (0 + m) 0 e, _, by simp, Nat.le_of_lt (Nat.lt_of_le_of_lt hB hgl), heap_alloc_new w.drew _, by simpa using hge, hcm, ?_, ?_⟩⟩, ((Below.refl w.heap.size w).drew).alloc (Nat.le_refl _) _⟩
    · simp only [Array.size_append, List.size_toArray, size_zeroCells, hzs, hl, ← Nat.add_mul, List.length_nil, Nat.zero_add, List.nil_append, Array.size_empty]
      have hge' : m ≤ grownCap w m 0 e := by simpa using hge
      rw [show m + (grownCap w m 0 e - m) = grownCap w m 0 e by omega]
    · simp only [Array.toList_append, List.append_assoc, List.nil_append]
      first | (rw [← hl]; exact List.take_left) | simp [hl]
theorem clone_B {P : Program} (w : World) (B : Nat) (t ty e : TypeId) (ht : P.underlying t = some (.slice e)) (hinfo : (P.info? e).map (fun i => (i.zero, i.size, i.bytes)) = some (some (.int .u8 0), 1, 1))
    (g : Nat) (hg : w.heap[g]? = some (.cells #[] e (0, 0))) (hB : B ≤ g) (sv : Value) (l : List Int) (hr : RdB w sv l) (hlen : l.length ≤ 1000000) :
    ∃ v' w', (Builtin.append_ #[t, t] ty #[.slice (some ⟨g, 0, none⟩) 0 0, sv]).run P w = .ok v' w' ∧ OwnB B e w' v' l ∧ Below w.heap.size w w' := by
  obtain ⟨i, hi, hz, hs, hb⟩ := info_parts hinfo
  have how : OwnB B e w (.slice (some ⟨g, 0, none⟩) 0 0) [] := ⟨rfl, .inr ⟨g, 0, _, rfl, hB, hg, Nat.le_refl _, by decide, rfl, rfl⟩⟩
  rcases hr with ⟨sa, sc, rfl, hsn, rfl⟩ | ⟨b, o, c, rfl, h1, h2, h3, h4⟩
  · cases sa with
    | some sa =>
      obtain ⟨v', w', hrun, ho, hbe⟩ := run_clone (P := P) w B t ty e i (.int .u8 0) 1 1 ht hi hz hs hb rfl (by omega) g hg hB sa 0 sc (u8v []) (by rw [u8v_length]; rfl) (fun k x hx => by cases hx) (u8v_one []) (by decide) (by omega)
      exact ⟨v', w', hrun, ho, hbe⟩
    | none =>
      obtain rfl := hsn rfl
      exact ⟨_, w, run_append_owned_none (P := P) (w := w) B t ty e i 1 ht hi _ 0 (u8v []) how, how, Below.refl _ _⟩
  · obtain ⟨v', w', hrun, ho, hbe⟩ := run_clone (P := P) w B t ty e i (.int .u8 0) 1 1 ht hi hz hs hb rfl (by omega) g hg hB ⟨b, o, none⟩ l.length c (u8v l) (by rw [u8v_length]; omega) (RdB.src h4) (u8v_one l) (by unfold maxLen; omega) (by omega)
    exact ⟨v', w', hrun, ho, hbe⟩
def Z8 : V8 := ⟨0, 0, 0, 0, 0, 0, 0, 0⟩
theorem validB_of {N : Int} {n : Nat} (h : validB N n = true) : ∃ M : Nat, N = (M : Int) ∧ M ≤ 200000 ∧ n = M % 64 := by
  unfold validB at h
  simp only [Bool.and_eq_true, decide_eq_true_eq] at h
  refine ⟨N.toNat, ?_, ?_, ?_⟩ <;> omega
/-- What Add answers, in the program and in the reference. -/
structure AddP (Tg Tf : TypeId) (V : V8) (N : Int) (r l : List Int) (G : V8) (R : List Int) (NN E : Int) : Prop where
  p : ∀ (rv bv : Value) (wz : World), RdB wz rv r → RdB wz bv l → GlO Tg Tf wz → Calls Tryd.prog 5 #[millV V rv N, bv] wz fun e w' => ∃ q, e = .returned (.tuple #[millV G q NN, .int .i64 E]) ∧ OwnB wz.heap.size 5 w' q R ∧ Below wz.heap.size wz w'
  q : ∀ (rv bv : Value) (wz : World), RdB wz rv r → RdB wz bv l → Calls Tryd.prog 6 #[millV V rv N, bv] wz fun e w' => ∃ q, e = .returned (.tuple #[millV G q NN, .int .i64 E]) ∧ RdB w' q R ∧ NewB wz.heap.size q ∧ Below wz.heap.size wz w'
  len : R.length ≤ 1000000
theorem rd_nilD (w : World) : RdB w (.slice none 0 0) [] := .inl ⟨none, 0, rfl, fun _ => rfl, rfl⟩
theorem add_packD {Tg Tf : TypeId} (V : V8) (N : Int) (r l : List Int) (hV : V.ok) (hr : Bytes r) (hl : Bytes l) (nl : l.length ≤ 1500) : ∃ G R NN E, AddP Tg Tf V N r l G R NN E := by
  cases hv : validB N r.length with
  | false =>
    refine ⟨Z8, [], 0, 8, ?_, ?_, by simp⟩
    · intro rv bv wz h1 h2 h3
      obtain ⟨a, c, rfl⟩ := h1.slice
      exact (add_bad V _ r.length N bv wz ⟨a, c, rfl⟩ hv).mono fun e w' ⟨he, hb⟩ => ⟨_, he, OwnB.nil _ _ _, hb⟩
    · intro rv bv wz h1 h2
      obtain ⟨a, c, rfl⟩ := h1.slice
      exact (radd_bad V _ r.length N bv wz ⟨a, c, rfl⟩ hv).mono fun e w' ⟨he, hb⟩ => ⟨_, he, rd_nilD _, NewB.nil _ _ _, hb⟩
  | true =>
    obtain ⟨M, rfl, hM, hn⟩ := validB_of hv
    by_cases hm : 200000 - (M : Int) < (l.length : Int)
    · refine ⟨Z8, [], 0, 4, ?_, ?_, by simp⟩
      · intro rv bv wz h1 h2 h3
        obtain ⟨a, c, rfl⟩ := h1.slice
        obtain ⟨ba, bc, rfl⟩ := h2.slice
        exact (add_many V _ r.length M ba l.length bc wz ⟨a, c, rfl⟩ hv hm (by omega) (by omega)).mono fun e w' ⟨he, hb⟩ => ⟨_, he, OwnB.nil _ _ _, hb⟩
      · intro rv bv wz h1 h2
        obtain ⟨a, c, rfl⟩ := h1.slice
        obtain ⟨ba, bc, rfl⟩ := h2.slice
        exact (radd_many V _ r.length M ba l.length bc wz ⟨a, c, rfl⟩ hv hm (by omega) (by omega)).mono fun e w' ⟨he, hb⟩ => ⟨_, he, rd_nilD _, NewB.nil _ _ _, hb⟩
    · refine ⟨blocksF V (r ++ l), restF (r ++ l), ((M + l.length : Nat) : Int), 0, ?_, ?_, by rw [restF_length]; omega⟩
      · intro rv bv wz h1 h2 h3
        exact add_ok (Tg := Tg) V _ rv r M bv l wz hV h1 h2 hr hl hn (by omega) rfl h3.1
      · intro rv bv wz h1 h2
        exact radd_ok V _ rv r M bv l wz hV h1 h2 hr hl hn (by omega) rfl
/-- What End answers, in the program and in the reference. -/
structure EndP (Tg Tf : TypeId) (V : V8) (N : Int) (r : List Int) (D : List Int) (E : Int) : Prop where
  p : ∀ (rv : Value) (wz : World), RdB wz rv r → GlO Tg Tf wz → Calls Tryd.prog 7 #[millV V rv N] wz fun e w' => e = .returned (.tuple #[.agg (u8s D), .int .i64 E]) ∧ Below wz.heap.size wz w'
  q : ∀ (rv : Value) (wz : World), RdB wz rv r → Calls Tryd.prog 8 #[millV V rv N] wz fun e w' => e = .returned (.tuple #[.agg (u8s D), .int .i64 E]) ∧ Below wz.heap.size wz w'
  len : D.length = 32
theorem end_packD {Tg Tf : TypeId} (V : V8) (N : Int) (r : List Int) (hV : V.ok) (hr : Bytes r) : ∃ D E, EndP Tg Tf V N r D E := by
  cases hv : validB N r.length with
  | false =>
    refine ⟨zerosB 32, 8, ?_, ?_, zerosB_length 32⟩
    · intro rv wz h1 h3
      obtain ⟨a, c, rfl⟩ := h1.slice
      exact end_bad V _ r.length N wz ⟨a, c, rfl⟩ hv
    · intro rv wz h1
      obtain ⟨a, c, rfl⟩ := h1.slice
      exact rend_bad V _ r.length N wz ⟨a, c, rfl⟩ hv
  | true =>
    obtain ⟨M, rfl, hM, hn⟩ := validB_of hv
    refine ⟨endF V r M, 0, ?_, ?_, writtenN_length _ 8⟩
    · intro rv wz h1 h3
      exact end_ok (Tg := Tg) V rv r M wz hV h1 hr hn hM h3.1
    · intro rv wz h1
      exact rend_ok V rv r M wz hV h1 hr hn hM
/-- Bytes of the block k were changed, and nothing else. -/
def Inc (k : Nat) (w w' : World) : Prop :=
  Below k w w' ∧ w'.heap.size = w.heap.size ∧ (∀ g, g ≠ k → w'.heap[g]? = w.heap[g]?) ∧ ∀ cs : Array Value, w.heap[k]? = some (.cells cs 5 (0, 0)) → ∃ cs' : Array Value, w'.heap[k]? = some (.cells cs' 5 (0, 0)) ∧ ∀ (i : Nat) (x : Int), cs[i]? = some (Value.int .u8 x) → ∃ y : Int, cs'[i]? = some (Value.int .u8 y)
theorem Inc.refl (k : Nat) (w : World) : Inc k w w := ⟨Below.refl _ _, rfl, fun _ _ => rfl, fun cs h => ⟨cs, h, fun i x hx => ⟨x, hx⟩⟩⟩
theorem Inc.trans {k : Nat} {a b c : World} (h : Inc k a b) (h' : Inc k b c) : Inc k a c :=
  ⟨h.1.trans h'.1, h'.2.1.trans h.2.1, fun g hg => (h'.2.2.1 g hg).trans (h.2.2.1 g hg), fun cs hc => (by
    obtain ⟨c1, h1, h2⟩ := h.2.2.2 cs hc
    obtain ⟨c3, h3, h4⟩ := h'.2.2.2 c1 h1
    exact ⟨c3, h3, fun i x hx => (by obtain ⟨y, hy⟩ := h2 i x hx; exact h4 i y hy)⟩)⟩
theorem Inc.row {k : Nat} {w w' : World} (h : Inc k w w') {g : Nat} {o : Obj} (hg : w.heap[g]? = some o) (hne : g ≠ k) : w'.heap[g]? = some o := (h.2.2.1 g hne).trans hg
theorem Inc.rd {k : Nat} {w w' : World} (h : Inc k w w') {v : Value} {l : List Int} (hr : RdB w v l) {B : Nat} (hv : NewB B v) (hk : k < B ∨ w.heap.size ≤ k) : RdB w' v l := by
  rcases hr with hn | ⟨b, o, c, rfl, h1, h2, h3, h4⟩
  · exact .inl hn
  · have := hv b o _ _ rfl
    refine .inr ⟨b, o, c, rfl, h1, h2, by rw [h.2.1]; exact h3, fun i hi => ?_⟩
    have := h4 i hi
    unfold World.cell? at this ⊢
    rw [h.2.2.1 b (by omega)]
    exact this
theorem Inc.set {k : Nat} {w : World} {cs : Array Value} (hk : w.heap[k]? = some (.cells cs 5 (0, 0))) (i : Nat) (y : Int) : Inc k w (w.setCell ⟨k, i, none⟩ (.int .u8 y)) := by
  refine ⟨(Below.refl k w).setCell (p := ⟨k, i, none⟩) (Nat.le_refl k) _, World.size_setCell w ⟨k, i, none⟩ _, fun g hg => setCell_rows k i _ g hg, fun cs' hcs' => ?_⟩
  · rw [hk] at hcs'
    cases hcs'
    refine ⟨_, setCell_row hk i _, fun j x hx => ?_⟩
    by_cases e : i = j
    · subst e
      have hj := (Array.getElem?_eq_some_iff.1 hx).1
      exact ⟨y, by simp [hj]⟩
    · exact ⟨x, by simp [e]; exact hx⟩
theorem Inc.below {k B : Nat} {w w' : World} (h : Inc k w w') (hB : B ≤ k) {w0 : World} (h0 : Below B w0 w) : Below B w0 w' := h0.trans (h.1.mono hB)
theorem own_newB {B : Nat} {E : TypeId} {w : World} {v : Value} {l : List Int} (h : OwnB B E w v l) : NewB B v := by
  intro b o n c e
  rcases h.2 with ⟨rfl, _⟩ | ⟨g, cap, cur, rfl, hb, _⟩
  · cases e
  · cases e; exact hb
theorem own_oldB {B : Nat} {E : TypeId} {w : World} {a : Option Addr} {n c : Nat} {l : List Int} (h : OwnB B E w (.slice a n c) l) : ∀ g, a = some ⟨g, 0, none⟩ → B ≤ g ∧ g < w.heap.size := by
  intro k e
  rcases h.2 with ⟨e2, _⟩ | ⟨g, cap, cur, e2, hb, hg, _⟩
  · rw [e] at e2; cases e2
  · rw [e] at e2; cases e2; exact ⟨hb, (Array.getElem?_eq_some_iff.1 hg).1⟩
/-- A slice of bytes of one's own, whatever they are. -/
def U8S (w : World) (v : Value) (n : Nat) : Prop := ∃ a c, v = .slice a n c ∧ (0 < n → ∃ g cs, a = some ⟨g, 0, none⟩ ∧ w.heap[g]? = some (.cells cs 5 (0, 0)) ∧ ∀ i, i < n → ∃ x, cs[i]? = some (Value.int .u8 x))
theorem U8S.inc {k : Nat} {w w' : World} (h : Inc k w w') {v : Value} {n : Nat} (hv : U8S w v n) : U8S w' v n := by
  obtain ⟨a, c, rfl, hh⟩ := hv
  refine ⟨a, c, rfl, fun hn => ?_⟩
  obtain ⟨g, cs, rfl, h1, h2⟩ := hh hn
  by_cases e : g = k
  · subst e
    obtain ⟨cs', h3, h4⟩ := h.2.2.2 cs h1
    exact ⟨g, cs', rfl, h3, fun i hi => (by obtain ⟨x, hx⟩ := h2 i hi; exact h4 i x hx)⟩
  · exact ⟨g, cs, rfl, h.row h1 e, h2⟩
theorem U8S.mono {w w' : World} {v : Value} {n : Nat} (hv : U8S w v n) (hb : Below w.heap.size w w') : U8S w' v n := by
  obtain ⟨a, c, rfl, hh⟩ := hv
  refine ⟨a, c, rfl, fun hn => ?_⟩
  obtain ⟨g, cs, rfl, h1, h2⟩ := hh hn
  exact ⟨g, cs, rfl, rowD h1 hb, h2⟩
theorem bk_of {w : World} {a : Option Addr} {n c B M : Nat} (h : U8S w (.slice a n c) n) (hk : ∀ g, a = some ⟨g, 0, none⟩ → B ≤ g ∧ g < M) (hB : B ≤ w.heap.size) :
    ∃ k, (0 < n → a = some ⟨k, 0, none⟩ ∧ ∃ cs : Array Value, w.heap[k]? = some (.cells cs 5 (0, 0)) ∧ ∀ i, i < n → ∃ x : Int, cs[i]? = some (Value.int .u8 x)) ∧ B ≤ k ∧ (k < M ∧ (∃ cs : Array Value, w.heap[k]? = some (.cells cs 5 (0, 0))) ∨ w.heap.size ≤ k) := by
  obtain ⟨a', c', e, hh⟩ := h
  cases e
  by_cases h0 : 0 < n
  · obtain ⟨g, cs, rfl, h1, h2⟩ := hh h0
    exact ⟨g, fun _ => ⟨rfl, cs, h1, h2⟩, (hk g rfl).1, .inl ⟨(hk g rfl).2, cs, h1⟩⟩
  · exact ⟨w.heap.size, fun h => absurd h h0, hB, .inr (Nat.le_refl _)⟩
theorem bk_ne {w : World} {k M g : Nat} {ds : Array Value} {T : TypeId} (h : k < M ∧ (∃ cs : Array Value, w.heap[k]? = some (.cells cs 5 (0, 0))) ∨ w.heap.size ≤ k) (hg : w.heap[g]? = some (.cells ds T (0, 0))) (hT : T ≠ 5) : g ≠ k := by
  intro e
  subst e
  rcases h with ⟨_, cs, h1⟩ | h1
  · rw [hg] at h1
    injection h1 with h1
    injection h1 with _ h2 _
    exact hT h2
  · have := (Array.getElem?_eq_some_iff.1 hg).1
    omega
theorem bk_lt {w : World} {k M B : Nat} (h : k < M ∧ (∃ cs : Array Value, w.heap[k]? = some (.cells cs 5 (0, 0))) ∨ w.heap.size ≤ k) (hM : M ≤ B) : k < B ∨ w.heap.size ≤ k := h.imp (fun x => Nat.lt_of_lt_of_le x.1 hM) id
theorem wpList_eqID {P : Program} {ops : Array Oper} {rest : List Oper} {o : Oper} {a : Act} {w : World} {Q : Exit → Act → World → Prop} (hw : Region.wanted o (yielded ops a.tmps) = true) (t elem : TypeId) (x y : Operand) (ho : o.op = .binOp .eql t x y t) (ht : P.underlying t = some (.array 32 elem)) (he : P.underlying elem = some (.int .u8)) (hs : (P.info? elem).map (·.size) = some 1) (h0 : P.eqGuardType P.depth t = false)
    (D : List Int) (hD : D.length = 32) (hx : a.eval x = .agg (u8s D)) (hy : a.eval y = .agg (u8s D)) (h : wpList P ops Q rest (a.put o.dst (.bool true)) w) : wpList P ops Q (o :: rest) a w :=
  wpList_step fun K hK => by
    rw [if_pos hw]
    have hg := run_eqGuard_agg (P := P) w .eql t x y (u8s D) (u8s D) h0
    have hq := run_equalArr (P := P) w 9998 t elem 32 ht he hs D D hD hD
    unfold Oper.wp execOp
    generalize a.eval = ev at *
    simp only [ho]
    simp [go_sem, hx, hy, hg, hq]
    exact hK _ _ h
theorem own_u8s {B : Nat} {w : World} {v : Value} {l : List Int} (h : OwnB B 5 w v l) : U8S w v l.length := by
  rcases h.2 with ⟨rfl, h0⟩ | ⟨g, cap, cur, rfl, hb, hg, hn, hm, hs, ht⟩
  · rw [h0]; exact ⟨none, 0, rfl, fun h => absurd h (Nat.lt_irrefl 0)⟩
  · refine ⟨_, cap, rfl, fun _ => ⟨g, cur, rfl, hg, fun i hi => ?_⟩⟩
    have hx := u8v_get l i hi
    rw [← ht, List.getElem?_take, if_pos (by simpa using hi)] at hx
    exact ⟨_, by simpa using hx⟩
end Go.Proofs.YtdlblhoaddfanaaDoor
namespace Go.Proofs.YtdlblhoaddfanaaDoor
open Go.RowKit Go.YtdlblhoaddfanaaDoor
set_option linter.unusedVariables false
theorem ownB_setRowT {B : Nat} {E T : TypeId} {w : World} {v : Value} {l : List Int} (h : OwnB B E w v l) {g : Nat} {cs : Array Value} {fr : Nat × Nat} (hg : w.heap[g]? = some (.cells cs T fr)) (hT : T ≠ E) (cs' : Array Value) : OwnB B E (w.setRow g cs') v l := by
  refine ⟨h.1, ?_⟩
  rcases h.2 with hn | ⟨k, cap, cur, rfl, hbg, hk, rest⟩
  · exact .inl hn
  · refine .inr ⟨k, cap, cur, rfl, hbg, (setRow_other w g k cs' (fun e => ?_)).trans hk, rest⟩
    subst e
    rw [hg] at hk
    injection hk with hk
    injection hk with _ h2 _
    exact hT h2
end Go.Proofs.YtdlblhoaddfanaaDoor

/- Texts that the row stands on, part 3. -/
import Derived.Test.YtdlblhoaddfanaaDoorRSumsDq02
import Derived.Test.YtdlblhoaddfanaaDoorTie
import Derived.ProofKit
import Derived.LaidMore
import Derived.OpenShut
import Derived.OpenVars
import Derived.Stop.Joined
import Derived.ChangeSlices
namespace Go
namespace YtdlblhoaddfanaaDoor
set_option linter.unusedVariables false
section
variable {P : Program} {ops : Array Oper} {md : Region.Mode} {Q : Exit → Act → World → Prop}
/-- What an operation that ends well leaves: a value and a world, of which R is true. -/
def fxUpon (P : Program) (R : Value → World → Prop) : Result Next → Prop
  | .ok (.value v) w' => R v w'
  | .ok .skip w' => R undef w'
  | .ok (.enter f args) w' => Calls P f args w' fun e w'' => ∃ v, e = .returned v ∧ R v w''
  | _ => False
def FxStep (P : Program) (ops : Array Oper) (o : Oper) (a : Act) (w : World) (R : Value → World → Prop) : Prop :=
  if Region.wanted o (yielded ops a.tmps) = true then fxUpon P R ((execOp a.eval o).run P w) else R undef w
theorem fx_wpOp {i : Nat} {o : Oper} {a : Act} {w : World} {R : Value → World → Prop} {K : Act → World → Prop} (hi : ops[i]? = some o) (h : FxStep P ops o a w R) (hK : ∀ v w', R v w' → K (a.put o.dst v) w') : wpOp P ops Q i K a w := by
  unfold wpOp
  simp only [hi]
  unfold FxStep at h
  split
  · rename_i hw
    rw [if_pos hw] at h
    refine .inl ?_
    unfold Oper.wp
    generalize (execOp a.eval o).run P w = r at h
    cases r with
    | halt x w' => cases x <;> exact h.elim
    | ok nx w' =>
      cases nx with
      | value v => exact hK v w' h
      | skip => exact hK undef w' h
      | defer d => exact h.elim
      | row r a => exact h.elim
      | enter f args =>
        refine Calls.mono h fun e w'' he => ?_
        obtain ⟨v, rfl, hR⟩ := he
        exact hK v w'' hR
      | _ => exact h.elim
  · rename_i hw
    rw [if_neg hw] at h
    exact hK undef w h
/-- The frame: those of the first k operations that L names have put their values. -/
def fxF (ops : Array Oper) (vs : Nat → Value) (L : Nat → Bool) (a0 : Act) : Nat → Act
  | 0 => a0
  | k + 1 => if L k = true then (fxF ops vs L a0 k).put ((ops[k]?).bind (·.dst)) (vs k) else fxF ops vs L a0 k
abbrev fxT : Nat → Bool := fun _ => true
theorem put_tmps_ne (a : Act) (x : Option Tmp) (v : Value) (t : Tmp) (h : x ≠ some t) : (a.put x v).tmps[t]? = a.tmps[t]? := by
  cases x with
  | none => rfl
  | some d =>
    have hne : d ≠ t := fun e => h (by rw [e])
    simp [Act.put, Array.getElem?_setIfInBounds_ne hne]
theorem put_tmps_congr (a b : Act) (x : Option Tmp) (v : Value) (t : Tmp) (h : a.tmps[t]? = b.tmps[t]?) : (a.put x v).tmps[t]? = (b.put x v).tmps[t]? := by
  cases x with
  | none => exact h
  | some d =>
    by_cases e : d = t
    · subst e
      simp only [Act.put, Array.getElem?_setIfInBounds, if_true]
      have h1 : d < a.tmps.size ↔ d < b.tmps.size := by
        constructor
        · intro hl
          rw [Array.getElem?_eq_getElem hl] at h
          exact (Array.getElem?_eq_some_iff.1 h.symm).1
        · intro hl
          rw [Array.getElem?_eq_getElem hl] at h
          exact (Array.getElem?_eq_some_iff.1 h).1
      by_cases hl : d < a.tmps.size
      · rw [if_pos hl, if_pos (h1.1 hl)]
      · rw [if_neg hl, if_neg (fun h2 => hl (h1.2 h2))]
    · simp only [Act.put, Array.getElem?_setIfInBounds_ne e]; exact h
theorem eval_tmps (a b : Act) (x : Operand) (h : ∀ t, x = .tmp t → a.tmps[t]? = b.tmps[t]?) : a.eval x = b.eval x := by
  cases x with
  | tmp t => simp only [Act.eval, Array.getD_eq_getD_getElem?, h t rfl]
  | _ => rfl
/-- A slot that the operation i looks at: it has what the lexical order gives. -/
theorem fxF_look (vs : Nat → Value) (L : Nat → Bool) (a0 : Act) (n i : Nat) (hi : i ≤ n) (t : Tmp) (hl : ∀ j, j < n → (ops[j]?).bind (·.dst) = some t → (j < i → L j = true) ∧ (i ≤ j → L j = false)) :
    (fxF ops vs L a0 n).tmps[t]? = (fxF ops vs fxT a0 i).tmps[t]? := by
  have h1 : ∀ k, k ≤ i → (fxF ops vs L a0 k).tmps[t]? = (fxF ops vs fxT a0 k).tmps[t]? := by
    intro k
    induction k with
    | zero => intro _; rfl
    | succ k ih =>
      intro hk
      have ih := ih (by omega)
      simp only [fxF, fxT, if_true]
      by_cases hd : (ops[k]?).bind (·.dst) = some t
      · rw [if_pos ((hl k (by omega) hd).1 (by omega))]
        exact put_tmps_congr _ _ _ _ _ ih
      · rw [put_tmps_ne _ _ _ _ hd]
        split
        · rw [put_tmps_ne _ _ _ _ hd]; exact ih
        · exact ih
  have h2 : ∀ d, i + d ≤ n → (fxF ops vs L a0 (i + d)).tmps[t]? = (fxF ops vs L a0 i).tmps[t]? := by
    intro d
    induction d with
    | zero => intro _; rfl
    | succ d ih =>
      intro hk
      rw [← ih (by omega)]
      show (fxF ops vs L a0 (i + d + 1)).tmps[t]? = _
      simp only [fxF]
      split
      · rename_i hL
        refine put_tmps_ne _ _ _ _ fun hd => ?_
        rw [(hl (i + d) (by omega) hd).2 (by omega)] at hL; cases hL
      · rfl
  have := h2 (n - i) (by omega)
  rw [show i + (n - i) = n by omega] at this
  rw [this, h1 i (Nat.le_refl _)]
theorem fxF_agree (vs vs' : Nat → Value) (L L' : Nat → Bool) (a0 : Act) (k : Nat) (h : ∀ j, j < k → L j = L' j ∧ (L j = true → vs j = vs' j)) : fxF ops vs L a0 k = fxF ops vs' L' a0 k := by
  induction k with
  | zero => rfl
  | succ k ih =>
    have h1 := h k (Nat.lt_succ_self _)
    simp only [fxF]
    rw [ih fun j hj => h j (by omega), ← h1.1]
    split
    · rename_i hL; rw [h1.2 hL]
    · rfl
theorem fxF_put (vs : Nat → Value) (L : Nat → Bool) (a0 : Act) (n i : Nat) (v : Value) (hin : i < n) (hL : L i = false) (hd : ∀ k, i < k → k < n → L k = true → ∀ d, (ops[i]?).bind (·.dst) = some d → (ops[k]?).bind (·.dst) ≠ some d) :
    (fxF ops vs L a0 n).put ((ops[i]?).bind (·.dst)) v = fxF ops (fun j => if j = i then v else vs j) (fun j => if j = i then true else L j) a0 n := by
  have key : ∀ d, i + 1 + d ≤ n → (fxF ops vs L a0 (i + 1 + d)).put ((ops[i]?).bind (·.dst)) v = fxF ops (fun j => if j = i then v else vs j) (fun j => if j = i then true else L j) a0 (i + 1 + d) := by
    intro d
    induction d with
    | zero =>
      intro _
      simp only [fxF, Nat.add_zero, if_true, hL]
      rw [if_neg (by decide)]
      congr 1
      exact fxF_agree _ _ _ _ _ _ fun j hj => by
        have hne : j ≠ i := by omega
        simp [hne]
    | succ d ih =>
      intro hk
      have ih := ih (by omega)
      have hne : i + 1 + d ≠ i := by omega
      show (fxF ops vs L a0 (i + 1 + d + 1)).put _ v = fxF ops _ _ a0 (i + 1 + d + 1)
      simp only [fxF, if_neg hne]
      by_cases hLk : L (i + 1 + d) = true
      · rw [if_pos hLk, if_pos hLk, ← ih]
        exact (Act.put_comm _ _ _ fun d' hd' hd2 => hd (i + 1 + d) (by omega) (by omega) hLk d' hd2 hd').trans rfl
      · rw [if_neg hLk, if_neg hLk]; exact ih
  have := key (n - (i + 1)) (by omega)
  rwa [show i + 1 + (n - (i + 1)) = n by omega] at this
/-- The waiting of the operations, and the frames, as' they are to be; A names for each operation all that must come before it. -/
def fxB (ops : Array Oper) (n : Nat) (A : List (List Nat)) : Bool :=
  Region.noSelect ops && decide (n ≤ ops.size) &&
  ((List.range ops.size).all fun i => match ops[i]? with
    | none => true
    | some o => (o.after.all fun e => !Region.binds .any e || decide (e.on < i)) && ((A.getD i []).all fun j => decide (j < i) && o.after.any fun e => Region.binds .any e && (e.on == j || (A.getD e.on []).contains j))) &&
  ((List.range ops.size).all fun i => decide (i < n) || (List.range n).all fun j => (A.getD i []).contains j) &&
  ((List.range n).all fun i => match ops[i]? with
    | none => true
    | some o => (List.range n).all fun j => match (ops[j]?).bind (·.dst) with
      | none => true
      | some d => (!(o.looksAt ops).contains d || (decide (j < i) && (A.getD i []).contains j) || (decide (i < j) && (A.getD j []).contains i) || decide (j = i)) &&
        (!(o.dst == some d) || decide (j ≤ i) || (A.getD j []).contains i)) &&
  Region.seqB .any ops (ops.size - n) n ((Array.replicate n true) ++ (Array.replicate (ops.size - n) false))
structure FxOk (ops : Array Oper) (n : Nat) (A : List (List Nat)) : Prop where
  sel : Region.noSelect ops = true
  le : n ≤ ops.size
  aft : ∀ i o, ops[i]? = some o → ∀ e ∈ o.after, Region.binds .any e = true → e.on < i
  anc : ∀ i o, ops[i]? = some o → ∀ j ∈ A.getD i [], j < i ∧ ∃ e ∈ o.after, Region.binds .any e = true ∧ (e.on = j ∨ j ∈ A.getD e.on [])
  tail : ∀ i, n ≤ i → i < ops.size → ∀ j, j < n → j ∈ A.getD i []
  look : ∀ i o j d, i < n → j < n → ops[i]? = some o → (ops[j]?).bind (·.dst) = some d → d ∈ o.looksAt ops → (j < i ∧ j ∈ A.getD i []) ∨ (i < j ∧ i ∈ A.getD j []) ∨ j = i
  dst : ∀ i o j d, i < n → j < n → ops[i]? = some o → (ops[j]?).bind (·.dst) = some d → o.dst = some d → i < j → i ∈ A.getD j []
  seq : Region.seqB .any ops (ops.size - n) n ((Array.replicate n true) ++ (Array.replicate (ops.size - n) false)) = true
theorem fxB_ok {n : Nat} {A : List (List Nat)} (h : fxB ops n A = true) : FxOk ops n A := by
  unfold fxB at h
  simp only [Bool.and_eq_true, decide_eq_true_eq] at h
  obtain ⟨⟨⟨⟨⟨h1, h2⟩, h3⟩, h4⟩, h5⟩, h6⟩ := h
  refine ⟨h1, h2, fun i o ho e he hb => ?_, fun i o ho j hj => ?_, fun i hi hs j hj => ?_, fun i o j d hi hj ho hd hl => ?_, fun i o j d hi hj ho hd hl hij => ?_, h6⟩
  · have hi := (Array.getElem?_eq_some_iff.1 ho).1
    have k := List.all_eq_true.1 h3 i (List.mem_range.2 hi)
    simp only [ho, Bool.and_eq_true] at k
    have k1 := Array.all_eq_true'.1 k.1 e he
    simpa [hb] using k1
  · have hi := (Array.getElem?_eq_some_iff.1 ho).1
    have k := List.all_eq_true.1 h3 i (List.mem_range.2 hi)
    simp only [ho, Bool.and_eq_true] at k
    have k1 := List.all_eq_true.1 k.2 j hj
    simp only [Bool.and_eq_true, decide_eq_true_eq] at k1
    refine ⟨k1.1, ?_⟩
    obtain ⟨e, he, hb⟩ := Array.any_eq_true'.1 k1.2
    simp only [Bool.and_eq_true, Bool.or_eq_true, beq_iff_eq, List.contains_iff_mem] at hb
    exact ⟨e, he, hb.1, hb.2⟩
  · have k := List.all_eq_true.1 h4 i (List.mem_range.2 hs)
    rw [Bool.or_eq_true, decide_eq_true_eq] at k
    rcases k with k | k
    · omega
    · have := List.all_eq_true.1 k j (List.mem_range.2 hj)
      simpa using this
  · have k := List.all_eq_true.1 h5 i (List.mem_range.2 hi)
    simp only [ho] at k
    have k1 := List.all_eq_true.1 k j (List.mem_range.2 hj)
    simp only [hd, Bool.and_eq_true] at k1
    have k2 := k1.1
    simp only [Bool.or_eq_true, Bool.and_eq_true, decide_eq_true_eq, List.contains_iff_mem, Bool.not_eq_true'] at k2
    rcases k2 with ((k2 | k2) | k2) | k2
    · have : (o.looksAt ops).contains d = true := by simpa using hl
      rw [this] at k2; cases k2
    · exact .inl k2
    · exact .inr (.inl k2)
    · exact .inr (.inr k2)
  · have k := List.all_eq_true.1 h5 i (List.mem_range.2 hi)
    simp only [ho] at k
    have k1 := List.all_eq_true.1 k j (List.mem_range.2 hj)
    simp only [hd, Bool.and_eq_true] at k1
    have k2 := k1.2
    simp only [Bool.or_eq_true, decide_eq_true_eq, List.contains_iff_mem, Bool.not_eq_true'] at k2
    rcases k2 with (k2 | k2) | k2
    · rw [hl] at k2; simp at k2
    · omega
    · exact k2
theorem looks_tmp {o : Oper} {t : Tmp} (h : .tmp t ∈ o.op.operands) : t ∈ o.looksAt ops := by
  unfold Oper.looksAt
  rw [List.mem_append]
  refine .inl ?_
  rw [List.mem_filterMap]
  exact ⟨.tmp t, by simpa using h, rfl⟩
theorem looks_guard {o : Oper} {g : Nat} {b : Bool} (h : o.guard = some (g, b)) {t : Tmp} (ht : (ops[g]?).bind (·.dst) = some t) : t ∈ o.looksAt ops := by
  unfold Oper.looksAt
  rw [List.mem_append]
  refine .inr ?_
  simp [h, ht]
theorem fx_same {o : Oper} (hs : ∀ cs b, o.op ≠ .select cs b) (a b : Act) (h : ∀ t, t ∈ o.looksAt ops → a.tmps[t]? = b.tmps[t]?) (w : World) (R : Value → World → Prop) : FxStep P ops o a w R = FxStep P ops o b w R := by
  have h1 : execOp a.eval o = execOp b.eval o := execOp_congr o hs fun x hx => eval_tmps a b x fun t ht => h t (looks_tmp (by rw [← ht]; exact hx))
  have h2 : Region.wanted o (yielded ops a.tmps) = Region.wanted o (yielded ops b.tmps) := by
    unfold Region.wanted
    cases hg : o.guard with
    | none => rfl
    | some gw =>
      obtain ⟨g, wnt⟩ := gw
      simp only
      have h3 : yielded ops a.tmps g = yielded ops b.tmps g := by
        unfold yielded
        cases hd : (ops[g]?).bind (·.dst) with
        | none => rfl
        | some t => simp only [Option.bind_some, h t (looks_guard hg hd)]
      rw [h3]
  unfold FxStep
  rw [h1, h2]
theorem anc_listed {n : Nat} {A : List (List Nat)} (hB : FxOk ops n A) {listed : Array Bool} (cl : Closed .any ops listed) :
    ∀ i o, ops[i]? = some o → (∀ e ∈ o.after, Region.binds .any e = true → listed.getD e.on false = true) → ∀ j ∈ A.getD i [], listed.getD j false = true := by
  intro i
  induction i using Nat.strongRecOn with
  | _ i ih =>
    intro o ho hall j hj
    obtain ⟨_, e, he, hb, h | h⟩ := hB.anc i o ho j hj
    · rw [← h]; exact hall e he hb
    · have hon := hB.aft i o ho e he hb
      have hlt : e.on < ops.size := Nat.lt_trans hon (Array.getElem?_eq_some_iff.1 ho).1
      exact ih e.on hon _ (Array.getElem?_eq_getElem hlt) (fun e2 he2 hb2 => cl.2 _ _ (Array.getElem?_eq_getElem hlt) (hall e he hb) e2 he2 hb2) j h
/-- How many of the first n are not listed. -/
def fxLeft (listed : Array Bool) (n : Nat) : Nat := ((List.range n).filter fun j => !listed.getD j false).length
theorem fxLeft_set {listed : Array Bool} {n i : Nat} (hi : i < n) (hs : i < listed.size) (h : listed.getD i false = false) : fxLeft (listed.setIfInBounds i true) n + 1 = fxLeft listed n := by
  have gi : (listed.setIfInBounds i true).getD i false = true := by simp [hs]
  have go : ∀ j, j ≠ i → (listed.setIfInBounds i true).getD j false = listed.getD j false := fun j hj => getD_set_ne false (fun e => hj e.symm)
  have key : ∀ m, fxLeft (listed.setIfInBounds i true) m + (if i < m then 1 else 0) = fxLeft listed m := by
    intro m
    induction m with
    | zero => rfl
    | succ m ih =>
      unfold fxLeft at ih ⊢
      rw [List.range_succ, List.filter_append, List.filter_append, List.length_append, List.length_append, ← ih]
      by_cases e : m = i
      · subst e
        rw [if_neg (Nat.lt_irrefl m), if_pos (Nat.lt_succ_self m)]
        simp only [List.filter_cons, List.filter_nil, gi, h, Bool.not_true, Bool.not_false, if_true, Bool.false_eq_true, if_false, List.length_nil, List.length_cons]
      · rw [show (if i < m + 1 then 1 else 0) = (if i < m then 1 else 0) by
          by_cases h1 : i < m
          · rw [if_pos h1, if_pos (by omega)]
          · rw [if_neg h1, if_neg (by omega)]]
        simp only [List.filter_cons, List.filter_nil, go m e]
        omega
  have := key n
  rw [if_pos hi] at this
  exact this
theorem fxLeft_zero {listed : Array Bool} {n : Nat} (h : fxLeft listed n = 0) : ∀ j, j < n → listed.getD j false = true := fun j hj => by
  have h1 := List.eq_nil_of_length_eq_zero h
  rw [List.filter_eq_nil_iff] at h1
  simpa using h1 j (List.mem_range.2 hj)
theorem fxLeft_pos {listed : Array Bool} {n : Nat} (h : fxLeft listed n ≠ 0) : ∃ j, j < n ∧ listed.getD j false = false := by
  refine Classical.byContradiction fun hn => h ?_
  unfold fxLeft
  rw [List.length_eq_zero_iff, List.filter_eq_nil_iff]
  intro j hj
  have hj := List.mem_range.1 hj
  cases hb : listed.getD j false with
  | true => simp
  | false => exact absurd ⟨j, hj, hb⟩ hn
/-- The operation i may come behind j, if j does not have to come behind i. -/
def fxAfter (A : List (List Nat)) (i j : Nat) : Bool := decide (i ≠ j) && !(A.getD j []).contains i
/-- The operation i may come before j. -/
def fxBefore (A : List (List Nat)) (i j : Nat) : Bool := decide (i ≠ j) && !(A.getD i []).contains j
section
variable {n : Nat} {A : List (List Nat)} {Ψ : Nat → World → Prop} {Φ : Nat → Value → World → Prop} {G : Nat → World → World → Prop} {Inv : World → Prop} {a0 : Act}
theorem fx_any (hB : FxOk ops n A) (hI : ∀ i w w', i < n → Inv w → G i w w' → Inv w')
    (hG : ∀ i j v w w', i < n → j < n → fxAfter A i j = true → Inv w → Φ j v w → G i w w' → Φ j v w')
    (hP : ∀ i j w w', i < n → j < n → fxBefore A i j = true → Inv w → Ψ j w → G i w w' → Ψ j w')
    (hstep : ∀ i o vs w, i < n → ops[i]? = some o → Inv w → Ψ i w → (∀ j, j ∈ A.getD i [] → Φ j (vs j) w) → FxStep P ops o (fxF ops vs fxT a0 i) w fun v w' => Φ i v w' ∧ G i w w')
    (hdone : ∀ vs w, Inv w → (∀ j, j < n → Φ j (vs j) w) → wpList P ops Q (ops.toList.drop n) (fxF ops vs fxT a0 n) w) :
    ∀ (d : Nat) (listed : Array Bool) (vs : Nat → Value) (w : World), Closed .any ops listed → (∀ j, n ≤ j → j < ops.size → listed.getD j false = false) → fxLeft listed n = d → Inv w → (∀ j, j < n → listed.getD j false = false → Ψ j w) →
      (∀ j, j < n → listed.getD j false = true → Φ j (vs j) w) → wpAny P .any ops Q (d + (ops.size - n)) listed (fxF ops vs (fun j => listed.getD j false) a0 n) w := by
  intro d
  induction d with
  | zero =>
    intro listed vs w cl hout hleft hinv hpre hf
    have hall := fxLeft_zero hleft
    have hL : listed = (Array.replicate n true) ++ (Array.replicate (ops.size - n) false) := by
      refine Array.ext (by rw [cl.1]; have := hB.le; simp; omega) fun j hj1 hj2 => ?_
      have e : listed.getD j false = listed[j] := by simp [Array.getD, hj1]
      rw [← e]
      by_cases hjn : j < n
      · rw [hall j hjn, Array.getElem_append_left (by simpa using hjn)]; simp
      · rw [hout j (by omega) (by rw [← cl.1]; exact hj1), Array.getElem_append_right (by simpa using hjn)]; simp
    have hfr : fxF ops vs (fun j => listed.getD j false) a0 n = fxF ops vs fxT a0 n := fxF_agree _ _ _ _ _ _ fun j hj => ⟨hall j hj, fun _ => rfl⟩
    rw [hfr, Nat.zero_add]
    have hlen : (ops.toList.drop n).length = ops.size - n := by simp
    have h := wpAny_of_seq (P := P) (ops := ops) (md := .any) (Q' := Q) (ops.toList.drop n) n listed (fxF ops vs fxT a0 n) w (fun j => by simp [List.getElem?_drop]) (by rw [hlen, hL]; exact hB.seq) (hdone vs w hinv fun j hj => hf j hj (hall j hj))
    rwa [hlen] at h
  | succ d ih =>
    intro listed vs w cl hout hleft hinv hpre hf
    rw [show d + 1 + (ops.size - n) = (d + (ops.size - n)) + 1 by omega]
    refine ⟨fun hnil => ?_, fun i hi => ?_⟩
    · exfalso
      obtain ⟨j, hj, hju⟩ := fxLeft_pos (listed := listed) (n := n) (by omega)
      have hex : ∃ j, j ∈ Region.ready .any ops listed := by
        clear hnil
        induction j using Nat.strongRecOn with
        | _ j jh =>
          have hlt : j < ops.size := Nat.lt_of_lt_of_le hj hB.le
          by_cases ha : ∀ e ∈ ops[j].after, Region.binds .any e = true → listed.getD e.on false = true
          · refine ⟨j, mem_ready.2 ⟨?_, _, Array.getElem?_eq_getElem hlt, ha⟩⟩
            have hjs : j < listed.size := by rw [cl.1]; exact hlt
            simp [Array.getD, hjs] at hju ⊢
            exact hju
          · obtain ⟨e, he⟩ := Classical.not_forall.1 ha
            obtain ⟨he1, he2⟩ := Classical.not_imp.1 he
            obtain ⟨hb, hu⟩ := Classical.not_imp.1 he2
            have hon := hB.aft j _ (Array.getElem?_eq_getElem hlt) e he1 hb
            exact jh e.on hon (by omega) (by simpa using hu)
      obtain ⟨j', hj'⟩ := hex
      rw [hnil] at hj'; cases hj'
    · obtain ⟨hiu, o, ho, hall⟩ := mem_ready.1 hi
      have his : i < ops.size := (Array.getElem?_eq_some_iff.1 ho).1
      have hils : i < listed.size := by rw [cl.1]; exact his
      have hif : listed.getD i false = false := by simp [Array.getD, hils] at hiu ⊢; exact hiu
      have hanc := anc_listed hB cl i o ho hall
      rcases Nat.lt_or_ge i n with hin | hin
      · have hlk : ∀ t, t ∈ o.looksAt ops → (fxF ops vs (fun j => listed.getD j false) a0 n).tmps[t]? = (fxF ops vs fxT a0 i).tmps[t]? := fun t ht =>
          fxF_look vs _ a0 n i (Nat.le_of_lt hin) t fun j hj hd => by
            rcases hB.look i o j t hin hj ho hd ht with ⟨h1, h2⟩ | ⟨h1, h2⟩ | h1
            · exact ⟨fun _ => hanc j h2, fun h => by omega⟩
            · refine ⟨fun h => by omega, fun _ => ?_⟩
              cases hb : listed.getD j false with
              | false => rfl
              | true =>
                have hjs : j < ops.size := Nat.lt_of_lt_of_le hj hB.le
                have := anc_listed hB cl j _ (Array.getElem?_eq_getElem hjs) (fun e he hb2 => cl.2 j _ (Array.getElem?_eq_getElem hjs) hb e he hb2) i h2
                rw [hif] at this; cases this
            · subst h1; exact ⟨fun h => by omega, fun _ => hif⟩
        have hsel : ∀ cs b, o.op ≠ .select cs b := fun cs b => Region.noSelect_spec hB.sel i o cs b ho
        have hst := hstep i o vs w hin ho hinv (hpre i hin hif) fun j hj => hf j (by have := (hB.anc i o ho j hj).1; omega) (hanc j hj)
        rw [← fx_same hsel _ _ hlk] at hst
        refine fx_wpOp ho hst fun v w' ⟨hΦ, hg⟩ => ?_
        have hdd : o.dst = (ops[i]?).bind (·.dst) := by rw [ho]; rfl
        have hfp := fxF_put (ops := ops) vs (fun j => listed.getD j false) a0 n i v hin hif fun k hk hkn hLk d' hd' hd2 => by
          have hks : k < ops.size := Nat.lt_of_lt_of_le hkn hB.le
          rw [ho] at hd'
          have h2 := hB.dst i o k d' hin hkn ho hd2 hd' hk
          have := anc_listed hB cl k _ (Array.getElem?_eq_getElem hks) (fun e he hb2 => cl.2 k _ (Array.getElem?_eq_getElem hks) hLk e he hb2) i h2
          rw [hif] at this; cases this
        rw [hdd, hfp]
        have hfr : fxF ops (fun j => if j = i then v else vs j) (fun j => if j = i then true else listed.getD j false) a0 n = fxF ops (fun j => if j = i then v else vs j) (fun j => (listed.setIfInBounds i true).getD j false) a0 n := fxF_agree _ _ _ _ _ _ fun j hj => by
          refine ⟨?_, fun _ => rfl⟩
          by_cases e : j = i
          · subst e; simp [hils]
          · rw [if_neg e, getD_set_ne false (fun h => e h.symm)]
        rw [hfr]
        refine ih _ _ _ (cl.set hi) (fun j h1 h2 => ?_) ?_ (hI i w w' hin hinv hg) (fun j hj hjl => ?_) fun j hj hjl => ?_
        · rw [getD_set_ne false (by omega)]; exact hout j h1 h2
        · have := fxLeft_set hin hils hif; omega
        · by_cases e : j = i
          · subst e; simp [hils] at hjl
          · rw [getD_set_ne false (fun h => e h.symm)] at hjl
            refine hP i j w w' hin hj ?_ hinv (hpre j hj hjl) hg
            unfold fxBefore
            have hni : j ∉ A.getD i [] := fun hm => by rw [hanc j hm] at hjl; cases hjl
            rw [Bool.and_eq_true, decide_eq_true_eq]
            exact ⟨fun h => e h.symm, by simpa using hni⟩
        · by_cases e : j = i
          · subst e; simp only [if_true]; exact hΦ
          · simp only [if_neg e]
            rw [getD_set_ne false (fun h => e h.symm)] at hjl
            refine hG i j (vs j) w w' hin hj ?_ hinv (hf j hj hjl) hg
            unfold fxAfter
            have hjs : j < ops.size := Nat.lt_of_lt_of_le hj hB.le
            have hni : i ∉ A.getD j [] := fun hm => by
              have := anc_listed hB cl j _ (Array.getElem?_eq_getElem hjs) (fun e he hb2 => cl.2 j _ (Array.getElem?_eq_getElem hjs) hjl e he hb2) i hm
              rw [hif] at this; cases this
            rw [Bool.and_eq_true, decide_eq_true_eq]
            exact ⟨fun h => e h.symm, by simpa using hni⟩
      · exfalso
        obtain ⟨j, hj, hju⟩ := fxLeft_pos (listed := listed) (n := n) (by omega)
        have := hanc j (hB.tail i hin his j hj)
        rw [hju] at this; cases this
/-- **A region that draws its order**: one fact for each of its first n operations, kept by all that may come behind it; what comes behind them is walked as' a list. -/
theorem wp_region_fx {id : Nat} {w : World} {l : List Oper} (n : Nat) (A : List (List Nat)) (hm : P.follows .mixedOrders = true) (hB : fxB l.toArray n A = true)
    (Φ : Nat → Value → World → Prop) (G : Nat → World → World → Prop) (Inv : World → Prop) (Ψ : Nat → World → Prop) (h0 : Inv { w with drawn := w.drawn + 1 }) (hp0 : ∀ j, j < n → Ψ j { w with drawn := w.drawn + 1 })
    (hI : ∀ i w w', i < n → Inv w → G i w w' → Inv w')
    (hG : ∀ i j v w w', i < n → j < n → fxAfter A i j = true → Inv w → Φ j v w → G i w w' → Φ j v w')
    (hP : ∀ i j w w', i < n → j < n → fxBefore A i j = true → Inv w → Ψ j w → G i w w' → Ψ j w')
    (hstep : ∀ i o vs w, i < n → l.toArray[i]? = some o → Inv w → Ψ i w → (∀ j, j ∈ A.getD i [] → Φ j (vs j) w) → FxStep P l.toArray o (fxF l.toArray vs fxT a0 i) w fun v w' => Φ i v w' ∧ G i w w')
    (hdone : ∀ vs w, Inv w → (∀ j, j < n → Φ j (vs j) w) → wpList P l.toArray Q (l.drop n) (fxF l.toArray vs fxT a0 n) w) : (Code.region id l.toArray true).wp P Q a0 w := by
  have hk := fxB_ok hB
  have cl0 : Closed .any l.toArray (Array.replicate l.toArray.size false) := ⟨by simp, fun j oj _ hl => (by rw [getD_replicate_false] at hl; cases hl)⟩
  have hl0 : fxLeft (Array.replicate l.toArray.size false) n = n := by
    unfold fxLeft
    rw [List.filter_eq_self.2 (fun j _ => by rw [getD_replicate_false]; rfl), List.length_range]
  have h := fx_any (a0 := a0) hk hI hG hP hstep (fun vs w h1 h2 => by simpa using hdone vs w h1 h2) n (Array.replicate l.toArray.size false) (fun _ => undef) { w with drawn := w.drawn + 1 } cl0 (fun j _ _ => getD_replicate_false _ _) hl0 h0 (fun j hj _ => hp0 j hj) (fun j _ hl => by rw [getD_replicate_false] at hl; cases hl)
  have hfr : fxF l.toArray (fun _ => undef) (fun j => (Array.replicate l.toArray.size false).getD j false) a0 n = a0 := by
    have : ∀ k, fxF l.toArray (fun _ => undef) (fun j => (Array.replicate l.toArray.size false).getD j false) a0 k = a0 := by
      intro k
      induction k with
      | zero => rfl
      | succ k ih =>
        show (if (Array.replicate l.toArray.size false).getD k false = true then _ else _) = a0
        rw [getD_replicate_false, if_neg (by decide)]; exact ih
    exact this n
  rw [hfr, show n + (l.toArray.size - n) = l.toArray.size by have := hk.le; omega] at h
  exact wp_region_any hm h
end
/-- The last of the first i operations that puts its value into the slot t. -/
def fxLast (ops : Array Oper) (t : Tmp) : Nat → Option Nat
  | 0 => none
  | k + 1 => if ((ops[k]?).bind (·.dst) == some t) = true then some k else fxLast ops t k
theorem fx_old {vs : Nat → Value} {a0 : Act} {t : Tmp} : ∀ i, fxLast ops t i = none → (fxF ops vs fxT a0 i).eval (.tmp t) = a0.eval (.tmp t)
  | 0, _ => rfl
  | k + 1, h => by
    unfold fxLast at h
    split at h
    · cases h
    · rename_i hd
      simp only [fxF, fxT, if_true]
      rw [eval_tmps _ (fxF ops vs fxT a0 k) (.tmp t) (fun t' e => by
        injection e with e
        subst e
        exact put_tmps_ne _ _ _ _ (by simpa using hd))]
      exact fx_old k h
theorem fxF_size {vs : Nat → Value} {a0 : Act} (k : Nat) : (fxF ops vs fxT a0 k).tmps.size = a0.tmps.size := by
  induction k with
  | zero => rfl
  | succ k ih =>
    simp only [fxF, fxT, if_true]
    cases (ops[k]?).bind (·.dst) with
    | none => exact ih
    | some d => simp [Act.put, ih]
theorem fx_new {vs : Nat → Value} {a0 : Act} {t : Tmp} {j : Nat} (ht : t < a0.tmps.size) : ∀ i, fxLast ops t i = some j → (fxF ops vs fxT a0 i).eval (.tmp t) = vs j
  | 0, h => by cases h
  | k + 1, h => by
    unfold fxLast at h
    simp only [fxF, fxT, if_true]
    split at h
    · rename_i hd
      injection h with h
      subst h
      rw [show (ops[k]?).bind (·.dst) = some t by simpa using hd]
      have hs : t < (fxF ops vs fxT a0 k).tmps.size := by rw [fxF_size]; exact ht
      simp [Act.eval, Act.put, Array.getD_eq_getD_getElem?, hs]
    · rename_i hd
      rw [eval_tmps _ (fxF ops vs fxT a0 k) (.tmp t) (fun t' e => by
        injection e with e
        subst e
        exact put_tmps_ne _ _ _ _ (by simpa using hd))]
      exact fx_new ht k h
section
variable {o : Oper} {a : Act} {w : World} {R : Value → World → Prop}
theorem fx_val {v : Value} {w' : World} (hw : Region.wanted o (yielded ops a.tmps) = true) (h : (execOp a.eval o).run P w = .ok (.value v) w') (hR : R v w') : FxStep P ops o a w R := by
  unfold FxStep
  rw [if_pos hw, h]
  exact hR
theorem fx_call {T : Array TypeId} {f : FuncId} {fn : Func} {c : Code} {xs : Array Operand} (us : Array Value) (hw : Region.wanted o (yielded ops a.tmps) = true) (ho : o.op = .call { callee := .value (.func f), args := xs, argTypes := T })
    (hf : P.funcs[f]? = some fn) (hname : (fn.name == "runtime.NumGoroutine") = false) (hb : fn.body = some c) (hx : xs.map a.eval = us) (h3 : a.eval (.func f) = .func (.func f) #[] #[])
    (hc : Calls P f us w fun e w'' => ∃ v, e = .returned v ∧ R v w'') : FxStep P ops o a w R := by
  have hn : fn.name ≠ "runtime.NumGoroutine" := by simpa using hname
  unfold FxStep
  rw [if_pos hw]
  unfold execOp
  generalize a.eval = ev at *
  have hr : (callFunc f us).run P w = .ok (.enter f us) w := by simp [callFunc, hf, hn, hb]
  simp only [ho]
  simp [go_sem, hx, h3]
  rw [hr]
  exact hc
end
end
end YtdlblhoaddfanaaDoor
end Go
namespace Go.Proofs.YtdlblhoaddfanaaDoor
open Go.RowKit Go.YtdlblhoaddfanaaDoor
set_option linter.unusedVariables false
/-- A list of strings that is read. -/
def CelS (w : World) (A : Option Addr) (L : List (List Int)) : Prop := ∀ i, i < L.length → ∃ b o, A = some ⟨b, o, none⟩ ∧ b < w.heap.size ∧ ∃ s, w.cell? ⟨b, o + i, none⟩ = some s ∧ RdB w s (nthL L i)
theorem CelS.mono {w w' : World} {A : Option Addr} {L : List (List Int)} (h : CelS w A L) (hb : Below w.heap.size w w') : CelS w' A L := fun i hi => by
  obtain ⟨b, o, e, h1, s, h2, h3⟩ := h i hi
  exact ⟨b, o, e, Nat.lt_of_lt_of_le h1 hb.size, s, (hb.cell (p := (⟨b, o + i, none⟩ : Addr)) h1).trans h2, h3.mono hb⟩
theorem wpList_neID {P : Program} {ops : Array Oper} {rest : List Oper} {o : Oper} {a : Act} {w : World} {Q : Exit → Act → World → Prop} (hw : Region.wanted o (yielded ops a.tmps) = true) (t elem : TypeId) (x y : Operand) (ho : o.op = .binOp .neq t x y t) (ht : P.underlying t = some (.array 32 elem)) (he : P.underlying elem = some (.int .u8)) (hs : (P.info? elem).map (·.size) = some 1) (h0 : P.eqGuardType P.depth t = false)
    (D : List Int) (hD : D.length = 32) (hx : a.eval x = .agg (u8s D)) (hy : a.eval y = .agg (u8s D)) (h : wpList P ops Q rest (a.put o.dst (.bool false)) w) : wpList P ops Q (o :: rest) a w :=
  wpList_step fun K hK => by
    rw [if_pos hw]
    have hg := run_eqGuard_agg (P := P) w .neq t x y (u8s D) (u8s D) h0
    have hq := run_equalArr (P := P) w 9998 t elem 32 ht he hs D D hD hD
    unfold Oper.wp execOp
    generalize a.eval = ev at *
    simp only [ho]
    simp [go_sem, hx, hy, hg, hq]
    exact hK _ _ h
/-- What Sum answers, in the program and in the reference. -/
structure SumP (Tg Tf : TypeId) (l : List Int) (D : List Int) (E : Int) : Prop where
  p : ∀ (bv : Value) (wz : World), RdB wz bv l → GlO Tg Tf wz → Calls Tryd.prog 15 #[bv] wz fun e w' => e = .returned (.tuple #[.agg (u8s D), .int .i64 E]) ∧ Below wz.heap.size wz w'
  q : ∀ (bv : Value) (wz : World), RdB wz bv l → Calls Tryd.prog 16 #[bv] wz fun e w' => e = .returned (.tuple #[.agg (u8s D), .int .i64 E]) ∧ Below wz.heap.size wz w'
  len : D.length = 32
theorem sum_packD {Tg Tf : TypeId} (l : List Int) (hb : Bytes l) (hn : l.length ≤ 1048576) : ∃ D E, SumP Tg Tf l D E := by
  by_cases h : l.length ≤ 10000
  · exact ⟨shaF l, 0, fun bv wz h1 h2 => sum_any (Tg := Tg) (Tf := Tf) _ bv l wz h1 hb h rfl h2.1 h2.2, fun bv wz h1 => rsum_ok _ bv l wz h1 hb h rfl, shaF_length l⟩
  · refine ⟨zerosB 32, 4, fun bv wz h1 h2 => ?_, fun bv wz h1 => ?_, zerosB_length 32⟩
    · obtain ⟨a, c, rfl⟩ := h1.slice
      exact sum_many a l.length c wz (by omega) hn
    · obtain ⟨a, c, rfl⟩ := h1.slice
      exact rsum_many a l.length c wz (by omega)
set_option maxRecDepth 100000 in
set_option maxHeartbeats 2000000 in
theorem rpieces_many (A : Option Addr) (n c : Nat) (w : World) (hn : 20 < n) :
    Calls Tryd.prog 18 #[.slice A n c] w
     fun e w' => e = .returned (.tuple #[.agg (u8s (zerosB 32)), .int .i64 4]) ∧ Below w.heap.size w w' := by
  go_enter Tryd.func18, Tryd.ntmps18
  go_wp2_with (refine wpList_store_row rfl 33 _ _ rfl w.heap.size (u8s (zerosB 32)) rfl rfl 33 _ (heap_alloc_new w _) info_id rfl (u8s_one _) ?_)
  try simp only [Exit.inBlock, Exit.then]
  exact bodyPost_ret (results_row_tmp rfl _ _ w.heap.size 33 _ _ _ rfl (setRow_heap _ _ _ _ _ _ (heap_alloc_new w _)) Tryd.underlying33 rfl info_id) rfl ⟨rfl, below_setRow' (g := w.heap.size) ((Below.refl _ _).alloc (Nat.le_refl _) _) (Nat.le_refl _) _⟩
set_option maxRecDepth 100000 in
set_option maxHeartbeats 2000000 in
theorem rpieces_long (A : Option Addr) (n c i0 : Nat) (len : Nat → Nat) (w : World) (hi0 : i0 < n) (hn : n ≤ 20) (hsmall : ∀ i, i < i0 → len i ≤ 10000) (hbig : 10000 < len i0) (hb48 : len i0 ≤ 1048576)
   (hcell : ∀ i, i ≤ i0 → ∃ b o, A = some ⟨b, o, none⟩ ∧ b < w.heap.size ∧ ∃ sa sc, w.cell? ⟨b, o + i, none⟩ = some (.slice sa (len i) sc)) :
    Calls Tryd.prog 18 #[.slice A n c] w
     fun e w' => e = .returned (.tuple #[.agg (u8s (zerosB 32)), .int .i64 4]) ∧ Below w.heap.size w w' := by
  have hcell' := Lib.hid hcell; have hsm := Lib.hid hsmall
  clear hcell hsmall
  obtain ⟨Wx, hWx⟩ : ∃ W, W = w.alloc (.cells (u8s (zerosB 32)) 33) := ⟨_, rfl⟩
  have hWb' := Lib.hid (show Below w.heap.size w Wx by rw [hWx]; exact (Below.refl _ _).alloc (Nat.le_refl _) _)
  have hW0' := Lib.hid (show Wx.heap[w.heap.size]? = some (.cells (u8s (zerosB 32)) 33 (0, 0)) by rw [hWx]; exact heap_alloc_new w _)
  go_enter Tryd.func18, Tryd.ntmps18
  go_upto_region 1 with fail
  change Code.wp _ _ _ _ (w.alloc (.cells (u8s (zerosB 32)) 33))
  rw [← hWx]
  clear hWx
  go_wp2
  go_loop [4] (fun i => ∃ k : Nat, k ≤ i0 ∧ i = .int .i64 k) (fun i => i0 + 1 - (intOf i).toNat)
  case atStart => exact ⟨0, by omega, rfl⟩
  case round =>
    obtain ⟨k, hk, rfl⟩ := hrel
    obtain ⟨b, o, rfl, hbw, sa, sc, hs⟩ := hcell'.out k hk
    have hs1 := (hWb'.out.cell (p := (⟨b, o + k, none⟩ : Addr)) hbw).trans hs
    have hkn : k < n := by omega
    clear hs
    by_cases hlt' : k < i0
    · have hle := hsm.out k hlt'
      generalize len k = lk at *
      clear hbig hb48
      go_wp2
      go_round
      case rel => exact ⟨k + 1, by omega, by go_num⟩
      case measure => simp [intOf]; omega
    · obtain rfl : k = i0 := by omega
      generalize len k = lk at *
      go_wp2_with (refine wpList_store_row rfl 33 _ _ rfl w.heap.size (u8s (zerosB 32)) rfl rfl 33 _ hW0'.out info_id rfl (u8s_one _) ?_)
      try simp only [Exit.inBlock, Exit.then]
      exact bodyPost_ret (results_row_tmp rfl _ _ w.heap.size 33 _ _ _ rfl (setRow_heap _ _ _ _ _ _ hW0'.out) Tryd.underlying33 rfl info_id) rfl ⟨rfl, below_setRow' (g := w.heap.size) hWb'.out (Nat.le_refl _) _⟩
set_option maxRecDepth 100000 in
set_option maxHeartbeats 2000000 in
theorem rpieces_ok (A : Option Addr) (c : Nat) (L : List (List Int)) (D : List Int) (w : World) (hcel : CelS w A L) (hn : L.length ≤ 20) (hlen : ∀ i, (nthL L i).length ≤ 10000) (hby : Bytes L.flatten) (hfl : L.flatten.length ≤ 200000) (hD : shaF L.flatten = D) :
    Calls Tryd.prog 18 #[.slice A L.length c] w
     fun e w' => e = .returned (.tuple #[.agg (u8s D), .int .i64 0]) ∧ Below w.heap.size w w' := by
  have hDl : D.length = 32 := by rw [← hD]; exact shaF_length _
  have hi := Lib.hid (show (Tryd.prog.info? 33).map (·.size) = some (u8s D).size from by rw [u8s_size, hDl]; kernel_rfl)
  have hs := Lib.hid (show (u8s (zerosB 32)).size = (u8s D).size from by rw [u8s_size, u8s_size, hDl, zerosB_length])
  have hW := Lib.hid (fun (wz : World) (h : Below w.heap.size w wz) => whole_any A c L wz (by omega) (by omega) (hcel.mono h))
  have hO := Lib.hid (fun (bv : Value) (wz : World) (h : RdB wz bv L.flatten) => rof_any bv L.flatten D wz h hby hfl hD)
  have hC := Lib.hid hcel
  have hle := Lib.hid hlen
  clear hDl hcel hby hfl hD hlen
  generalize L.flatten = FL at *
  obtain ⟨n, hm⟩ : ∃ n, L.length = n := ⟨_, rfl⟩
  rw [hm] at hW hn ⊢
  have hm' := Lib.hid hm
  clear hm
  obtain ⟨Wx, hWx⟩ : ∃ W, W = w.alloc (.cells (u8s (zerosB 32)) 33) := ⟨_, rfl⟩
  have hS := Lib.hid (show Below w.heap.size w Wx by rw [hWx]; exact (Below.refl _ _).alloc (Nat.le_refl _) _)
  have k1 := Lib.hid (show Wx.heap[w.heap.size]? = some (.cells (u8s (zerosB 32)) 33 (0, 0)) by rw [hWx]; exact heap_alloc_new w _)
  go_enter Tryd.func18, Tryd.ntmps18
  go_upto_region 1 with fail
  change Code.wp _ _ _ _ (w.alloc (.cells (u8s (zerosB 32)) 33))
  rw [← hWx]
  clear hWx
  go_wp2
  go_loop [4] (fun i => ∃ k : Nat, k ≤ n ∧ i = .int .i64 k) (fun i => n - (intOf i).toNat)
  case atStart => exact ⟨0, by omega, rfl⟩
  case round =>
    obtain ⟨k, hk, rfl⟩ := hrel
    by_cases hlt : k < n
    · obtain ⟨b, o, rfl, hbw, s, hs1, hr⟩ := hC.out k (by rw [hm'.out]; exact hlt)
      obtain ⟨sa, sc, rfl⟩ := hr.slice
      have hs2 := (hS.out.cell (p := (⟨b, o + k, none⟩ : Addr)) hbw).trans hs1
      have hl2 := hle.out k
      clear hs1 hr
      generalize (nthL L k).length = lk at *
      go_wp2
      go_round
      case rel => exact ⟨k + 1, by omega, by go_num⟩
      case measure => simp [intOf]; omega
    · obtain rfl : n = k := by omega
      clear hlt hk
      go_wp2_with (first
        | (go_at_call 14; (with_reducible refine (hW.out _ hS.out).mono ?_); rintro e w1 ⟨r, rfl, q1, q2⟩; have xW := Lib.hid q1.rd; replace k1 := Lib.hid (rowD k1.out q2); replace hS := Lib.hid (hS.out.trans (q2.mono hS.out.size)); clear q1 q2)
        | (go_at_call 29; (with_reducible refine (hO.out _ _ xW.out).mono ?_); rintro e w2 ⟨rfl, q2⟩; replace k1 := Lib.hid (rowD k1.out q2); replace hS := Lib.hid (hS.out.trans (q2.mono hS.out.size)); clear q2)
        | (refine wpList_store_row rfl 33 _ _ rfl w.heap.size (u8s D) rfl rfl 33 _ k1.out hi.out hs.out (u8s_one _) ?_))
      try simp only [Exit.inBlock, Exit.then]
      exact bodyPost_ret (results_row_tmp rfl _ _ w.heap.size 33 _ _ _ rfl (setRow_heap _ _ _ _ _ _ k1.out) Tryd.underlying33 rfl hi.out) rfl ⟨rfl, below_setRow' (g := w.heap.size) hS.out (Nat.le_refl _) _⟩
/-- What Pieces answers, in the program and in the reference. -/
structure PieP (Tg Tf : TypeId) (L : List (List Int)) (D : List Int) (E : Int) : Prop where
  p : ∀ (A : Option Addr) (c : Nat) (wz : World), L.length ≤ c → c ≤ maxLen → CelS wz A L → GlO Tg Tf wz → Calls Tryd.prog 17 #[.slice A L.length c] wz fun e w' => e = .returned (.tuple #[.agg (u8s D), .int .i64 E]) ∧ Below wz.heap.size wz w'
  q : ∀ (A : Option Addr) (c : Nat) (wz : World), CelS wz A L → Calls Tryd.prog 18 #[.slice A L.length c] wz fun e w' => e = .returned (.tuple #[.agg (u8s D), .int .i64 E]) ∧ Below wz.heap.size wz w'
  len : D.length = 32
theorem first_long (L : List (List Int)) : ∀ n, (∀ i, i < n → (nthL L i).length ≤ 10000) ∨ ∃ i0, i0 < n ∧ 10000 < (nthL L i0).length ∧ ∀ i, i < i0 → (nthL L i).length ≤ 10000
  | 0 => .inl fun i hi => absurd hi (Nat.not_lt_zero _)
  | n + 1 => by
    rcases first_long L n with h | ⟨i0, h1, h2, h3⟩
    · by_cases hb : 10000 < (nthL L n).length
      · exact .inr ⟨n, Nat.lt_succ_self _, hb, h⟩
      · refine .inl fun i hi => ?_
        by_cases e : i = n
        · subst e; omega
        · exact h i (by omega)
    · exact .inr ⟨i0, by omega, h2, h3⟩
theorem nthL_out {L : List (List Int)} {i : Nat} (h : L.length ≤ i) : nthL L i = [] := by simp [nthL, List.getElem?_eq_none h]
theorem nthL_flat (L : List (List Int)) (i : Nat) : (nthL L i).length ≤ L.flatten.length := by
  by_cases hi : i < L.length
  · have h := flatN_le L (i + 1) hi
    rw [flatN, List.length_append] at h
    omega
  · rw [nthL_out (by omega)]; simp
theorem bytes_flatN (L : List (List Int)) (hb : ∀ i, Bytes (nthL L i)) : ∀ k, Bytes (flatN L k)
  | 0 => bytes_nil
  | k + 1 => bytes_append _ _ (bytes_flatN L hb k) (hb k)
theorem pie_packD {Tg Tf : TypeId} (L : List (List Int)) (hb : ∀ i, Bytes (nthL L i)) (hn : L.flatten.length ≤ 1048576) : ∃ D E, PieP Tg Tf L D E := by
  by_cases h20 : 20 < L.length
  · exact ⟨zerosB 32, 4, fun A c wz _ _ _ _ => pieces_many A _ c wz h20, fun A c wz _ => rpieces_many A _ c wz h20, zerosB_length 32⟩
  · rcases first_long L L.length with h | ⟨i0, h1, h2, h3⟩
    · have hall : ∀ i, (nthL L i).length ≤ 10000 := fun i => by
        by_cases hi : i < L.length
        · exact h i hi
        · rw [nthL_out (by omega)]; simp
      have hbf : Bytes L.flatten := by rw [← flatN_all]; exact bytes_flatN L hb _
      have hlf : L.flatten.length ≤ 200000 := by rw [← flatN_all]; have := flatN_length L hall L.length; omega
      refine ⟨shaF L.flatten, 0, fun A c wz hc1 hc2 hcel hG => ?_, fun A c wz hcel => rpieces_ok A c L _ wz hcel (by omega) hall hbf hlf rfl, shaF_length _⟩
      have h := pieces_gen (Tg := Tg) (Tf := Tf) A c L wz hc1 hc2 hcel (by omega) hall hb hG.1 hG.2
      rw [flatN_all] at h
      exact h
    · have hcl : ∀ (A : Option Addr) (wz : World), CelS wz A L → ∀ i, i ≤ i0 → ∃ b o, A = some ⟨b, o, none⟩ ∧ b < wz.heap.size ∧ ∃ sa sc, wz.cell? ⟨b, o + i, none⟩ = some (.slice sa (nthL L i).length sc) := fun A wz hcel i hi => by
        obtain ⟨b, o, e, g1, s, g2, g3⟩ := hcel i (by omega)
        obtain ⟨sa, sc, rfl⟩ := g3.slice
        exact ⟨b, o, e, g1, sa, sc, g2⟩
      have hq := nthL_flat L i0
      exact ⟨zerosB 32, 4, fun A c wz _ _ hcel _ => pieces_long A _ c i0 (fun i => (nthL L i).length) wz h1 (by omega) h3 h2 (by show (nthL L i0).length ≤ _; omega) (hcl A wz hcel),
        fun A c wz hcel => rpieces_long A _ c i0 (fun i => (nthL L i).length) wz h1 (by omega) h3 h2 (by show (nthL L i0).length ≤ _; omega) (hcl A wz hcel), zerosB_length 32⟩
def smA : List (List Nat) := [[], [], [0, 1], [0, 1, 2], [0, 1, 2, 3], [0, 1, 2, 3], [0, 1, 2, 3, 4, 5], [0, 1, 2, 3, 4, 5, 6], [0, 1, 2, 3, 4, 5, 6, 7], [0, 1, 2, 3, 4, 5, 6, 7, 8], [0, 1, 2, 3, 4, 5, 6, 7, 8], [0, 1, 2, 3, 4, 5, 6, 7, 8, 9, 10], [0, 1, 2, 3, 4, 5, 6, 7, 8], [0, 1, 2, 3, 4, 5, 6, 7, 8], [0, 1, 2, 3, 4, 5, 6, 7, 8, 9, 10, 11, 12, 13], [0, 1, 2, 3, 4, 5, 6, 7, 8, 9, 10, 11, 12, 13, 14], [0, 1, 2, 3, 4, 5, 6, 7, 8, 9, 10, 11, 12, 13, 14, 15], [0, 1, 2, 3, 4, 5, 6, 7, 8, 9, 10, 11, 12, 13, 14, 15, 16], [0, 1, 2, 3, 4, 5, 6, 7, 8, 9, 10, 11, 12, 13, 14, 15, 16, 17], [0, 1, 2, 3, 4, 5, 6, 7, 8, 9, 10, 11, 12, 13, 14, 15, 16, 17, 18], [0, 1, 2, 3, 4, 5, 6, 7, 8, 9, 10, 11, 12, 13, 14, 15, 16, 17], [0, 1, 2, 3, 4, 5, 6, 7, 8, 9, 10, 11, 12, 13, 14, 15, 16, 17, 18, 19, 20], [0, 1, 2, 3, 4, 5, 6, 7, 8, 9, 10, 11, 12, 13, 14, 15, 16, 17, 18, 19, 20, 21], [0, 1, 2, 3, 4, 5, 6, 7, 8, 9, 10, 11, 12, 13, 14, 15, 16, 17, 18, 19, 20, 21, 22]]
def smΦ (D x y FL : List Int) (E C : Int) (tv wv : Value) (fn : Nat) : Nat → Value → World → Prop
  | 0, v, _ => v = .agg (u8s D)
  | 1, v, _ => v = .agg (u8s D)
  | 2, v, _ => v = .bool true
  | 3, v, _ => v = .bool true
  | 4, v, _ => v = .int .i64 E
  | 5, v, _ => v = .int .i64 E
  | 6, v, _ => v = .bool true
  | 7, v, _ => v = .bool true
  | 8, v, _ => v = .bool true
  | 9, v, _ => v = .agg (u8s x)
  | 10, v, _ => v = .agg (u8s y)
  | 11, v, _ => v = .int .i64 C
  | 12, v, _ => v = .agg (u8s x)
  | 13, v, _ => v = .agg (u8s y)
  | 14, v, _ => v = .int .i64 C
  | 15, v, _ => v = .bool true
  | 16, v, _ => v = .bool true
  | 17, v, _ => v = .bool true
  | 18, v, _ => v = tv
  | 19, v, w => ∃ a c, v = .slice a fn c ∧ RdB w (.slice a fn c) FL
  | 20, v, _ => v = wv
  | 21, v, _ => v = .bool true
  | 22, v, _ => v = .bool true
  | _, _, _ => True
theorem sm_keep {D x y FL : List Int} {E C : Int} {tv wv : Value} {fn : Nat} (j : Nat) (v : Value) (w w' : World) (hj : j < 23) (h : smΦ D x y FL E C tv wv fn j v w) (hb : Below w.heap.size w w') : smΦ D x y FL E C tv wv fn j v w' := by
  match j, hj with
  | 0, _ => exact h
  | 1, _ => exact h
  | 2, _ => exact h
  | 3, _ => exact h
  | 4, _ => exact h
  | 5, _ => exact h
  | 6, _ => exact h
  | 7, _ => exact h
  | 8, _ => exact h
  | 9, _ => exact h
  | 10, _ => exact h
  | 11, _ => exact h
  | 12, _ => exact h
  | 13, _ => exact h
  | 14, _ => exact h
  | 15, _ => exact h
  | 16, _ => exact h
  | 17, _ => exact h
  | 18, _ => exact h
  | 19, _ => obtain ⟨a, c, e, h1⟩ := h; exact ⟨a, c, e, h1.mono hb⟩
  | 20, _ => exact h
  | 21, _ => exact h
  | 22, _ => exact h
  | j' + 23, hj' => exact absurd hj' (by omega)
theorem fx_wantedD {ops : Array Oper} {o : Oper} {a : Act} {k : Nat} {t : Tmp} {b : Bool} (hg : o.guard = some (k, b)) (hd : (ops[k]?).bind (·.dst) = some t) (e : a.eval (.tmp t) = .bool b) : Region.wanted o (yielded ops a.tmps) = true := by
  unfold Region.wanted yielded
  rw [hg]
  simp only [hd, Option.bind_some]
  have h : (a.tmps[t]?).getD undef = .bool b := by simpa [Act.eval] using e
  cases hx : a.tmps[t]? with
  | none => rw [hx] at h; cases h
  | some v =>
    rw [hx] at h
    have h2 : v = .bool b := h
    subst h2
    simp
theorem fx_moveG {P : Program} {ops : Array Oper} {o : Oper} {a : Act} {w : World} {R : Value → World → Prop} (x : Operand) (hw : Region.wanted o (yielded ops a.tmps) = true) (ho : o.op = .move x) (hR : R (a.eval x) w) : FxStep P ops o a w R :=
  fx_val (v := a.eval x) (w' := w) hw (by unfold execOp; simp [ho, go_sem]) hR
theorem fx_rowG {P : Program} {ops : Array Oper} {o : Oper} {a : Act} {w : World} {R : Value → World → Prop} (ty : TypeId) (x : Operand) (hw : Region.wanted o (yielded ops a.tmps) = true) (ho : o.op = .load ty x) (g : Nat) (hx : a.eval x = .pointer (some ⟨g, 0, none⟩)) (cs : Array Value)
    (hl : (loadVar ty ⟨g, 0, none⟩).run P w = .ok (.agg cs) w) (hR : R (.agg cs) w) : FxStep P ops o a w R :=
  fx_val (v := .agg cs) (w' := w) hw (by
    unfold execOp
    simp only [ho, hx, Instr.loadAt, Instr.sureAddr, Sem.run_bind, Sem.run_pure, Result.andThen_ok, hl]) hR
theorem fx_eqIDG {P : Program} {ops : Array Oper} {o : Oper} {a : Act} {w : World} {R : Value → World → Prop} (t elem : TypeId) (x y : Operand) (hw : Region.wanted o (yielded ops a.tmps) = true) (ho : o.op = .binOp .eql t x y t) (ht : P.underlying t = some (.array 32 elem)) (he : P.underlying elem = some (.int .u8)) (hs : (P.info? elem).map (·.size) = some 1) (h0 : P.eqGuardType P.depth t = false)
    (D : List Int) (hD : D.length = 32) (hx : a.eval x = .agg (u8s D)) (hy : a.eval y = .agg (u8s D)) (hR : R (.bool true) w) : FxStep P ops o a w R :=
  fx_val (v := .bool true) (w' := w) hw (by
    have hg := run_eqGuard_agg (P := P) w .eql t x y (u8s D) (u8s D) h0
    have hq := run_equalArr (P := P) w 9998 t elem 32 ht he hs D D hD hD
    unfold execOp
    generalize a.eval = ev at *
    simp only [ho]
    simp only [hx, hy] at *
    simp [go_sem, hx, hy, hg, hq]) hR
theorem fx_eqIntG {P : Program} {ops : Array Oper} {o : Oper} {a : Act} {w : World} {R : Value → World → Prop} (ty : TypeId) (x y : Operand) (hw : Region.wanted o (yielded ops a.tmps) = true) (ho : o.op = .binOp .eql ty x y ty) (hu : P.underlying ty = some (.int .i64)) (h0 : ∀ E : Int, (binOp .eql ty (.int .i64 E) (.int .i64 E)).run P w = .ok (.bool true) w)
    (E : Int) (hx : a.eval x = .int .i64 E) (hy : a.eval y = .int .i64 E) (hR : R (.bool true) w) : FxStep P ops o a w R :=
  fx_val (v := .bool true) (w' := w) hw (by
    unfold execOp
    generalize a.eval = ev at *
    simp only [ho]
    simp [go_sem, hx, hy]) hR
theorem fx_pickD {P : Program} {ops : Array Oper} {o : Oper} {a : Act} {w : World} {R : Value → World → Prop} (x y z : Operand) (hg : o.guard = none) (ho : o.op = .pick x y z) (v : Value) (hx : a.eval x = .bool true) (hy : a.eval y = v) (hR : R v w) : FxStep P ops o a w R :=
  fx_val (P := P) (ops := ops) (o := o) (a := a) (w := w) (v := v) (w' := w) (by simp [Region.wanted, hg]) (by
    unfold execOp
    generalize a.eval = ev at hx hy ⊢
    simp only [ho]
    simp [go_sem, hx, hy]) hR
set_option maxHeartbeats 16000000 in
set_option maxRecDepth 100000 in
theorem sums_law {Tg Tf : TypeId} (A : Option Addr) (c : Nat) (L : List (List Int)) (x y : List Int) (w : World) (hLc : L.length ≤ c) (hcm : c ≤ maxLen) (hn : L.length ≤ 1048576) (hfl : L.flatten.length ≤ 1048576) (hb : ∀ i, Bytes (nthL L i)) (hcel : CelS w A L) (lx : x.length = 32) (ly : y.length = 32) (bx : Bytes x) (hby : Bytes y) (hG : GlO Tg Tf w) :
    Calls Tryd.prog 4 #[.slice A L.length c, .agg (u8s x), .agg (u8s y)] w fun e w' => e = .returned (.bool true) ∧ Below w.heap.size w w' := by
  obtain ⟨D3, E3, P3⟩ := pie_packD (Tg := Tg) (Tf := Tf) L hb hfl
  have hP := Lib.hid P3
  have hP1 := Lib.hid (fun (wz : World) (h1 : CelS wz A L) (h2 : GlO Tg Tf wz) => P3.p A c wz hLc hcm h1 h2)
  have hP2 := Lib.hid (fun (wz : World) (h1 : CelS wz A L) => P3.q A c wz h1)
  have hW := Lib.hid (fun (wz : World) (h1 : CelS wz A L) => whole_any A c L wz (by omega) hfl h1)
  have hLg := Lib.hid (fun (wz : World) (h1 : CelS wz A L) => long_any A L.length c wz (by omega) (fun i hi => by
    obtain ⟨b, o, e, _, s, h2, h3⟩ := h1 i hi
    obtain ⟨sa, sc, rfl⟩ := h3.slice
    exact ⟨b, o, e, sa, _, sc, h2⟩))
  have hS1 := Lib.hid (fun i => sum_packD (Tg := Tg) (Tf := Tf) (nthL L i) (hb i) (Nat.le_trans (nthL_flat L i) hfl))
  have hcm1 := Lib.hid (fun (wz : World) => cmp_any x y wz lx ly bx hby)
  have hcm2 := Lib.hid (fun (wz : World) => rcmp_any x y wz lx ly bx hby)
  have hfl' := Lib.hid hfl
  have hC := Lib.hid hcel
  have hGw := Lib.hid hG
  have hn' := hn
  clear P3 hb hcel hG bx hby hfl
  generalize hFL : L.flatten = FL at *
  obtain ⟨n, hm⟩ : ∃ n, L.length = n := ⟨_, rfl⟩
  rw [hm] at hP1 hP2 hW hLg hn' ⊢
  have hm' := Lib.hid hm
  clear hm hFL hLc hcm hn
  obtain ⟨W, hWx⟩ : ∃ W, W = (w.alloc (.cells (u8s x) 33)).alloc (.cells (u8s y) 33) := ⟨_, rfl⟩
  have hS0 := Lib.hid (show Below w.heap.size w W by rw [hWx]; exact ((Below.refl w.heap.size w).alloc (Nat.le_refl _) _).alloc (by simp) _)
  have r4 := Lib.hid (show W.heap[w.heap.size]? = some (.cells (u8s x) 33 (0, 0)) by rw [hWx]; exact (hp1 _ _ _ (by simp)).trans (heap_alloc_new w _))
  have r5 := Lib.hid (show W.heap[w.heap.size + 1]? = some (.cells (u8s y) 33 (0, 0)) by rw [hWx]; exact hn2 w _ _)
  have dx := Lib.hid (show (Tryd.prog.info? 33).map (·.size) = some (u8s x).size by rw [u8s_size, lx]; kernel_rfl)
  have dy := Lib.hid (show (Tryd.prog.info? 33).map (·.size) = some (u8s y).size by rw [u8s_size, ly]; kernel_rfl)
  go_enter Tryd.func4, Tryd.ntmps4
  go_upto_region 1 with fail
  rw [← hWx]
  clear hWx lx ly
  go_upto_if 18 with (go_at_call 13; (with_reducible refine (hLg.out _ (hC.out.mono hS0.out)).mono ?_); rintro e9 w4 ⟨⟨bl, rfl⟩, rfl⟩)
  cases bl with
  | true =>
    go_wp2
    go_ret
    exact ⟨rfl, hS0.out⟩
  | false =>
    obtain ⟨fn, hfn⟩ : ∃ n, FL.length = n := ⟨_, rfl⟩
    have hfn' := Lib.hid hfn
    have hf1 := hfl'.out
    rw [hfn] at hf1
    clear hfn
    go_upto_region 4 with (go_at_call 14; (with_reducible refine (hW.out _ (hC.out.mono hS0.out)).mono ?_); rintro e9 w4 ⟨r, rfl, q1, q2⟩; obtain ⟨wa, wc, hr⟩ : ∃ a c, r = .slice a fn c := (by obtain ⟨a, c, e⟩ := q1.rd.slice; rw [hfn'.out] at e; exact ⟨a, c, e⟩); subst hr; (try replace r4 := Lib.hid (rowD r4.out q2)); (try replace r5 := Lib.hid (rowD r5.out q2)); (try replace xW := Lib.hid (xW.out.mono q2)); replace hS0 := Lib.hid (hS0.out.trans (q2.mono hS0.out.size)); have xW := Lib.hid q1.rd; clear q1 q2)
    go_wp2
    go_loopw [8] (fun i wr => ∃ j : Nat, j ≤ n ∧ i = .int .i64 (j : Int) ∧ Below w4.heap.size w4 wr) (fun i _ => n - (intOf i).toNat)
    case atStart => exact ⟨0, Nat.zero_le _, rfl, Below.refl _ _⟩
    case round =>
      obtain ⟨j, hj, rfl, hb0⟩ := hrel
      by_cases hlt : j < n
      · have hjl := Lib.hid hlt
        have hjI : (j : Int) < (n : Int) := by omega
        have hS := Lib.hid hb0
        obtain ⟨b, o, hA, hbl, s, hs, hr⟩ := (hC.out.mono hS0.out).mono hb0 j (by rw [hm'.out]; exact hlt)
        obtain ⟨D, E, Q1⟩ := hS1.out j
        have hQ := Lib.hid Q1
        obtain ⟨sa, sc, rfl⟩ := hr.slice
        have hrs := Lib.hid hr
        have hbl' := Lib.hid hbl
        have hs' := Lib.hid hs
        generalize nthL L j = l at *
        generalize hll : l.length = ll at *
        clear hll hr Q1 hb0 hj hbl
        subst hA
        have di := Lib.hid (show (Tryd.prog.info? 33).map (·.size) = some (u8s D).size by rw [u8s_size, hQ.out.len]; kernel_rfl)
        have ds := Lib.hid (show 32 = (u8s D).size by rw [u8s_size, hQ.out.len])
        have dl := Lib.hid hQ.out.len
        go_upto_region 8 with (first | (go_at_call 15; (with_reducible refine (hQ.out.p _ _ hrs.out (hGw.out.mono (hS0.out.trans (hS.out.mono hS0.out.size)))).mono ?_); rintro e9 w5 ⟨rfl, q2⟩; (try replace r9 := Lib.hid (rowD r9.out q2)); (try replace hrs := Lib.hid (hrs.out.mono q2)); (try replace hs' := Lib.hid ((q2.cell (p := (⟨b, o + j, none⟩ : Addr)) hbl'.out).trans hs'.out)); (try replace hbl' := Lib.hid (Nat.lt_of_lt_of_le hbl'.out q2.size)); replace hS := Lib.hid (hS.out.trans (q2.mono hS.out.size)); clear q2) | (refine storeNew w5 rfl 33 _ _ rfl (u8s D) 33 rfl rfl di.out (Eq.trans (by kernel_rfl) ds.out) (u8s_one _) ?_; intro wx hrx hbx; (try replace r9 := Lib.hid (rowD r9.out hbx)); (try replace hrs := Lib.hid (hrs.out.mono hbx)); (try replace hs' := Lib.hid ((hbx.cell (p := (⟨b, o + j, none⟩ : Addr)) hbl'.out).trans hs'.out)); (try replace hbl' := Lib.hid (Nat.lt_of_lt_of_le hbl'.out hbx.size)); replace hS := Lib.hid (hS.out.trans (hbx.mono hS.out.size)); have r9 := Lib.hid hrx; clear hrx hbx))
        clear hs
        generalize w5.heap.size = g9 at *
        clear w5
        have hs := hs'.out
        go_upto_region 9 with (first | (go_at_call 16; (with_reducible refine (hQ.out.q _ _ hrs.out).mono ?_); rintro e9 w5 ⟨rfl, q2⟩; (try replace r9 := Lib.hid (rowD r9.out q2)); (try replace hrs := Lib.hid (hrs.out.mono q2)); (try replace hs' := Lib.hid ((q2.cell (p := (⟨b, o + j, none⟩ : Addr)) hbl'.out).trans hs'.out)); (try replace hbl' := Lib.hid (Nat.lt_of_lt_of_le hbl'.out q2.size)); replace hS := Lib.hid (hS.out.trans (q2.mono hS.out.size)); clear q2) | (refine storeNew w5 rfl 33 _ _ rfl (u8s D) 33 rfl rfl di.out (Eq.trans (by kernel_rfl) ds.out) (u8s_one _) ?_; intro wx hrx hbx; (try replace r9 := Lib.hid (rowD r9.out hbx)); (try replace hrs := Lib.hid (hrs.out.mono hbx)); (try replace hs' := Lib.hid ((hbx.cell (p := (⟨b, o + j, none⟩ : Addr)) hbl'.out).trans hs'.out)); (try replace hbl' := Lib.hid (Nat.lt_of_lt_of_le hbl'.out hbx.size)); replace hS := Lib.hid (hS.out.trans (hbx.mono hS.out.size)); have r11 := Lib.hid hrx; clear hrx hbx))
        clear hs
        generalize w5.heap.size = g11 at *
        go_wp2_with (first | (refine wpList_load_row_g rfl 33 _ rfl g9 rfl 33 (u8s D) (0, 0) _ r9.out Tryd.underlying33 rfl di.out ?_) | (refine wpList_load_row_g rfl 33 _ rfl g11 rfl 33 (u8s D) (0, 0) _ r11.out Tryd.underlying33 rfl di.out ?_) | (refine wpList_neID rfl 33 5 _ _ rfl Tryd.underlying33 Tryd.underlying5 (by kernel_rfl) (by kernel_rfl) D dl.out rfl rfl ?_))
        have hw1 : IntKind.i64.wrap ((j : Int) + 1) = ((j + 1 : Nat) : Int) := by rw [IntWalk.i64_in _ (by omega)]; omega
        go_roundw
        case rel => exact ⟨j + 1, by have := hjl.out; omega, by go_num, hS.out⟩
        case measure => simp [intOf]; have := hjl.out; omega
      · obtain rfl : n = j := by omega
        clear hlt hj
        (try replace r4 := Lib.hid (rowD r4.out hb0))
        (try replace r5 := Lib.hid (rowD r5.out hb0))
        (try replace xW := Lib.hid (xW.out.mono hb0))
        replace hS0 := Lib.hid (hS0.out.trans (hb0.mono hS0.out.size))
        clear hb0 hLg hS1
        have di := Lib.hid (show (Tryd.prog.info? 33).map (·.size) = some (u8s D3).size by rw [u8s_size, hP.out.len]; kernel_rfl)
        have ds := Lib.hid (show 32 = (u8s D3).size by rw [u8s_size, hP.out.len])
        have dl := Lib.hid hP.out.len
        go_upto_region 12 with (first | (go_at_call 17; (with_reducible refine (hP1.out _ (hC.out.mono hS0.out) (hGw.out.mono hS0.out)).mono ?_); rintro e9 w5 ⟨rfl, q2⟩; (try replace r4 := Lib.hid (rowD r4.out q2)); (try replace r5 := Lib.hid (rowD r5.out q2)); (try replace xW := Lib.hid (xW.out.mono q2)); replace hS0 := Lib.hid (hS0.out.trans (q2.mono hS0.out.size)); clear q2) | (refine storeNew w5 rfl 33 _ _ rfl (u8s D3) 33 rfl rfl di.out (Eq.trans (by kernel_rfl) ds.out) (u8s_one _) ?_; intro wx hrx hbx; (try replace r4 := Lib.hid (rowD r4.out hbx)); (try replace r5 := Lib.hid (rowD r5.out hbx)); (try replace xW := Lib.hid (xW.out.mono hbx)); replace hS0 := Lib.hid (hS0.out.trans (hbx.mono hS0.out.size)); have r13 := Lib.hid hrx; clear hrx hbx))
        generalize w5.heap.size = g13 at *
        clear w5
        go_upto_region 13 with (first | (go_at_call 18; (with_reducible refine (hP2.out _ (hC.out.mono hS0.out)).mono ?_); rintro e9 w5 ⟨rfl, q2⟩; (try replace r4 := Lib.hid (rowD r4.out q2)); (try replace r5 := Lib.hid (rowD r5.out q2)); (try replace r13 := Lib.hid (rowD r13.out q2)); (try replace xW := Lib.hid (xW.out.mono q2)); replace hS0 := Lib.hid (hS0.out.trans (q2.mono hS0.out.size)); clear q2) | (refine storeNew w5 rfl 33 _ _ rfl (u8s D3) 33 rfl rfl di.out (Eq.trans (by kernel_rfl) ds.out) (u8s_one _) ?_; intro wx hrx hbx; (try replace r4 := Lib.hid (rowD r4.out hbx)); (try replace r5 := Lib.hid (rowD r5.out hbx)); (try replace r13 := Lib.hid (rowD r13.out hbx)); (try replace xW := Lib.hid (xW.out.mono hbx)); replace hS0 := Lib.hid (hS0.out.trans (hbx.mono hS0.out.size)); have r15 := Lib.hid hrx; clear hrx hbx))
        generalize w5.heap.size = g15 at *
        clear w5
        have hmono := Lib.hid (fun (wz : World) (h : Below wx.heap.size wx wz) => hS0.out.trans (h.mono hS0.out.size))
        refine wp_region_fx 23 smA (by kernel_rfl) (by kernel_rfl) (smΦ D3 x y FL E3 (cmpF x y) (.slice A n c) (.slice wa fn wc) fn) (fun _ a b => Below a.heap.size a b) (fun wz => Below wx.heap.size wx wz) (fun _ _ => True)
          (Below.refl _ _).drew (fun _ _ => trivial) (fun i a b hi h hg => h.trans (Below.mono hg h.size)) (fun i j v a b hi hj ha _ h hg => sm_keep j v a b hj h hg) (fun i j a b hi hj ha _ h hg => trivial) ?hstep ?hdone
        case hstep =>
          intro i op vs wz hi hop hinv hpre hd
          match i, hi with
          | 0, _ =>
            simp only [List.getElem?_toArray, List.getElem?_cons_zero, List.getElem?_cons_succ, Option.some.injEq] at hop
            subst hop
            generalize hfr : fxF _ vs fxT _ 0 = fr
            have e : fr.eval (.tmp 13) = .pointer (some ⟨g13, 0, none⟩) := by rw [← hfr]; exact fx_old 0 (by kernel_rfl)
            clear hfr
            exact fx_rowG 33 (.tmp 13) rfl rfl (g13) e (u8s D3) (run_loadVar_row wz (g13) 33 33 (u8s D3) (0, 0) _ (rowD r13.out hinv) Tryd.underlying33 rfl di.out) ⟨rfl, Below.refl _ _⟩
          | 1, _ =>
            simp only [List.getElem?_toArray, List.getElem?_cons_zero, List.getElem?_cons_succ, Option.some.injEq] at hop
            subst hop
            generalize hfr : fxF _ vs fxT _ 1 = fr
            have e : fr.eval (.tmp 15) = .pointer (some ⟨g15, 0, none⟩) := by rw [← hfr]; exact fx_old 1 (by kernel_rfl)
            clear hfr
            exact fx_rowG 33 (.tmp 15) rfl rfl (g15) e (u8s D3) (run_loadVar_row wz (g15) 33 33 (u8s D3) (0, 0) _ (rowD r15.out hinv) Tryd.underlying33 rfl di.out) ⟨rfl, Below.refl _ _⟩
          | 2, _ =>
            simp only [List.getElem?_toArray, List.getElem?_cons_zero, List.getElem?_cons_succ, Option.some.injEq] at hop
            subst hop
            have h0 : vs 0 = .agg (u8s D3) := hd 0 (by decide)
            have h1 : vs 1 = .agg (u8s D3) := hd 1 (by decide)
            generalize hfr : fxF _ vs fxT _ 2 = fr
            have e1 : fr.eval (.tmp 61) = .agg (u8s D3) := by rw [← hfr]; exact (fx_new (by simp) 2 (by kernel_rfl)).trans h0
            have e2 : fr.eval (.tmp 62) = .agg (u8s D3) := by rw [← hfr]; exact (fx_new (by simp) 2 (by kernel_rfl)).trans h1
            clear hfr
            exact fx_eqIDG 33 5 (.tmp 61) (.tmp 62) rfl rfl Tryd.underlying33 Tryd.underlying5 (by kernel_rfl) (by kernel_rfl) D3 dl.out e1 e2 ⟨rfl, Below.refl _ _⟩
          | 3, _ =>
            simp only [List.getElem?_toArray, List.getElem?_cons_zero, List.getElem?_cons_succ, Option.some.injEq] at hop
            subst hop
            have hs : vs 2 = .bool true := hd 2 (by decide)
            generalize hfr : fxF _ vs fxT _ 3 = fr
            have e : fr.eval (.tmp 63) = .bool true := by rw [← hfr]; exact (fx_new (by simp) 3 (by kernel_rfl)).trans hs
            clear hfr
            exact fx_moveG (.tmp 63) rfl rfl ⟨e, Below.refl _ _⟩
          | 4, _ =>
            simp only [List.getElem?_toArray, List.getElem?_cons_zero, List.getElem?_cons_succ, Option.some.injEq] at hop
            subst hop
            have h3 : vs 3 = .bool true := hd 3 (by decide)
            generalize hfr : fxF _ vs fxT _ 4 = fr
            have e : fr.eval (.tmp 14) = .int .i64 E3 := by rw [← hfr]; exact fx_old 4 (by kernel_rfl)
            have eg : fr.eval (.tmp 64) = .bool true := by rw [← hfr]; exact (fx_new (by simp) 4 (by kernel_rfl)).trans h3
            clear hfr
            exact fx_moveG (.tmp 14) (fx_wantedD rfl rfl eg) rfl ⟨e, Below.refl _ _⟩
          | 5, _ =>
            simp only [List.getElem?_toArray, List.getElem?_cons_zero, List.getElem?_cons_succ, Option.some.injEq] at hop
            subst hop
            have h3 : vs 3 = .bool true := hd 3 (by decide)
            generalize hfr : fxF _ vs fxT _ 5 = fr
            have e : fr.eval (.tmp 16) = .int .i64 E3 := by rw [← hfr]; exact fx_old 5 (by kernel_rfl)
            have eg : fr.eval (.tmp 64) = .bool true := by rw [← hfr]; exact (fx_new (by simp) 5 (by kernel_rfl)).trans h3
            clear hfr
            exact fx_moveG (.tmp 16) (fx_wantedD rfl rfl eg) rfl ⟨e, Below.refl _ _⟩
          | 6, _ =>
            simp only [List.getElem?_toArray, List.getElem?_cons_zero, List.getElem?_cons_succ, Option.some.injEq] at hop
            subst hop
            have h3 : vs 3 = .bool true := hd 3 (by decide)
            have h4 : vs 4 = .int .i64 E3 := hd 4 (by decide)
            have h5 : vs 5 = .int .i64 E3 := hd 5 (by decide)
            generalize hfr : fxF _ vs fxT _ 6 = fr
            have eg : fr.eval (.tmp 64) = .bool true := by rw [← hfr]; exact (fx_new (by simp) 6 (by kernel_rfl)).trans h3
            have e1 : fr.eval (.tmp 65) = .int .i64 E3 := by rw [← hfr]; exact (fx_new (by simp) 6 (by kernel_rfl)).trans h4
            have e2 : fr.eval (.tmp 66) = .int .i64 E3 := by rw [← hfr]; exact (fx_new (by simp) 6 (by kernel_rfl)).trans h5
            clear hfr
            exact fx_eqIntG 3 (.tmp 65) (.tmp 66) (fx_wantedD rfl rfl eg) rfl Tryd.underlying3 (fun E => by simp [go_sem]) _ e1 e2 ⟨rfl, Below.refl _ _⟩
          | 7, _ =>
            simp only [List.getElem?_toArray, List.getElem?_cons_zero, List.getElem?_cons_succ, Option.some.injEq] at hop
            subst hop
            have h3 : vs 3 = .bool true := hd 3 (by decide)
            have k6 : vs 6 = .bool true := hd 6 (by decide)
            generalize hfr : fxF _ vs fxT _ 7 = fr
            have e1 : fr.eval (.tmp 64) = .bool true := by rw [← hfr]; exact (fx_new (by simp) 7 (by kernel_rfl)).trans h3
            have e2 : fr.eval (.tmp 67) = .bool true := by rw [← hfr]; exact (fx_new (by simp) 7 (by kernel_rfl)).trans k6
            clear hfr
            exact fx_pickD (.tmp 64) (.tmp 67) (.const (.bool false)) rfl rfl (.bool true) e1 e2 ⟨rfl, Below.refl _ _⟩
          | 8, _ =>
            simp only [List.getElem?_toArray, List.getElem?_cons_zero, List.getElem?_cons_succ, Option.some.injEq] at hop
            subst hop
            have hs : vs 7 = .bool true := hd 7 (by decide)
            generalize hfr : fxF _ vs fxT _ 8 = fr
            have e : fr.eval (.tmp 68) = .bool true := by rw [← hfr]; exact (fx_new (by simp) 8 (by kernel_rfl)).trans hs
            clear hfr
            exact fx_moveG (.tmp 68) rfl rfl ⟨e, Below.refl _ _⟩
          | 9, _ =>
            simp only [List.getElem?_toArray, List.getElem?_cons_zero, List.getElem?_cons_succ, Option.some.injEq] at hop
            subst hop
            have h8 : vs 8 = .bool true := hd 8 (by decide)
            generalize hfr : fxF _ vs fxT _ 9 = fr
            have e : fr.eval (.tmp 4) = .pointer (some ⟨w.heap.size, 0, none⟩) := by rw [← hfr]; exact fx_old 9 (by kernel_rfl)
            have eg : fr.eval (.tmp 69) = .bool true := by rw [← hfr]; exact (fx_new (by simp) 9 (by kernel_rfl)).trans h8
            clear hfr
            exact fx_rowG 33 (.tmp 4) (fx_wantedD rfl rfl eg) rfl (w.heap.size) e (u8s x) (run_loadVar_row wz (w.heap.size) 33 33 (u8s x) (0, 0) _ (rowD r4.out hinv) Tryd.underlying33 rfl dx.out) ⟨rfl, Below.refl _ _⟩
          | 10, _ =>
            simp only [List.getElem?_toArray, List.getElem?_cons_zero, List.getElem?_cons_succ, Option.some.injEq] at hop
            subst hop
            have h8 : vs 8 = .bool true := hd 8 (by decide)
            generalize hfr : fxF _ vs fxT _ 10 = fr
            have e : fr.eval (.tmp 5) = .pointer (some ⟨w.heap.size + 1, 0, none⟩) := by rw [← hfr]; exact fx_old 10 (by kernel_rfl)
            have eg : fr.eval (.tmp 69) = .bool true := by rw [← hfr]; exact (fx_new (by simp) 10 (by kernel_rfl)).trans h8
            clear hfr
            exact fx_rowG 33 (.tmp 5) (fx_wantedD rfl rfl eg) rfl (w.heap.size + 1) e (u8s y) (run_loadVar_row wz (w.heap.size + 1) 33 33 (u8s y) (0, 0) _ (rowD r5.out hinv) Tryd.underlying33 rfl dy.out) ⟨rfl, Below.refl _ _⟩
          | 11, _ =>
            simp only [List.getElem?_toArray, List.getElem?_cons_zero, List.getElem?_cons_succ, Option.some.injEq] at hop
            subst hop
            have h8 : vs 8 = .bool true := hd 8 (by decide)
            have h9 : vs 9 = .agg (u8s x) := hd 9 (by decide)
            have h10 : vs 10 = .agg (u8s y) := hd 10 (by decide)
            generalize hfr : fxF _ vs fxT _ 11 = fr
            have eg : fr.eval (.tmp 69) = .bool true := by rw [← hfr]; exact (fx_new (by simp) 11 (by kernel_rfl)).trans h8
            have e1 : fr.eval (.tmp 70) = .agg (u8s x) := by rw [← hfr]; exact (fx_new (by simp) 11 (by kernel_rfl)).trans h9
            have e2 : fr.eval (.tmp 71) = .agg (u8s y) := by rw [← hfr]; exact (fx_new (by simp) 11 (by kernel_rfl)).trans h10
            clear hfr
            refine fx_call #[.agg (u8s x), .agg (u8s y)] (fx_wantedD rfl rfl eg) rfl Tryd.func19 (by kernel_rfl) rfl (by simp [e1, e2]) rfl ((hcm1.out wz).mono ?_)
            rintro e9 w9 ⟨rfl, z2⟩
            exact ⟨_, rfl, rfl, z2⟩
          | 12, _ =>
            simp only [List.getElem?_toArray, List.getElem?_cons_zero, List.getElem?_cons_succ, Option.some.injEq] at hop
            subst hop
            have h8 : vs 8 = .bool true := hd 8 (by decide)
            generalize hfr : fxF _ vs fxT _ 12 = fr
            have e : fr.eval (.tmp 4) = .pointer (some ⟨w.heap.size, 0, none⟩) := by rw [← hfr]; exact fx_old 12 (by kernel_rfl)
            have eg : fr.eval (.tmp 69) = .bool true := by rw [← hfr]; exact (fx_new (by simp) 12 (by kernel_rfl)).trans h8
            clear hfr
            exact fx_rowG 33 (.tmp 4) (fx_wantedD rfl rfl eg) rfl (w.heap.size) e (u8s x) (run_loadVar_row wz (w.heap.size) 33 33 (u8s x) (0, 0) _ (rowD r4.out hinv) Tryd.underlying33 rfl dx.out) ⟨rfl, Below.refl _ _⟩
          | 13, _ =>
            simp only [List.getElem?_toArray, List.getElem?_cons_zero, List.getElem?_cons_succ, Option.some.injEq] at hop
            subst hop
            have h8 : vs 8 = .bool true := hd 8 (by decide)
            generalize hfr : fxF _ vs fxT _ 13 = fr
            have e : fr.eval (.tmp 5) = .pointer (some ⟨w.heap.size + 1, 0, none⟩) := by rw [← hfr]; exact fx_old 13 (by kernel_rfl)
            have eg : fr.eval (.tmp 69) = .bool true := by rw [← hfr]; exact (fx_new (by simp) 13 (by kernel_rfl)).trans h8
            clear hfr
            exact fx_rowG 33 (.tmp 5) (fx_wantedD rfl rfl eg) rfl (w.heap.size + 1) e (u8s y) (run_loadVar_row wz (w.heap.size + 1) 33 33 (u8s y) (0, 0) _ (rowD r5.out hinv) Tryd.underlying33 rfl dy.out) ⟨rfl, Below.refl _ _⟩
          | 14, _ =>
            simp only [List.getElem?_toArray, List.getElem?_cons_zero, List.getElem?_cons_succ, Option.some.injEq] at hop
            subst hop
            have h8 : vs 8 = .bool true := hd 8 (by decide)
            have h12 : vs 12 = .agg (u8s x) := hd 12 (by decide)
            have h13 : vs 13 = .agg (u8s y) := hd 13 (by decide)
            generalize hfr : fxF _ vs fxT _ 14 = fr
            have eg : fr.eval (.tmp 69) = .bool true := by rw [← hfr]; exact (fx_new (by simp) 14 (by kernel_rfl)).trans h8
            have e1 : fr.eval (.tmp 73) = .agg (u8s x) := by rw [← hfr]; exact (fx_new (by simp) 14 (by kernel_rfl)).trans h12
            have e2 : fr.eval (.tmp 74) = .agg (u8s y) := by rw [← hfr]; exact (fx_new (by simp) 14 (by kernel_rfl)).trans h13
            clear hfr
            refine fx_call #[.agg (u8s x), .agg (u8s y)] (fx_wantedD rfl rfl eg) rfl Tryd.func20 (by kernel_rfl) rfl (by simp [e1, e2]) rfl ((hcm2.out wz).mono ?_)
            rintro e9 w9 ⟨rfl, z2⟩
            exact ⟨_, rfl, rfl, z2⟩
          | 15, _ =>
            simp only [List.getElem?_toArray, List.getElem?_cons_zero, List.getElem?_cons_succ, Option.some.injEq] at hop
            subst hop
            have h8 : vs 8 = .bool true := hd 8 (by decide)
            have h11 : vs 11 = .int .i64 (cmpF x y) := hd 11 (by decide)
            have h14 : vs 14 = .int .i64 (cmpF x y) := hd 14 (by decide)
            generalize hfr : fxF _ vs fxT _ 15 = fr
            have eg : fr.eval (.tmp 69) = .bool true := by rw [← hfr]; exact (fx_new (by simp) 15 (by kernel_rfl)).trans h8
            have e1 : fr.eval (.tmp 72) = .int .i64 (cmpF x y) := by rw [← hfr]; exact (fx_new (by simp) 15 (by kernel_rfl)).trans h11
            have e2 : fr.eval (.tmp 75) = .int .i64 (cmpF x y) := by rw [← hfr]; exact (fx_new (by simp) 15 (by kernel_rfl)).trans h14
            clear hfr
            exact fx_eqIntG 3 (.tmp 72) (.tmp 75) (fx_wantedD rfl rfl eg) rfl Tryd.underlying3 (fun E => by simp [go_sem]) _ e1 e2 ⟨rfl, Below.refl _ _⟩
          | 16, _ =>
            simp only [List.getElem?_toArray, List.getElem?_cons_zero, List.getElem?_cons_succ, Option.some.injEq] at hop
            subst hop
            have h8 : vs 8 = .bool true := hd 8 (by decide)
            have k15 : vs 15 = .bool true := hd 15 (by decide)
            generalize hfr : fxF _ vs fxT _ 16 = fr
            have e1 : fr.eval (.tmp 69) = .bool true := by rw [← hfr]; exact (fx_new (by simp) 16 (by kernel_rfl)).trans h8
            have e2 : fr.eval (.tmp 76) = .bool true := by rw [← hfr]; exact (fx_new (by simp) 16 (by kernel_rfl)).trans k15
            clear hfr
            exact fx_pickD (.tmp 69) (.tmp 76) (.const (.bool false)) rfl rfl (.bool true) e1 e2 ⟨rfl, Below.refl _ _⟩
          | 17, _ =>
            simp only [List.getElem?_toArray, List.getElem?_cons_zero, List.getElem?_cons_succ, Option.some.injEq] at hop
            subst hop
            have hs : vs 16 = .bool true := hd 16 (by decide)
            generalize hfr : fxF _ vs fxT _ 17 = fr
            have e : fr.eval (.tmp 77) = .bool true := by rw [← hfr]; exact (fx_new (by simp) 17 (by kernel_rfl)).trans hs
            clear hfr
            exact fx_moveG (.tmp 77) rfl rfl ⟨e, Below.refl _ _⟩
          | 18, _ =>
            simp only [List.getElem?_toArray, List.getElem?_cons_zero, List.getElem?_cons_succ, Option.some.injEq] at hop
            subst hop
            have h17 : vs 17 = .bool true := hd 17 (by decide)
            generalize hfr : fxF _ vs fxT _ 18 = fr
            have e : fr.eval (.tmp 0) = .slice A n c := by rw [← hfr]; exact fx_old 18 (by kernel_rfl)
            have eg : fr.eval (.tmp 78) = .bool true := by rw [← hfr]; exact (fx_new (by simp) 18 (by kernel_rfl)).trans h17
            clear hfr
            exact fx_moveG (.tmp 0) (fx_wantedD rfl rfl eg) rfl ⟨e, Below.refl _ _⟩
          | 19, _ =>
            simp only [List.getElem?_toArray, List.getElem?_cons_zero, List.getElem?_cons_succ, Option.some.injEq] at hop
            subst hop
            have h17 : vs 17 = .bool true := hd 17 (by decide)
            have h18 : vs 18 = .slice A n c := hd 18 (by decide)
            generalize hfr : fxF _ vs fxT _ 19 = fr
            have eg : fr.eval (.tmp 78) = .bool true := by rw [← hfr]; exact (fx_new (by simp) 19 (by kernel_rfl)).trans h17
            have e1 : fr.eval (.tmp 79) = .slice A n c := by rw [← hfr]; exact (fx_new (by simp) 19 (by kernel_rfl)).trans h18
            clear hfr
            refine fx_call #[.slice A n c] (fx_wantedD rfl rfl eg) rfl Tryd.func14 (by kernel_rfl) rfl (by simp [e1]) rfl ((hW.out wz (hC.out.mono (hmono.out wz hinv))).mono ?_)
            rintro e9 w9 ⟨r, rfl, z1, z2⟩
            obtain ⟨ra, rc, hr⟩ : ∃ a c, r = .slice a fn c := (by obtain ⟨a, c, e⟩ := z1.rd.slice; rw [hfn'.out] at e; exact ⟨a, c, e⟩)
            subst hr
            exact ⟨_, rfl, ⟨ra, rc, rfl, z1.rd⟩, z2⟩
          | 20, _ =>
            simp only [List.getElem?_toArray, List.getElem?_cons_zero, List.getElem?_cons_succ, Option.some.injEq] at hop
            subst hop
            have h17 : vs 17 = .bool true := hd 17 (by decide)
            generalize hfr : fxF _ vs fxT _ 20 = fr
            have e : fr.eval (.tmp 7) = .slice wa fn wc := by rw [← hfr]; exact fx_old 20 (by kernel_rfl)
            have eg : fr.eval (.tmp 78) = .bool true := by rw [← hfr]; exact (fx_new (by simp) 20 (by kernel_rfl)).trans h17
            clear hfr
            exact fx_moveG (.tmp 7) (fx_wantedD rfl rfl eg) rfl ⟨e, Below.refl _ _⟩
          | 21, _ =>
            simp only [List.getElem?_toArray, List.getElem?_cons_zero, List.getElem?_cons_succ, Option.some.injEq] at hop
            subst hop
            generalize hfr : fxF _ vs fxT _ 21 = fr
            have h17 : vs 17 = .bool true := hd 17 (by decide)
            obtain ⟨ra, rc, h19, rr⟩ : ∃ a c, vs 19 = .slice a fn c ∧ RdB wz (.slice a fn c) FL := hd 19 (by decide)
            have h20 : vs 20 = .slice wa fn wc := hd 20 (by decide)
            have eg : fr.eval (.tmp 78) = .bool true := by rw [← hfr]; exact (fx_new (by simp) 21 (by kernel_rfl)).trans h17
            have e1 : fr.eval (.tmp 80) = .slice ra fn rc := by rw [← hfr]; exact (fx_new (by simp) 21 (by kernel_rfl)).trans h19
            have e2 : fr.eval (.tmp 81) = .slice wa fn wc := by rw [← hfr]; exact (fx_new (by simp) 21 (by kernel_rfl)).trans h20
            clear hfr
            refine fx_call #[.slice ra fn rc, .slice wa fn wc] (fx_wantedD rfl rfl eg) rfl Tryd.func10 (by kernel_rfl) rfl (by simp [e1, e2]) rfl ((sameb_yes ra wa rc wc fn FL wz hfn'.out (by omega) rr (xW.out.mono hinv)).mono ?_)
            rintro e9 w9 ⟨rfl, z2⟩
            exact ⟨_, rfl, rfl, z2⟩
          | 22, _ =>
            simp only [List.getElem?_toArray, List.getElem?_cons_zero, List.getElem?_cons_succ, Option.some.injEq] at hop
            subst hop
            have h17 : vs 17 = .bool true := hd 17 (by decide)
            have k21 : vs 21 = .bool true := hd 21 (by decide)
            generalize hfr : fxF _ vs fxT _ 22 = fr
            have e1 : fr.eval (.tmp 78) = .bool true := by rw [← hfr]; exact (fx_new (by simp) 22 (by kernel_rfl)).trans h17
            have e2 : fr.eval (.tmp 82) = .bool true := by rw [← hfr]; exact (fx_new (by simp) 22 (by kernel_rfl)).trans k21
            clear hfr
            exact fx_pickD (.tmp 78) (.tmp 82) (.const (.bool false)) rfl rfl (.bool true) e1 e2 ⟨rfl, Below.refl _ _⟩
          | i' + 23, hi' => exact absurd hi' (by omega)
        case hdone =>
          intro vs w5 hinv hf
          have h22 : vs 22 = .bool true := hf 22 (by decide)
          have hfin := Lib.hid (hmono.out w5 hinv)
          simp only [fxF, fxT, if_true, List.drop_succ_cons, List.drop_zero, List.getElem?_toArray, List.getElem?_cons_zero, List.getElem?_cons_succ, Option.bind_some]
          rw [h22]
          clear hf h22 hinv
          generalize vs 0 = z0 at *
          generalize vs 1 = z1 at *
          generalize vs 2 = z2 at *
          generalize vs 3 = z3 at *
          generalize vs 4 = z4 at *
          generalize vs 5 = z5 at *
          generalize vs 6 = z6 at *
          generalize vs 7 = z7 at *
          generalize vs 8 = z8 at *
          generalize vs 9 = z9 at *
          generalize vs 10 = z10 at *
          generalize vs 11 = z11 at *
          generalize vs 12 = z12 at *
          generalize vs 13 = z13 at *
          generalize vs 14 = z14 at *
          generalize vs 15 = z15 at *
          generalize vs 16 = z16 at *
          generalize vs 17 = z17 at *
          generalize vs 18 = z18 at *
          generalize vs 19 = z19 at *
          generalize vs 20 = z20 at *
          generalize vs 21 = z21 at *
          go_wp2_with fail
          go_ret
          exact ⟨rfl, hfin.out⟩
end Go.Proofs.YtdlblhoaddfanaaDoor
namespace Go.Proofs.YtdlblhoaddfanaaDoor
open Go.ChangeShapes Go.WideShapes Go.ChangeAt Go.WideMaps Go.WideElems Go.RowKit Go.YtdlblhoaddfanaaDoor
set_option linter.unusedVariables false
theorem own : ownKnob Tryd.prog.godebug = none := by kernel_rfl
theorem laidOut : laidOutB Tryd.prog = true := by kernel_rfl
theorem gFirst : Tryd.prog.globalNamed "braid/digest.firstWords" = some 0 := by kernel_rfl
theorem gConst : Tryd.prog.globalNamed "braid/digest.constants" = some 2 := by kernel_rfl
theorem tFirst : (Tryd.prog.globals[0]?).map (·.type) = some 23 := by kernel_rfl
theorem tConst : (Tryd.prog.globals[2]?).map (·.type) = some 66 := by kernel_rfl
def laidL : List (String × DataW Unit) := [("braid/digest.firstWords", Rows.laid_braid_digest_firstWords), ("braid/digest.constants", Rows.laid_braid_digest_constants)]
section
variable {H : Type} {enc : TypeId × Value → H} {P : Program} {w : World} {base : Nat} {sp : Nat → Bool} {held : Bool}
def theInt : Value → Int
  | .int _ k => k
  | _ => 0
theorem trod_ints {fuel : Nat} {t e : TypeId} {n : Nat} {kd : IntKind} {cs : List Value} {x : DataW H × List MemPlace} (ht : P.underlying t = some (.array n e)) (he : P.underlying e = some (.int kd)) (hc : P.cellsOf e = 1) (hct : P.cellsOf t = n)
    (h : DataW.trod enc P w base sp held fuel t cs = some x) : ∃ ks : List Int, cs = ks.map (Value.int kd) ∧ ks.length = n ∧ (∀ k ∈ ks, (Lit.int kd k).wf = true) ∧ x.1 = .agg (ks.map fun k => .lit (.int kd k)) := by
  obtain ⟨xs, m, rfl, rfl, hl, hn, hel⟩ := DataW.trod_array ht h
  have hlen : cs.length = n := hl.trans hct
  have key : ∀ i, i < n → ∃ k, cs[i]? = some (.int kd k) ∧ (Lit.int kd k).wf = true ∧ xs[i]? = some (.lit (.int kd k), []) := by
    intro i hi
    have hx : xs[i]? = some xs[i] := List.getElem?_eq_getElem (by omega)
    have h1 := hel i hi
    rw [hc, Nat.mul_one, hx] at h1
    obtain ⟨k, e1, e2, e3⟩ := DataW.trod_int he h1
    refine ⟨k, ?_, e3, by rw [hx, e2]⟩
    have e4 : ((cs.drop i).take 1)[0]? = some (.int kd k) := by rw [e1]; rfl
    simpa [List.getElem?_take, List.getElem?_drop] using e4
  refine ⟨cs.map theInt, ?_, by simp [hlen], ?_, ?_⟩
  · apply List.ext_getElem?
    intro i
    by_cases hi : i < n
    · obtain ⟨k, e1, _, _⟩ := key i hi
      simp [e1, theInt]
    · rw [List.getElem?_eq_none (by omega), List.getElem?_eq_none (by simp; omega)]
  · intro k hk
    obtain ⟨i, hi, rfl⟩ := List.getElem_of_mem hk
    have hi' : i < n := by simpa [hlen] using hi
    obtain ⟨k, e1, e2, _⟩ := key i hi'
    have : (cs.map theInt)[i]? = some k := by simp [e1, theInt]
    rw [List.getElem?_eq_getElem hi] at this
    rw [Option.some.inj this]; exact e2
  · show DataW.agg _ = DataW.agg _
    congr 1
    apply List.ext_getElem?
    intro i
    by_cases hi : i < n
    · obtain ⟨k, e1, _, e3⟩ := key i hi
      simp [e1, e3, theInt]
    · rw [List.getElem?_eq_none (by simp; omega), List.getElem?_eq_none (by simp; omega)]
/-- An array of integers by value, opened. -/
theorem open_arrI {r : Reach} {b0 : Nat} {t e : TypeId} {n : Nat} {kd : IntKind} {v : Value} {d : DataW H} {p : List MemPlace} (ht : P.underlying t = some (.array n e)) (he : P.underlying e = some (.int kd)) (hc : P.cellsOf e = 1) (hct : P.cellsOf t = n)
    (hv : Value.okWide P w r b0 t v) (h : DataW.Trod enc P w base sp held t v d p) : ∃ ks : List Int, v = .agg (ks.map (Value.int kd)).toArray ∧ ks.length = n ∧ ∀ k ∈ ks, (Lit.int kd k).wf = true := by
  unfold Value.okWide at hv
  rw [ht] at hv
  obtain ⟨cs, rfl, _, _⟩ := hv
  obtain ⟨fuel, hf⟩ := h
  obtain ⟨ks, e1, e2, e3, _⟩ := trod_ints ht he hc hct hf
  refine ⟨ks, ?_, e2, e3⟩
  rw [← e1]; rfl
theorem trodAll_stays (hl : laidOutB P = true) {W W' : World} {sp' : Nat → Bool} : ∀ {ts : List TypeId} {vs : List Value} {ds : List (DataW H)} {ps : List MemPlace}, (∀ t ∈ ts, P.readableRec t = true ∧ t < P.types.size) →
    DataW.TrodAll enc P W base (fun _ => true) true ts vs ds ps → (∀ p ∈ ps, W.sameAt W' p) → (∀ p ∈ ps, sp' p.block = true) → DataW.TrodAll enc P W' base sp' true ts vs ds ps
  | [], [], [], _, _, h, _, _ => h
  | [], [], _ :: _, _, _, h, _, _ => h.elim
  | [], _ :: _, _, _, _, h, _, _ => by cases ‹List (DataW H)› <;> exact h.elim
  | _ :: _, [], _, _, _, h, _, _ => by cases ‹List (DataW H)› <;> exact h.elim
  | _ :: _, _ :: _, [], _, _, h, _, _ => h.elim
  | t :: ts, v :: vs, d :: ds, ps, ht, h, hs, hp => by
    obtain ⟨p, q, h1, h2, rfl⟩ := h
    obtain ⟨r1, r2⟩ := ht t List.mem_cons_self
    exact ⟨p, q, Trod_stays hl r1 r2 h1 (fun x hx => hs x (List.mem_append_left _ hx)) (fun x hx => hp x (List.mem_append_left _ hx)),
      trodAll_stays hl (fun u hu => ht u (List.mem_cons_of_mem _ hu)) h2 (fun x hx => hs x (List.mem_append_right _ hx)) (fun x hx => hp x (List.mem_append_right _ hx)), rfl⟩
/-- A law's end: true, in a world whose old memory is as' it was. -/
theorem law_post {f : Func} {s : ChangeSpec} {apart fresh handsOn : Bool} {W W' : World} {args : Array Value} {v : Value} {ds gs : List (DataW H)} {before : List MemPlace} (hl : laidOutB P = true)
    (hts : ∀ t ∈ f.params.toList, P.readableRec t = true ∧ t < P.types.size) (hvs : varsRowed P s.vars = true)
    (hW : DataW.Whole enc P f.params.toList s.vars apart W args.toList ds gs before) (hb : Below W.heap.size W W')
    (hres : ∀ (b : Nat) (sp : Nat → Bool) (hd : Bool), DataW.TrodAll enc P W' b sp hd f.resultTypes.toList (v.resultList f.resultTypes.size) (s.fn H (ds ++ gs)).results [])
    (hargs : (s.fn H (ds ++ gs)).args = ds) (hvars : (s.fn H (ds ++ gs)).vars = gs) :
    s.post enc P f apart fresh handsOn false W args v W' := by
  have hW2 := hW
  have hlt : ∀ p ∈ before, p.block < W.heap.size := fun p hp => hW.lt p hp
  obtain ⟨p, q, hA, hV, rfl, hfz, hnd⟩ := hW
  refine ⟨ds, gs, p ++ q, [], p, q, hW2, hres _ _ _, ?_, ?_, hb.frame _, fun h => by cases h⟩
  · rw [hargs]
    exact trodAll_stays hl hts hA (fun x hx => hb.same (hlt x (List.mem_append_left _ hx))) (fun x hx => by simpa using hlt x (List.mem_append_left _ hx))
  · rw [hvars]
    exact Below.trodVars hl hb hvs hV
end
theorem u32s_of {cs : Array Value} {ks : List Int} (h : cs.toList = ks.map (Value.int .u32)) : cs = u32s ks := by
  apply Array.toList_inj.1
  rw [h]; simp [u32s]
theorem lits_inj : ∀ {a b : List Int}, (a.map fun k => (DataW.lit (.int .u32 k) : DataW Unit)) = b.map (fun k => .lit (.int .u32 k)) → a = b
  | [], [], _ => rfl
  | [], _ :: _, h => by simp at h
  | _ :: _, [], h => by simp at h
  | a :: xs, b :: ys, h => by
    simp only [List.map_cons, List.cons.injEq, DataW.lit.injEq, Lit.int.injEq, true_and] at h
    rw [h.1, lits_inj h.2]
theorem bytes_of {ks : List Int} (h : ∀ k ∈ ks, (Lit.int .u8 k).wf = true) : Bytes ks := by
  intro i
  unfold ith
  cases e : ks[i]? with
  | none => simp
  | some k =>
    have h2 := h k (List.mem_of_getElem? e)
    have h3 : 0 ≤ k ∧ k ≤ 255 := by simpa [Lit.wf, IntKind.min, IntKind.max, IntKind.signed, IntKind.bits] using h2
    show 0 ≤ k ∧ k < 256
    omega
/-- What the condition on the listed variables gives the walks. -/
theorem of_laid {W : World} (h : laidMetH Tryd.prog laidL W) : ∃ Tg Tf : TypeId, W.heap[2]? = some (.cells (u32s constW) Tg (0, 0)) ∧ W.heap[0]? = some (.cells firstW.cells Tf (0, 0)) := by
  rw [MakeChecks.laidMetH_plain _ _ _ (by kernel_rfl)] at h
  obtain ⟨ps, ⟨g0, t0, cs0, f0, p0, q0, hg0, ht0, hv0, hd0, ⟨g1, t1, cs1, f1, p1, q1, hg1, ht1, hv1, hd1, _, eq1⟩, eq0⟩, _, hm⟩ := h
  obtain rfl := Option.some.inj (gFirst.symm.trans hg0)
  obtain rfl := Option.some.inj (gConst.symm.trans hg1)
  obtain rfl := Option.some.inj (tFirst.symm.trans ht0)
  obtain rfl := Option.some.inj (tConst.symm.trans ht1)
  obtain ⟨k0, a0, l0, _, x0⟩ := trod_ints Tryd.underlying23 Tryd.underlying22 (by kernel_rfl) (by kernel_rfl) hd0
  obtain ⟨k1, a1, l1, _, x1⟩ := trod_ints Tryd.underlying66 Tryd.underlying22 (by kernel_rfl) (by kernel_rfl) hd1
  have c0 := u32s_of a0
  have c1 := u32s_of a1
  have d0 : k0 = firstW.list := lits_inj (DataW.agg.inj (x0.symm.trans rfl))
  have d1 : k1 = constW := lits_inj (DataW.agg.inj (x1.symm.trans rfl))
  have z0 : cs0.size = 8 := by rw [c0]; simpa [u32s] using l0
  have z1 : cs1.size = 64 := by rw [c1]; simpa [u32s] using l1
  have m0 := (hm 0 0 (by rw [eq0]; exact List.mem_append_left _ (List.mem_append_left _ (MemPlace.mem_row.2 ⟨0, by omega, rfl⟩)))).1
  have m1 := (hm 2 0 (by rw [eq0, eq1]; exact List.mem_append_right _ (List.mem_append_left _ (List.mem_append_left _ (MemPlace.mem_row.2 ⟨0, by omega, rfl⟩))))).1
  obtain ⟨e0, T0, m0⟩ := m0
  obtain ⟨e1, T1, m1⟩ := m1
  unfold World.var? at hv0 hv1
  rw [gFirst] at hv0
  rw [gConst] at hv1
  simp only [Option.bind_some, m0, m1, Option.some.injEq] at hv0 hv1
  refine ⟨T1, T0, ?_, ?_⟩
  · rw [m1, hv1, c1, d1]
  · rw [m0, hv0, c0, d0]; rfl
/-- The door's own heap meets the condition. -/
theorem door_met (os : Os) (args : Array Value) : laidMetH Tryd.prog laidL ((World.doorLaid Tryd.prog 400 os).forCall (fun _ _ => 0) ⟨#[], args, []⟩).memory :=
  laidMetH_of_parts3 (fuel := 8) (laidMet_of_run' 8 (by kernel_rfl) (by kernel_rfl)) (by kernel_rfl) (by kernel_rfl)
end Go.Proofs.YtdlblhoaddfanaaDoor
namespace Go.Proofs.YtdlblhoaddfanaaDoor
open Go.ChangeShapes Go.WideShapes Go.ChangeAt Go.WideMaps Go.WideElems Go.RowKit Go.YtdlblhoaddfanaaDoor
set_option linter.unusedVariables false
section
variable {H : Type} {enc : TypeId × Value → H} {P : Program} {W : World}
end
end Go.Proofs.YtdlblhoaddfanaaDoor

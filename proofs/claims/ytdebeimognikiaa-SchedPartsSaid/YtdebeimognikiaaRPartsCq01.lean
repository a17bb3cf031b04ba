/- Texts that the row stands on, part 1. -/
import Derived.Test.YtdebeimognikiaaRPartsCq00
namespace Go.Proofs.Ytdebeimognikiaa.con
open Go.RowKit Go.Ytdebeimognikiaa
set_option linter.unusedVariables false
/-- The world wx has the blocks from lo to hi as' w has them. -/
def Like (lo hi : Nat) (w wx : World) : Prop := (∀ k, lo ≤ k → k < hi → wx.heap[k]? = w.heap[k]?) ∧ w.heap.size ≤ wx.heap.size
/-- What holds as' long as' the blocks from lo to hi stay. -/
def Fast (lo hi : Nat) (R : World → Prop) (w : World) : Prop := ∀ wx, Like lo hi w wx → R wx
theorem Fast.now {lo hi : Nat} {R : World → Prop} {w : World} (h : Fast lo hi R w) : R w := h w ⟨fun _ _ _ => rfl, Nat.le_refl _⟩
theorem Fast.keep {lo hi : Nat} {R : World → Prop} {w w' : World} (h : Fast lo hi R w) (hl : Like lo hi w w') : Fast lo hi R w' := fun wx hx => h wx ⟨fun k a b => (hx.1 k a b).trans (hl.1 k a b), Nat.le_trans hl.2 hx.2⟩
theorem fx_rowK {P : Program} {ops : Array Oper} {o : Oper} {a : Act} {w : World} {R : Value → World → Prop} (ty : TypeId) (x : Operand) (hw : Region.wanted o (yielded ops a.tmps) = true) (ho : o.op = .load ty x) (g : Nat) (hx : a.eval x = .pointer (some ⟨g, 0, none⟩)) (cs : Array Value)
    (hl : (loadVar ty ⟨g, 0, none⟩).run P w = .ok (.agg cs) w) (hR : R (.agg cs) w) : FxStep P ops o a w R :=
  fx_val (v := .agg cs) (w' := w) hw (by
    unfold execOp
    simp only [ho, hx, Instr.loadAt, Instr.sureAddr, Sem.run_bind, Sem.run_pure, Result.andThen_ok, hl]) hR
theorem fx_wantedK {ops : Array Oper} {o : Oper} {a : Act} {k : Nat} {t : Tmp} {b : Bool} (hg : o.guard = some (k, b)) (hd : (ops[k]?).bind (·.dst) = some t) (e : a.eval (.tmp t) = .bool b) : Region.wanted o (yielded ops a.tmps) = true := by
  unfold Region.wanted yielded
  rw [hg]
  simp only [hd, Option.bind_some]
  have h : (a.tmps[t]?).getD undef = .bool b := by simpa [Act.eval] using e
  cases hx : a.tmps[t]? with
  | none => rw [hx] at h; cases h
  | some v =>
    rw [hx] at h
    have h2 : v = .bool b := h
    subst h2
    simp
theorem fx_cellK {P : Program} {ops : Array Oper} {o : Oper} {a : Act} {w : World} {R : Value → World → Prop} (ty : TypeId) (x : Operand) (hw : Region.wanted o (yielded ops a.tmps) = true) (ho : o.op = .load ty x) (g k : Nat) (hx : a.eval x = .pointer (some ⟨g, k, none⟩)) (cs : Array Value) (T : TypeId) (fr : Nat × Nat) (hg : w.heap[g]? = some (.cells cs T fr)) (v : Value) (hv : cs[k]? = some v)
    (hu : ∀ w, (isAgg ty).run P w = .ok false w) (hR : R v w) : FxStep P ops o a w R :=
  fx_val (v := v) (w' := w) hw (by
    have hc : w.cell? ⟨g, k, none⟩ = some v := (cell_of_row _ _ _ _ _ _ hg).trans hv
    unfold execOp
    generalize a.eval = ev at *
    simp only [ho]
    simp [go_sem, hx, hu w, hc]) hR
theorem fx_appF {P : Program} {ops : Array Oper} {o : Oper} {a : Act} {w w' : World} {R : Value → World → Prop} {v v' u : Value} (s x : Operand) (t : TypeId) (hg : o.guard = none) (ho : o.op = .call { callee := .builtin .append, args := #[s, x], argTypes := #[t, t] })
    (hs : a.eval s = v) (hx : a.eval x = u) (hrun : (Builtin.append_ #[t, t] o.type #[v, u]).run P w = .ok v' w') (hR : R v' w') : FxStep P ops o a w R :=
  fx_val (v := v') (w' := w') (by simp [Region.wanted, hg]) (by
    unfold execOp
    simp only [ho, resolve, invoke, builtin, Sem.run_bind, Sem.run_pure, Result.andThen_ok, List.map_toArray, List.map_cons, List.map_nil, hs, hx, hrun]) hR
/-- What owns its block from lo on has it as' long as' those blocks stay. -/
theorem ownN_fast {E : TypeId} {w : World} {v : Value} {B : Nat} {L : List Int} (h : OwnN B E w v L) : Fast B w.heap.size (fun x => OwnN B E x v L) w := fun wx hx => by
  refine ⟨h.1, ?_⟩
  rcases h.2 with hn | ⟨k, cap, cur, rfl, hbk, hk, rest⟩
  · exact .inl hn
  · exact .inr ⟨k, cap, cur, rfl, hbk, (hx.1 k hbk (Array.getElem?_eq_some_iff.1 hk).1).trans hk, rest⟩
/-- A slice of ints in blocks from lo on: it reads so as' long as' they stay. -/
def NewN (lo : Nat) (w : World) (v : Value) (l : List Int) : Prop := Fast lo w.heap.size (fun x => RdN x v l) w
theorem NewN.rd {lo : Nat} {w : World} {v : Value} {l : List Int} (h : NewN lo w v l) : RdN w v l := Fast.now h
theorem NewN.nil (lo : Nat) (w : World) : NewN lo w (.slice none 0 0) [] := fun wx _ => RdN.nil wx
theorem NewN.like {lo : Nat} {w w' : World} {v : Value} {l : List Int} (h : NewN lo w v l) (hl : Like lo w.heap.size w w') : NewN lo w' v l := fun wx hx => h wx ⟨fun k a b => (hx.1 k a (Nat.lt_of_lt_of_le b hl.2)).trans (hl.1 k a b), Nat.le_trans hl.2 hx.2⟩
theorem NewN.mono {lo lo' : Nat} {w : World} {v : Value} {l : List Int} (h : NewN lo w v l) (hl : lo' ≤ lo) : NewN lo' w v l := fun wx hx => h wx ⟨fun k a b => hx.1 k (Nat.le_trans hl a) b, hx.2⟩
theorem NewN.below {lo : Nat} {w w' : World} {v : Value} {l : List Int} (h : NewN lo w v l) (hb : Below w.heap.size w w') : NewN lo w' v l := h.like ⟨fun k _ b => hb.block k b, hb.size⟩
theorem NewN.setRow {lo g : Nat} {w : World} {v : Value} {l : List Int} (h : NewN lo w v l) (hg : g < lo) (cs : Array Value) : NewN lo (w.setRow g cs) v l := h.like ⟨fun k a _ => setRow_other w g k cs (by omega), by rw [size_setRow]; exact Nat.le_refl _⟩
theorem NewN.slice {lo : Nat} {w : World} {v : Value} {l : List Int} (h : NewN lo w v l) : ∃ a c, v = .slice a l.length c := h.rd.slice
theorem OwnN.new {B : Nat} {E : TypeId} {w : World} {v : Value} {l : List Int} (h : OwnN B E w v l) : NewN B w v l := fun wx hx => OwnN.rd (ownN_fast h wx hx)
theorem IRow.new {E : TypeId} {w : World} {g lo c : Nat} {l : List Int} (h : IRow E w g l) (hlo : lo ≤ g) (hc : l.length ≤ c) (hm : c ≤ maxLen) : NewN lo w (.slice (some ⟨g, 0, none⟩) l.length c) l := fun wx hx => (h.to (hx.1 g hlo h.lt)).rd2 hc hm
/-- A row of one's own in a block from an interval of the heap. -/
def OwnF (i : Nat × Nat) (B : Nat) (E : TypeId) (w : World) (v : Value) (l : List Int) : Prop := Fast i.1 i.2 (fun x => OwnN i.1 E x v l) w ∧ B ≤ i.1 ∧ ∀ g, v.ownBlock = some g → g < i.2
theorem OwnF.keep {i : Nat × Nat} {B : Nat} {E : TypeId} {w w' : World} {v : Value} {l : List Int} (h : OwnF i B E w v l) (hl : Like i.1 i.2 w w') : OwnF i B E w' v l := ⟨Fast.keep h.1 hl, h.2⟩
theorem OwnF.own {i : Nat × Nat} {B : Nat} {E : TypeId} {w : World} {v : Value} {l : List Int} (h : OwnF i B E w v l) : OwnN B E w v l := (Fast.now h.1).mono h.2.1
theorem OwnF.within {i : Nat × Nat} {B : Nat} {E : TypeId} {w : World} {v : Value} {l : List Int} (h : OwnF i B E w v l) (g : Nat) (hg : v.ownBlock = some g) : i.1 ≤ g ∧ g < i.2 := ⟨(World.ownsRow.lt (Fast.now h.1) g hg).1, h.2.2 g hg⟩
/-- What an operation leaves. -/
inductive FQ
  | any
  | eq (v : Value)
  | low (R : Value → World → Prop) (hR : ∀ v w w', R v w → Below w.heap.size w w' → R v w')
  | fast (k : Nat) (R : Value → World → Prop)
  | own (k : Nat) (B : Nat) (E : TypeId) (l : List Int)
  | blk (B : Nat) (cs : Array Value) (T : TypeId)
  | emp (B : Nat) (E : TypeId)
  | putc (b : Nat) (cs : Array Value) (T : TypeId)
  | put (b k : Nat) (T : TypeId) (R : Array Value → World → Prop)
def FQ.P (vs : Nat → Value) (iv : Nat → Nat × Nat) (j : Nat) (w : World) : FQ → Prop
  | .any => True
  | .eq v => vs j = v
  | .low R _ => R (vs j) w
  | .fast k R => Fast (iv k).1 (iv k).2 (R (vs j)) w
  | .own k B E l => OwnF (iv j) B E w (vs j) l ∨ OwnF (iv k) B E w (vs j) l
  | .blk B cs T => ∃ g, vs j = .pointer (some ⟨g, 0, none⟩) ∧ (iv j).1 ≤ g ∧ g < (iv j).2 ∧ B ≤ g ∧ w.heap[g]? = some (.cells cs T (0, 0))
  | .emp B E => ∃ g, vs j = .slice (some ⟨g, 0, none⟩) 0 0 ∧ (iv j).1 ≤ g ∧ g < (iv j).2 ∧ B ≤ (iv j).1 ∧ w.heap[g]? = some (.cells #[] E (0, 0))
  | .putc b cs T => ∃ g, vs b = .pointer (some ⟨g, 0, none⟩) ∧ (iv b).1 ≤ g ∧ g < (iv b).2 ∧ w.heap[g]? = some (.cells cs T (0, 0))
  | .put b k T R => ∃ g cs, vs b = .pointer (some ⟨g, 0, none⟩) ∧ (iv b).1 ≤ g ∧ g < (iv b).2 ∧ w.heap[g]? = some (.cells cs T (0, 0)) ∧ Fast (iv k).1 (iv k).2 (R cs) w
/-- The operations whose blocks a fact speaks of; none: it bears no store. -/
def FQ.refs (j : Nat) : FQ → Option (List Nat)
  | .any => some []
  | .eq _ => some []
  | .low _ _ => none
  | .fast k _ => some [k]
  | .own k _ _ _ => some [j, k]
  | .blk _ _ _ => some [j]
  | .emp _ _ => some [j]
  | .putc b _ _ => some [b]
  | .put b k _ _ => some [b, k]
theorem FQ.cong {K : FQ} {vs vs' : Nat → Value} {iv iv' : Nat → Nat × Nat} {j : Nat} {w : World} (h : ∀ k, k = j ∨ (∃ l, K.refs j = some l ∧ k ∈ l) → vs k = vs' k ∧ iv k = iv' k) (hp : K.P vs iv j w) : K.P vs' iv' j w := by
  have hj := h j (.inl rfl)
  cases K with
  | any => exact hp
  | eq v => exact hj.1.symm.trans hp
  | low R hR =>
    show R (vs' j) w
    rw [← hj.1]; exact hp
  | fast k R =>
    have hk := h k (.inr ⟨_, rfl, by simp⟩)
    have hp' : Fast (iv k).1 (iv k).2 (R (vs j)) w := hp
    rw [hk.2, hj.1] at hp'
    exact hp'
  | own k B E l =>
    have hk := h k (.inr ⟨_, rfl, by simp⟩)
    have hp' : OwnF (iv j) B E w (vs j) l ∨ OwnF (iv k) B E w (vs j) l := hp
    rw [hj.2, hj.1, hk.2] at hp'
    exact hp'
  | blk B cs T =>
    obtain ⟨g, e, a, b, c, d⟩ := hp
    exact ⟨g, hj.1.symm.trans e, hj.2 ▸ a, hj.2 ▸ b, c, d⟩
  | emp B E =>
    obtain ⟨g, e, a, b, c, d⟩ := hp
    exact ⟨g, hj.1.symm.trans e, hj.2 ▸ a, hj.2 ▸ b, hj.2 ▸ c, d⟩
  | putc b cs T =>
    obtain ⟨g, e, a, c, d⟩ := hp
    have hb := h b (.inr ⟨_, rfl, by simp⟩)
    exact ⟨g, hb.1.symm.trans e, hb.2 ▸ a, hb.2 ▸ c, d⟩
  | put b k T R =>
    obtain ⟨g, cs, e, a, c, d, hf⟩ := hp
    have hb := h b (.inr ⟨_, rfl, by simp⟩)
    have hk := h k (.inr ⟨_, rfl, by simp⟩)
    exact ⟨g, cs, hb.1.symm.trans e, hb.2 ▸ a, hb.2 ▸ c, d, hk.2 ▸ hf⟩
theorem rowK {w w' : World} {g : Nat} {ob : Obj} (h : w.heap[g]? = some ob) (hb : Below w.heap.size w w') : w'.heap[g]? = some ob := (hb.block g (Array.getElem?_eq_some_iff.1 h).1).trans h
theorem like_below {w w' : World} {lo hi : Nat} (hb : Below w.heap.size w w') (hh : hi ≤ w.heap.size) : Like lo hi w w' := ⟨fun k _ b => hb.block k (Nat.lt_of_lt_of_le b hh), hb.size⟩
theorem like_grown {w w' : World} {g lo hi : Nat} (hg : w.grownBy w' (some g)) (hh : hi ≤ w.heap.size) (hn : ¬ (lo ≤ g ∧ g < hi)) : Like lo hi w w' :=
  ⟨fun k a b => hg.block k (Nat.lt_of_lt_of_le b hh) (fun e => hn (by cases e; exact ⟨a, b⟩)), hg.size⟩
theorem FQ.below {K : FQ} {vs : Nat → Value} {iv : Nat → Nat × Nat} {j : Nat} {w w' : World} (hs : ∀ k, k = j ∨ (∃ l, K.refs j = some l ∧ k ∈ l) → (iv k).2 ≤ w.heap.size) (hb : Below w.heap.size w w') (hp : K.P vs iv j w) : K.P vs iv j w' := by
  cases K with
  | any => exact hp
  | eq v => exact hp
  | low R hR => exact hR _ _ _ hp hb
  | fast k R => exact Fast.keep hp (like_below hb (hs k (.inr ⟨_, rfl, by simp⟩)))
  | own k B E l =>
    rcases hp with hp | hp
    · exact .inl (hp.keep (like_below hb (hs j (.inl rfl))))
    · exact .inr (hp.keep (like_below hb (hs k (.inr ⟨_, rfl, by simp⟩))))
  | blk B cs T => obtain ⟨g, e, a, b, c, d⟩ := hp; exact ⟨g, e, a, b, c, rowK d hb⟩
  | emp B E => obtain ⟨g, e, a, b, c, d⟩ := hp; exact ⟨g, e, a, b, c, rowK d hb⟩
  | putc b cs T => obtain ⟨g, e, a, c, d⟩ := hp; exact ⟨g, e, a, c, rowK d hb⟩
  | put b k T R => obtain ⟨g, cs, e, a, c, d, hf⟩ := hp; exact ⟨g, cs, e, a, c, rowK d hb, hf.keep (like_below hb (hs k (.inr ⟨_, rfl, by simp⟩)))⟩
theorem FQ.store {K : FQ} {vs : Nat → Value} {iv : Nat → Nat × Nat} {j b0 g0 : Nat} {l : List Nat} {w w' : World} (hl : K.refs j = some l) (hs : ∀ k, k ∈ l → (iv k).2 ≤ w.heap.size ∧ ((iv k).2 ≤ (iv b0).1 ∨ (iv b0).2 ≤ (iv k).1)) (h1 : (iv b0).1 ≤ g0) (h2 : g0 < (iv b0).2) (hg : w.grownBy w' (some g0)) (hp : K.P vs iv j w) : K.P vs iv j w' := by
  have hout : ∀ k, k ∈ l → ¬ ((iv k).1 ≤ g0 ∧ g0 < (iv k).2) := fun k hk => by have := (hs k hk).2; omega
  have hlk : ∀ k, k ∈ l → Like (iv k).1 (iv k).2 w w' := fun k hk => like_grown hg (hs k hk).1 (hout k hk)
  have hrow : ∀ k g cs T, k ∈ l → (iv k).1 ≤ g → g < (iv k).2 → w.heap[g]? = some (.cells cs T (0, 0)) → w'.heap[g]? = some (.cells cs T (0, 0)) := fun k g cs T hk a b h => (hg.block g (Array.getElem?_eq_some_iff.1 h).1 (fun e => hout k hk (by cases e; exact ⟨a, b⟩))).trans h
  cases K with
  | any => exact hp
  | eq v => exact hp
  | low R hR => cases hl
  | fast k R => cases hl; exact Fast.keep hp (hlk k (by simp))
  | own k B E l =>
    cases hl
    rcases hp with hp | hp
    · exact .inl (hp.keep (hlk j (by simp)))
    · exact .inr (hp.keep (hlk k (by simp)))
  | blk B cs T => cases hl; obtain ⟨g, e, a, b, c, d⟩ := hp; exact ⟨g, e, a, b, c, hrow j g _ _ (by simp) a b d⟩
  | emp B E => cases hl; obtain ⟨g, e, a, b, c, d⟩ := hp; exact ⟨g, e, a, b, c, hrow j g _ _ (by simp) a b d⟩
  | putc b cs T => cases hl; obtain ⟨g, e, a, c, d⟩ := hp; exact ⟨g, e, a, c, hrow b g _ _ (by simp) a c d⟩
  | put b k T R => cases hl; obtain ⟨g, cs, e, a, c, d, hf⟩ := hp; exact ⟨g, cs, e, a, c, hrow b g _ _ (by simp) a c d, hf.keep (hlk k (by simp))⟩
/-- How an operation changes the world: st names the block's operation of those that store. -/
def fqG (B : Nat) (st : Nat → Option Nat) (i : Nat) (iv : Nat → Nat × Nat) (w w' : World) : Prop :=
  match st i with
  | none => Below w.heap.size w w'
  | some b => ∃ g, B ≤ g ∧ (iv b).1 ≤ g ∧ g < (iv b).2 ∧ w.grownBy w' (some g)
def fqB (n : Nat) (A U : List (List Nat)) (Uf : List Nat) (st : Nat → Option Nat) (K : Nat → FQ) : Bool :=
  (List.range n).all fun i => (match (K i).refs i with | none => true | some l => l.all fun k => decide (k = i) || (A.getD i []).contains k) &&
    (match st i with
    | none => true
    | some b => (A.getD i []).contains b && (List.range n).all fun j => !(fxAfter A i j && fxNeed n A U Uf i j) || (match (K j).refs j with | none => false | some l => l.all fun k => !decide (k = b)))
theorem wp_region_fq {P : Program} {Q : Exit → Act → World → Prop} {a0 : Act} {id : Nat} {W : World} {l : List Oper} (n : Nat) (A U : List (List Nat)) (Uf : List Nat) (st : Nat → Option Nat) (K : Nat → FQ) (hm : P.follows .mixedOrders = true) (hB : fxB l.toArray n A = true) (hU : fxUses n A U = true) (hF : fqB n A U Uf st K = true)
    (hstep : ∀ i o vs iv w, i < n → l.toArray[i]? = some o → Below W.heap.size W w → fxSep (fun k => k ∈ A.getD i []) iv w → (∀ j, j ∈ U.getD i [] → (K j).P vs iv j w) → FxStep P l.toArray o (fxF l.toArray vs fxT a0 i) w fun v w' => w.heap.size ≤ w'.heap.size ∧ (K i).P (fun j => if j = i then v else vs j) (fun j => if j = i then (w.heap.size, w'.heap.size) else iv j) i w' ∧ fqG W.heap.size st i iv w w')
    (hdone : ∀ vs iv w, Below W.heap.size W w → fxSep (fun k => k < n) iv w → (∀ j, j < n → j ∈ Uf → (K j).P vs iv j w) → wpList P l.toArray Q (l.drop n) (fxF l.toArray vs fxT a0 n) w) : (Code.region id l.toArray true).wp P Q a0 W := by
  have hF2 : ∀ i, i < n → (match (K i).refs i with | none => true | some l => l.all fun k => decide (k = i) || (A.getD i []).contains k) = true ∧ (match st i with
    | none => true
    | some b => (A.getD i []).contains b && (List.range n).all fun j => !(fxAfter A i j && fxNeed n A U Uf i j) || (match (K j).refs j with | none => false | some l => l.all fun k => !decide (k = b))) = true := fun i hi => by
    have := List.all_eq_true.1 hF i (List.mem_range.2 hi)
    rwa [Bool.and_eq_true] at this
  have href : ∀ j, j < n → ∀ k, (∃ l, (K j).refs j = some l ∧ k ∈ l) → k = j ∨ k ∈ A.getD j [] := fun j hj k ⟨l, hl, hk⟩ => by
    have := (hF2 j hj).1
    rw [hl] at this
    have h2 := List.all_eq_true.1 this k hk
    rw [Bool.or_eq_true, decide_eq_true_eq] at h2
    rcases h2 with h | h
    · exact .inl h
    · exact .inr (by simpa using h)
  refine wp_region_fxg n A U Uf hm hB hU (fun j vs iv w => (K j).P vs iv j w) (fun i vs iv w w' => fqG W.heap.size st i iv w w') (fun w => Below W.heap.size W w) ((Below.refl _ _).drew) ?_ ?_ ?_ ?_ ?_
  · intro i vs iv w w' hi h hs hg
    unfold fqG at hg
    split at hg
    · exact h.trans (hg.mono h.size)
    · obtain ⟨g, h1, _, _, h2⟩ := hg
      exact Below.grown h h2 h.size (fun k hk => by cases hk; exact h1)
  · intro j vs vs' iv iv' w hj h hp
    exact FQ.cong (fun k hk => h k (by rcases hk with rfl | hk; exact .inl rfl; exact href j hj k hk)) hp
  · intro i j vs iv w w' hi hj ha hn h hsp hp hs hg
    unfold fqG at hg
    have hsz : ∀ k, k = j ∨ (∃ l, (K j).refs j = some l ∧ k ∈ l) → (iv k).2 ≤ w.heap.size := fun k hk => by
      have : k = j ∨ k ∈ A.getD j [] := by
        rcases hk with rfl | hk
        · exact .inl rfl
        · exact href j hj k hk
      exact (hsp.1 k (.inr this)).2
    cases hst : st i with
    | none => rw [hst] at hg; exact FQ.below hsz hg hp
    | some b =>
      rw [hst] at hg
      obtain ⟨g, h1, h2, h3, h4⟩ := hg
      have hb := (hF2 i hi).2
      rw [hst] at hb
      have hb : ((A.getD i []).contains b && (List.range n).all fun j => !(fxAfter A i j && fxNeed n A U Uf i j) || (match (K j).refs j with | none => false | some l => l.all fun k => !decide (k = b))) = true := hb
      rw [Bool.and_eq_true] at hb
      have hj2 := List.all_eq_true.1 hb.2 j (List.mem_range.2 hj)
      rw [ha, hn] at hj2
      have hj3 : (match (K j).refs j with | none => false | some l => l.all fun k => !decide (k = b)) = true := by simpa using hj2
      cases hl : (K j).refs j with
      | none => rw [hl] at hj3; cases hj3
      | some l =>
        rw [hl] at hj3
        refine FQ.store hl (fun k hk => ⟨hsz k (.inr ⟨l, hl, hk⟩), ?_⟩) h2 h3 h4 hp
        have hne : k ≠ b := by simpa using List.all_eq_true.1 hj3 k hk
        exact hsp.2 k b (.inr (href j hj k ⟨l, hl, hk⟩)) (.inl (by simpa using hb.1)) hne
  · intro i o vs iv w hi ho h hsp hd
    exact hstep i o vs iv w hi ho h hsp hd
  · intro vs iv w h hsp hd
    exact hdone vs iv w h hsp hd
/-- What an append leaves when it makes a row of its own. -/
theorem own_fact {w w' : World} {E : TypeId} {v : Value} {l : List Int} {B : Nat} (hB : B ≤ w.heap.size) (h : OwnN w.heap.size E w' v l) : OwnF (w.heap.size, w'.heap.size) B E w' v l :=
  ⟨ownN_fast h, hB, fun g hg => (World.ownsRow.lt h g hg).2⟩
theorem ownN_setRow {B g : Nat} {E : TypeId} {w : World} {v : Value} {l : List Int} (h : OwnN B E w v l) (hg : g < B) (cs : Array Value) : OwnN B E (w.setRow g cs) v l := by
  refine ⟨h.1, ?_⟩
  rcases h.2 with hn | ⟨k, cap, cur, rfl, hbk, hk, rest⟩
  · exact .inl hn
  · exact .inr ⟨k, cap, cur, rfl, hbk, (setRow_other w g k cs (by omega)).trans hk, rest⟩
theorem below_nil {w w' : World} (hg : w.grownBy w' (Value.slice none 0 0).ownBlock) : Below w.heap.size w w' := ⟨hg.os, hg.tape, hg.output, hg.size, fun k hk => hg.block k hk (by intro h; cases h)⟩
theorem but_setRow (w : World) (g : Nat) (cs : Array Value) : w.grownBy (w.setRow g cs) (some g) := ⟨rfl, rfl, rfl, by rw [size_setRow]; exact Nat.le_refl _, fun k _ hn => setRow_other w g k cs (fun e => hn (by rw [e]))⟩
end Go.Proofs.Ytdebeimognikiaa.con
namespace Go.Proofs.Ytdebeimognikiaa.con
open Go.RowKit Go.Ytdebeimognikiaa
set_option linter.unusedVariables false
abbrev nilN : Value := .slice none 0 0
/-- Two slices of a call's own, in different blocks. -/
structure TwinD (B : Nat) (w : World) (xv yv : Value) (L A : List Int) : Prop where
  x : OwnN B 3 w xv L
  y : OwnN B 3 w yv A
  ne : ∀ g, xv.ownBlock = some g → yv.ownBlock ≠ some g
theorem tk_one (xv yv : Value) (h1 : xv.oneCell' = true) (h2 : yv.oneCell' = true) : (tkC xv yv).all (·.oneCell') = true := by simp [h1, h2]
theorem info_tk : (Try.prog.info? 24).map (·.size) = some 2 := by kernel_rfl
theorem own_one {B : Nat} {E : TypeId} {w : World} {v : Value} {l : List Int} (h : OwnN B E w v l) : v.oneCell' = true := by
  obtain ⟨a, c, rfl⟩ := h.slice; rfl
theorem twinD_of {i j : Nat × Nat} {B : Nat} {w : World} {xv yv : Value} {L A : List Int} (h1 : OwnF i B 3 w xv L) (h2 : OwnF j B 3 w yv A) (h : i.2 ≤ j.1 ∨ j.2 ≤ i.1) : TwinD B w xv yv L A :=
  ⟨h1.own, h2.own, fun g hg hg2 => by
    have a := h1.within g hg
    have b := h2.within g hg2
    omega⟩
theorem TwinD.low {B B2 g : Nat} {w : World} {xv yv : Value} {L A : List Int} (h : TwinD B w xv yv L A) (hg : g < B) (hB : B2 ≤ B) (cs : Array Value) : TwinD B2 (w.setRow g cs) xv yv L A :=
  ⟨(ownN_setRow h.x hg cs).mono hB, (ownN_setRow h.y hg cs).mono hB, h.ne⟩
def copiedA : List (List Nat) := [[], [0], [0, 1], [], [3], [0, 1, 2, 3, 4], [0, 1, 2, 3, 4, 5], [0, 1, 2, 3, 4, 5, 6]]
def copiedU : List (List Nat) := [[], [0], [1], [], [3], [4]]
def copiedK (B g0 : Nat) (lv av : Value) (L A : List Int) : Nat → FQ
  | 0 => .eq (.pointer (some ⟨g0, 0, none⟩))
  | 1 => .eq lv
  | 2 => .own 2 B 3 L
  | 3 => .eq (.pointer (some ⟨g0, 1, none⟩))
  | 4 => .eq av
  | _ => .own 5 B 3 A
set_option maxHeartbeats 4000000 in
set_option maxRecDepth 100000 in
theorem copied_any (L A : List Int) (lv av : Value) (w : World) (hL : RdN w lv L) (hA : RdN w av A) (h1 : L.length ≤ 1000) (h2 : A.length ≤ 1000) :
    Calls Try.prog 33 #[.agg (tkC lv av)] w fun e w' => ∃ xv yv, e = .returned (.agg (tkC xv yv)) ∧ TwinD w.heap.size w' xv yv L A ∧ Below w.heap.size w w' := by
  obtain ⟨W, hW⟩ : ∃ W, W = (w.alloc (.cells (tkC lv av) 24)).alloc (.cells (tkC nilN nilN) 24) := ⟨_, rfl⟩
  have hS := Lib.hid (show Below w.heap.size w W by rw [hW]; exact ((Below.refl w.heap.size w).alloc (Nat.le_refl _) _).alloc (by simp) _)
  have r0 := Lib.hid (show W.heap[w.heap.size]? = some (.cells (tkC lv av) 24 (0, 0)) by rw [hW]; exact rowB (heap_alloc_new w _) (below_a _ _) (by simp))
  have r1 := Lib.hid (show W.heap[w.heap.size + 1]? = some (.cells (tkC nilN nilN) 24 (0, 0)) by rw [hW]; exact hn2 w _ _)
  have hL' := Lib.hid (hL.mono hS.out); have hA' := Lib.hid (hA.mono hS.out)
  have h1' := Lib.hid h1; have h2' := Lib.hid h2; have hWz := Lib.hid (show w.heap.size + 1 < W.heap.size by rw [hW]; simp)
  clear hL hA h1 h2
  go_enter Try.func33, Try.ntmps33
  go_upto_region 1 with fail
  rw [← hW]
  clear hW
  refine wp_region_fq 6 copiedA copiedU [2, 5] (fun _ => none) (copiedK W.heap.size w.heap.size lv av L A) (by kernel_rfl) (by kernel_rfl) (by kernel_rfl) (by kernel_rfl) ?hstep ?hdone
  case hstep =>
    intro i op vs iv wz hi hop hinv hsp hd
    match i, hi with
    | 0, _ =>
      simp only [List.getElem?_toArray, List.getElem?_cons_zero, List.getElem?_cons_succ, Option.some.injEq] at hop
      subst hop
      generalize hfr : fxF _ vs fxT _ 0 = fr
      have e0 : fr.eval (.tmp 1) = .pointer (some ⟨w.heap.size, 0, none⟩) := by rw [← hfr]; exact fx_old 0 (by kernel_rfl)
      clear hfr
      have ec : ∀ v, fr.eval (.const v) = v := fun _ => rfl
      refine fx_val (v := .pointer (some ⟨w.heap.size, 0, none⟩)) (w' := wz) rfl ?_ ⟨Nat.le_refl _, rfl, Below.refl _ _⟩
      skip
      unfold execOp
      generalize fr.eval = ev at ec e0 ⊢
      simp [go_sem, ec, e0]
    | 1, _ =>
      simp only [List.getElem?_toArray, List.getElem?_cons_zero, List.getElem?_cons_succ, Option.some.injEq] at hop
      subst hop
      generalize hfr : fxF _ vs fxT _ 1 = fr
      have h0 : vs 0 = .pointer (some ⟨w.heap.size, 0, none⟩) := hd 0 (by decide)
      have e0 : fr.eval (.tmp 3) = .pointer (some ⟨w.heap.size, 0, none⟩) := by rw [← hfr]; exact (fx_new (by simp) 1 (by kernel_rfl)).trans h0
      clear hfr
      exact fx_cellK 22 (.tmp 3) rfl rfl w.heap.size 0 e0 (tkC lv av) _ _ (rowK r0.out hinv) lv rfl Try.isAgg22 ⟨Nat.le_refl _, rfl, Below.refl _ _⟩
    | 2, _ =>
      simp only [List.getElem?_toArray, List.getElem?_cons_zero, List.getElem?_cons_succ, Option.some.injEq] at hop
      subst hop
      generalize hfr : fxF _ vs fxT _ 2 = fr
      have h0 : vs 1 = lv := hd 1 (by decide)
      have e1 : fr.eval (.tmp 4) = lv := by rw [← hfr]; exact (fx_new (by simp) 2 (by kernel_rfl)).trans h0
      have e0 : fr.eval (.const nilN) = nilN := rfl
      clear hfr
      obtain ⟨v', w', hrun, ho, hg⟩ := run_appendN (P := Try.prog) wz wz.heap.size 22 22 3 Try.underlying22 (by kernel_rfl) nilN [] (OwnN.nil _ _ _) lv L (hL'.out.mono hinv) (by have := h1'.out; simp; omega) (Nat.le_refl _)
      exact fx_appF (.const nilN) (.tmp 4) 22 rfl rfl e0 e1 hrun ⟨hg.size, .inl (own_fact hinv.size ho), below_nil hg⟩
    | 3, _ =>
      simp only [List.getElem?_toArray, List.getElem?_cons_zero, List.getElem?_cons_succ, Option.some.injEq] at hop
      subst hop
      generalize hfr : fxF _ vs fxT _ 3 = fr
      have e0 : fr.eval (.tmp 1) = .pointer (some ⟨w.heap.size, 0, none⟩) := by rw [← hfr]; exact fx_old 3 (by kernel_rfl)
      clear hfr
      have ec : ∀ v, fr.eval (.const v) = v := fun _ => rfl
      refine fx_val (v := .pointer (some ⟨w.heap.size, 1, none⟩)) (w' := wz) rfl ?_ ⟨Nat.le_refl _, rfl, Below.refl _ _⟩
      skip
      unfold execOp
      generalize fr.eval = ev at ec e0 ⊢
      simp [go_sem, ec, e0]
    | 4, _ =>
      simp only [List.getElem?_toArray, List.getElem?_cons_zero, List.getElem?_cons_succ, Option.some.injEq] at hop
      subst hop
      generalize hfr : fxF _ vs fxT _ 4 = fr
      have h0 : vs 3 = .pointer (some ⟨w.heap.size, 1, none⟩) := hd 3 (by decide)
      have e0 : fr.eval (.tmp 6) = .pointer (some ⟨w.heap.size, 1, none⟩) := by rw [← hfr]; exact (fx_new (by simp) 4 (by kernel_rfl)).trans h0
      clear hfr
      exact fx_cellK 22 (.tmp 6) rfl rfl w.heap.size 1 e0 (tkC lv av) _ _ (rowK r0.out hinv) av rfl Try.isAgg22 ⟨Nat.le_refl _, rfl, Below.refl _ _⟩
    | 5, _ =>
      simp only [List.getElem?_toArray, List.getElem?_cons_zero, List.getElem?_cons_succ, Option.some.injEq] at hop
      subst hop
      generalize hfr : fxF _ vs fxT _ 5 = fr
      have h0 : vs 4 = av := hd 4 (by decide)
      have e1 : fr.eval (.tmp 7) = av := by rw [← hfr]; exact (fx_new (by simp) 5 (by kernel_rfl)).trans h0
      have e0 : fr.eval (.const nilN) = nilN := rfl
      clear hfr
      obtain ⟨v', w', hrun, ho, hg⟩ := run_appendN (P := Try.prog) wz wz.heap.size 22 22 3 Try.underlying22 (by kernel_rfl) nilN [] (OwnN.nil _ _ _) av A (hA'.out.mono hinv) (by have := h2'.out; simp; omega) (Nat.le_refl _)
      exact fx_appF (.const nilN) (.tmp 7) 22 rfl rfl e0 e1 hrun ⟨hg.size, .inl (own_fact hinv.size ho), below_nil hg⟩
    | j + 6, hj => exact absurd hj (by omega)
  case hdone =>
    intro vs iv w5 hinv hsp hf
    have f1 : OwnF (iv 2) W.heap.size 3 w5 (vs 2) L ∨ OwnF (iv 2) W.heap.size 3 w5 (vs 2) L := hf 2 (by decide) (by decide)
    have f2 : OwnF (iv 5) W.heap.size 3 w5 (vs 5) A ∨ OwnF (iv 5) W.heap.size 3 w5 (vs 5) A := hf 5 (by decide) (by decide)
    have hT := Lib.hid (show TwinD W.heap.size w5 (vs 2) (vs 5) L A by
      have sp := hsp.2
      rcases f1 with f1 | f1 <;> rcases f2 with f2 | f2
      · exact twinD_of f1 f2 (sp 2 5 (by decide) (by decide) (by decide))
      · exact twinD_of f1 f2 (sp 2 5 (by decide) (by decide) (by decide))
      · exact twinD_of f1 f2 (sp 2 5 (by decide) (by decide) (by decide))
      · exact twinD_of f1 f2 (sp 2 5 (by decide) (by decide) (by decide)))
    simp only [fxF, fxT, if_true, List.drop_succ_cons, List.drop_zero, List.getElem?_toArray, List.getElem?_cons_zero, List.getElem?_cons_succ, Option.bind_some, Option.bind_none]
    have rr := Lib.hid (rowK r1.out hinv)
    have hB := Lib.hid (hS.out.trans (hinv.mono hS.out.size))
    have hbs := Lib.hid hS.out.size
    clear hf hsp hinv f1 f2
    generalize vs 0 = z0 at *
    generalize vs 1 = z1 at *
    generalize vs 2 = z2 at *
    generalize vs 3 = z3 at *
    generalize vs 4 = z4 at *
    generalize vs 5 = z5 at *
    have hone := Lib.hid (tk_one z2 z5 (own_one hT.out.x) (own_one hT.out.y))
    obtain ⟨xa, xc, e1⟩ := hT.out.x.slice
    obtain ⟨ya, yc, e2⟩ := hT.out.y.slice
    subst e1 e2
    go_wp2_with (refine wpList_store_row rfl 24 _ _ rfl (w.heap.size + 1) (tkC (.slice xa L.length xc) (.slice ya A.length yc)) rfl rfl 24 _ rr.out info_tk rfl hone.out ?_)
    refine bodyPost_ret (results_cell_row rfl _ _ (w.heap.size + 1) 24 _ _ _ rfl (setRow_heap _ _ _ _ _ _ rr.out) Try.underlying24 rfl info_tk) rfl ⟨_, _, rfl, hT.out.low hWz.out hbs.out _, below_setRow' hB.out (by omega) _⟩
end Go.Proofs.Ytdebeimognikiaa.con
namespace Go.Proofs.Ytdebeimognikiaa.con
open Go.RowKit Go.Ytdebeimognikiaa
set_option linter.unusedVariables false
theorem ith_ext {a b : List Int} (h : a.length = b.length) (he : ∀ j, j < a.length → ith a j = ith b j) : a = b := by
  apply List.ext_getElem h
  intro j h1 h2
  have := he j h1
  simpa [ith, h1, h2] using this
theorem ne_len {a b : List Int} (h : a.length ≠ b.length) : decide (a = b) = false := decide_eq_false (fun e => h (by rw [e]))
theorem ne_at {a b : List Int} (j : Nat) (h : ith a j ≠ ith b j) : decide (a = b) = false := decide_eq_false (fun e => h (by rw [e]))
set_option maxHeartbeats 4000000 in
set_option maxRecDepth 100000 in
theorem sameInts_any (a b : List Int) (va vb : Value) (w : World) (ha : RdN w va a) (hb : RdN w vb b) :
    Calls Try.prog 18 #[va, vb] w fun e w' => e = .returned (.bool (decide (a = b))) ∧ Below w.heap.size w w' := by
  have f1 := ha.fit
  have f2 := hb.fit
  obtain ⟨aa, ac, rfl⟩ := ha.slice
  obtain ⟨ba, bc, rfl⟩ := hb.slice
  obtain ⟨n, hn⟩ : ∃ n, a.length = n := ⟨_, rfl⟩
  obtain ⟨m, hm⟩ : ∃ m, b.length = m := ⟨_, rfl⟩
  have hn' := Lib.hid hn; have hm' := Lib.hid hm
  rw [hn] at ha f1 ⊢
  rw [hm] at hb f2 ⊢
  have ha' := Lib.hid ha; have hb' := Lib.hid hb
  have h1 := Lib.hid (fun h : a.length ≠ b.length => ne_len h)
  have h2 := Lib.hid (fun j (h : ith a j ≠ ith b j) => ne_at j h)
  have h3 := Lib.hid (fun (h : a.length = b.length) he => decide_eq_true (ith_ext h he))
  clear ha hb hn hm
  generalize decide (a = b) = R at *
  go_enter Try.func18, Try.ntmps18
  by_cases hnm : n = m
  · subst hnm
    go_wp2
    go_loopw [5] (fun i wr => ∃ k : Nat, k ≤ n ∧ i = .int .i64 (k : Int) ∧ Below w.heap.size w wr ∧ ∀ j, j < k → ith a j = ith b j) (fun i _ => n - (intOf i).toNat)
    case atStart => exact ⟨0, Nat.zero_le _, rfl, Below.refl _ _, fun j hj => absurd hj (Nat.not_lt_zero _)⟩
    case round =>
      obtain ⟨k, hk, rfl, hbe, he⟩ := hrel
      have he' := Lib.hid he; have hX := Lib.hid hbe
      clear he hbe
      by_cases hlt : k < n
      · obtain ⟨b1, o1, rfl, hbw, q1⟩ := rdN_at ha'.out k (by rw [hn'.out]; exact hlt)
        obtain ⟨b2, o2, rfl, hbw2, q2⟩ := rdN_at hb'.out k (by rw [hm'.out]; exact hlt)
        have d0 := q1 _ hX.out
        have d1 := q2 _ hX.out
        have hkI : (k : Int) < (n : Int) := by omega
        have hno := Lib.hid (fun h => h2.out k h)
        have hst := Lib.hid (fun h : ith a k = ith b k => (show ∀ j, j < k + 1 → ith a j = ith b j from fun j hj => by
          rcases Nat.lt_or_ge j k with g | g
          · exact he'.out j g
          · obtain rfl : j = k := by omega
            exact h))
        clear q1 q2
        generalize ith a k = x at *
        generalize ith b k = y at *
        by_cases hxy : x = y
        · have hnew := Lib.hid (hst.out hxy)
          subst hxy
          go_upto_region 6 with fail
          go_quiet (fail)
          go_wp2
          go_roundw
          case rel => exact ⟨k + 1, by omega, by go_num, drewN_below hX.out _, hnew.out⟩
          case measure => simp [intOf]; omega
        · have hR := Lib.hid (hno.out hxy)
          go_upto_region 6 with fail
          go_quiet (fail)
          go_wp2
          go_ret
          exact ⟨ret_bool hR.out.symm, drewN_below hX.out _⟩
      · obtain rfl : k = n := by omega
        have hR := Lib.hid (h3.out (by rw [hn'.out, hm'.out]) (fun j hj => he'.out j (by rw [← hn'.out]; exact hj)))
        go_wp2
        go_ret
        exact ⟨ret_bool hR.out.symm, hX.out⟩
  · have hR := Lib.hid (h1.out (by rw [hn'.out, hm'.out]; exact hnm))
    have hnmI : ¬ ((n : Int) = (m : Int)) := by omega
    go_wp2
    go_ret
    exact ⟨ret_bool hR.out.symm, Below.refl _ _⟩
end Go.Proofs.Ytdebeimognikiaa.con
namespace Go.Proofs.Ytdebeimognikiaa.con
open Go.RowKit Go.Ytdebeimognikiaa
set_option linter.unusedVariables false
set_option maxHeartbeats 4000000 in
set_option maxRecDepth 100000 in
theorem sameT_any (L A M B : List Int) (lv av mv bv : Value) (w : World) (h1 : RdN w lv L) (h2 : RdN w av A) (h3 : RdN w mv M) (h4 : RdN w bv B) :
    Calls Try.prog 17 #[.agg (tkC lv av), .agg (tkC mv bv)] w fun e w' => e = .returned (.bool (decide (L = M) && decide (A = B))) ∧ Below w.heap.size w w' := by
  obtain ⟨W, hW⟩ : ∃ W, W = (w.alloc (.cells (tkC lv av) 24)).alloc (.cells (tkC mv bv) 24) := ⟨_, rfl⟩
  have hS := Lib.hid (show Below w.heap.size w W by rw [hW]; exact ((Below.refl w.heap.size w).alloc (Nat.le_refl _) _).alloc (by simp) _)
  have r0 := Lib.hid (show W.heap[w.heap.size]? = some (.cells (tkC lv av) 24 (0, 0)) by rw [hW]; exact rowB (heap_alloc_new w _) (below_a _ _) (by simp))
  have r1 := Lib.hid (show W.heap[w.heap.size + 1]? = some (.cells (tkC mv bv) 24 (0, 0)) by rw [hW]; exact hn2 w _ _)
  have c0 : W.cell? ⟨w.heap.size, 0, none⟩ = some lv := by rw [cell_of_row _ _ _ _ _ _ r0.out]; rfl
  have c1 : W.cell? ⟨w.heap.size + 1, 0, none⟩ = some mv := by rw [cell_of_row _ _ _ _ _ _ r1.out]; rfl
  have hX := Lib.hid (Below.refl W.heap.size W)
  have hrow0 := Lib.hid (fun (wz : World) (h : Below W.heap.size W wz) => rowB r0.out h (Array.getElem?_eq_some_iff.1 r0.out).1)
  have hrow1 := Lib.hid (fun (wz : World) (h : Below W.heap.size W wz) => rowB r1.out h (Array.getElem?_eq_some_iff.1 r1.out).1)
  have hC1 := Lib.hid (fun (wz : World) (h : Below W.heap.size W wz) => sameInts_any L M lv mv wz (h1.mono (hS.out.trans (h.mono hS.out.size))) (h3.mono (hS.out.trans (h.mono hS.out.size))))
  have hC2 := Lib.hid (fun (wz : World) (h : Below W.heap.size W wz) => sameInts_any A B av bv wz (h2.mono (hS.out.trans (h.mono hS.out.size))) (h4.mono (hS.out.trans (h.mono hS.out.size))))
  clear h1 h2 h3 h4
  generalize decide (L = M) = R at *
  generalize decide (A = B) = S at *
  go_enter Try.func17, Try.ntmps17
  go_upto_region 1 with fail
  rw [← hW]
  clear hW
  cases R with
  | true =>
    go_wp2_with (first
        | (go_at_call 18; (with_reducible refine (hC1.out _ hX.out).mono ?_); rintro e9 w9 ⟨rfl, q9⟩; replace hX := Lib.hid (hX.out.trans (Below.mono q9 hX.out.size)); have k0 : w9.cell? ⟨w.heap.size, 1, none⟩ = some av := (by rw [cell_of_row _ _ _ _ _ _ (hrow0.out _ hX.out)]; rfl); have k1 : w9.cell? ⟨w.heap.size + 1, 1, none⟩ = some bv := (by rw [cell_of_row _ _ _ _ _ _ (hrow1.out _ hX.out)]; rfl); clear q9)
        | (go_at_call 18; (with_reducible refine (hC2.out _ hX.out).mono ?_); rintro e9 w9 ⟨rfl, q9⟩; replace hX := Lib.hid (hX.out.trans (Below.mono q9 hX.out.size)); clear q9))
    go_ret
    exact ⟨rfl, hS.out.trans (hX.out.mono hS.out.size)⟩
  | false =>
    go_wp2_with (first
        | (go_at_call 18; (with_reducible refine (hC1.out _ hX.out).mono ?_); rintro e9 w9 ⟨rfl, q9⟩; replace hX := Lib.hid (hX.out.trans (Below.mono q9 hX.out.size)); have k0 : w9.cell? ⟨w.heap.size, 1, none⟩ = some av := (by rw [cell_of_row _ _ _ _ _ _ (hrow0.out _ hX.out)]; rfl); have k1 : w9.cell? ⟨w.heap.size + 1, 1, none⟩ = some bv := (by rw [cell_of_row _ _ _ _ _ _ (hrow1.out _ hX.out)]; rfl); clear q9)
        | (go_at_call 18; (with_reducible refine (hC2.out _ hX.out).mono ?_); rintro e9 w9 ⟨rfl, q9⟩; replace hX := Lib.hid (hX.out.trans (Below.mono q9 hX.out.size)); clear q9))
    go_ret
    exact ⟨rfl, hS.out.trans (hX.out.mono hS.out.size)⟩
set_option maxHeartbeats 4000000 in
set_option maxRecDepth 100000 in
theorem great_any (L A : List Int) (lv av : Value) (w : World) (hL : RdN w lv L) (hA : RdN w av A) :
    Calls Try.prog 9 #[.agg (tkC lv av)] w fun e w' => e = .returned (.bool (decide (100 < L.length) || decide (100 < A.length))) ∧ Below w.heap.size w w' := by
  have f1 := hL.fit
  have f2 := hA.fit
  obtain ⟨la, lc, rfl⟩ := hL.slice
  obtain ⟨aa, ac, rfl⟩ := hA.slice
  generalize L.length = n at *
  generalize A.length = m at *
  clear hL hA
  obtain ⟨W, hW⟩ : ∃ W, W = w.alloc (.cells (tkC (.slice la n lc) (.slice aa m ac)) 24) := ⟨_, rfl⟩
  have hS := Lib.hid (show Below w.heap.size w W by rw [hW]; exact below_a _ _)
  have r0 := Lib.hid (show W.heap[w.heap.size]? = some (.cells (tkC (.slice la n lc) (.slice aa m ac)) 24 (0, 0)) by rw [hW]; exact heap_alloc_new w _)
  have hsz := Lib.hid (show W.heap.size = w.heap.size + 1 by rw [hW]; simp)
  have c0 : W.cell? ⟨w.heap.size, 0, none⟩ = some (.slice la n lc) := by rw [cell_of_row _ _ _ _ _ _ r0.out]; rfl
  have c1 : W.cell? ⟨w.heap.size, 1, none⟩ = some (.slice aa m ac) := by rw [cell_of_row _ _ _ _ _ _ r0.out]; rfl
  go_enter Try.func9, Try.ntmps9
  go_upto_region 1 with fail
  rw [← hW]
  clear hW
  by_cases h1 : 100 < n
  · have h1I : (100 : Int) < (n : Int) := by omega
    go_wp2
    go_ret
    exact ⟨ret_bool (by rw [decide_eq_true h1]; rfl), hS.out⟩
  · have h1I : decide ((100 : Int) < (n : Int)) = false := decide_eq_false (by omega)
    go_wp2
    go_ret
    exact ⟨ret_bool (by rw [decide_eq_false h1, Bool.false_or, Bool.eq_iff_iff, decide_eq_true_iff, decide_eq_true_iff]; omega), hS.out⟩
set_option maxHeartbeats 4000000 in
set_option maxRecDepth 100000 in
theorem fit_any (L A : List Int) (lv av : Value) (w : World) (hL : RdN w lv L) (hA : RdN w av A) :
    Calls Try.prog 29 #[.agg (tkC lv av)] w fun e w' => e = .returned (.bool (okT L A)) ∧ Below w.heap.size w w' := by
  obtain ⟨W, hW⟩ : ∃ W, W = w.alloc (.cells (tkC lv av) 24) := ⟨_, rfl⟩
  have hS := Lib.hid (show Below w.heap.size w W by rw [hW]; exact below_a _ _)
  have r0 := Lib.hid (show W.heap[w.heap.size]? = some (.cells (tkC lv av) 24 (0, 0)) by rw [hW]; exact heap_alloc_new w _)
  have hsz := Lib.hid (show W.heap.size = w.heap.size + 1 by rw [hW]; simp)
  have hX := Lib.hid (Below.refl W.heap.size W)
  have hrow := Lib.hid (fun (wz : World) (h : Below W.heap.size W wz) => rowB r0.out h (Array.getElem?_eq_some_iff.1 r0.out).1)
  have hG0 := Lib.hid (fun (wz : World) (h : Below W.heap.size W wz) => great_any L A lv av wz (hL.mono (hS.out.trans (h.mono hS.out.size))) (hA.mono (hS.out.trans (h.mono hS.out.size))))
  have hC := Lib.hid (fun (wz : World) (h : Below W.heap.size W wz) => rCheck_any L A lv av wz (hL.mono (hS.out.trans (h.mono hS.out.size))) (hA.mono (hS.out.trans (h.mono hS.out.size))))
  have hbig := Lib.hid (show (decide (100 < L.length) || decide (100 < A.length)) = true → okT L A = false from fun h => by
    refine okT_no fun g => ?_
    have a := g.hi; have b := g.na
    rw [Bool.or_eq_true, decide_eq_true_iff, decide_eq_true_iff] at h
    omega)
  have hch := Lib.hid (show (chkT L A == 0) = okT L A by
    unfold chkT
    cases okT L A <;> rfl)
  clear hL hA
  have hG := hG0
  generalize (decide (100 < L.length) || decide (100 < A.length)) = G at *
  generalize chkT L A = C at *
  generalize okT L A = R at *
  go_enter Try.func29, Try.ntmps29
  go_upto_region 1 with fail
  rw [← hW]
  clear hW
  cases G with
  | true =>
    have hR := Lib.hid (hbig.out rfl)
    clear hbig
    go_wp2_with (first
        | (refine wpList_load_row_g rfl 24 _ rfl w.heap.size rfl 24 (tkC lv av) (0, 0) _ (hrow.out _ hX.out) Try.underlying24 rfl info_tk ?_)
        | (go_at_call 9; (with_reducible refine (hG.out _ hX.out).mono ?_); rintro e9 w9 ⟨rfl, q9⟩; replace hX := Lib.hid (hX.out.trans (Below.mono q9 hX.out.size)); clear q9)
        | (go_at_call 22; (with_reducible refine (hC.out _ hX.out).mono ?_); rintro e9 w9 ⟨rfl, q9⟩; replace hX := Lib.hid (hX.out.trans (Below.mono q9 hX.out.size)); clear q9))
    go_ret
    exact ⟨ret_bool hR.out.symm, hS.out.trans (hX.out.mono hS.out.size)⟩
  | false =>
    clear hbig
    go_wp2_with (first
        | (refine wpList_load_row_g rfl 24 _ rfl w.heap.size rfl 24 (tkC lv av) (0, 0) _ (hrow.out _ hX.out) Try.underlying24 rfl info_tk ?_)
        | (go_at_call 9; (with_reducible refine (hG.out _ hX.out).mono ?_); rintro e9 w9 ⟨rfl, q9⟩; replace hX := Lib.hid (hX.out.trans (Below.mono q9 hX.out.size)); clear q9)
        | (go_at_call 22; (with_reducible refine (hC.out _ hX.out).mono ?_); rintro e9 w9 ⟨rfl, q9⟩; replace hX := Lib.hid (hX.out.trans (Below.mono q9 hX.out.size)); clear q9))
    go_ret
    exact ⟨ret_bool (by rw [← hch.out]), hS.out.trans (hX.out.mono hS.out.size)⟩
def sumI (l : List Int) : Nat → Int
  | 0 => 0
  | k + 1 => sumI l k + ith l k
theorem sumI_le (l : List Int) (h : ∀ i, i < l.length → 0 ≤ ith l i ∧ ith l i ≤ 60) (k : Nat) (hk : k ≤ l.length) : 0 ≤ sumI l k ∧ sumI l k ≤ 60 * (k : Int) := by
  induction k with
  | zero => exact ⟨Int.le_refl _, by simp [sumI]⟩
  | succ k ih =>
    have a := ih (by omega)
    have b := h k (by omega)
    rw [sumI]
    omega
set_option maxHeartbeats 4000000 in
set_option maxRecDepth 100000 in
theorem sum_any (l : List Int) (v : Value) (w : World) (hl : RdN w v l) (hn : l.length ≤ 100) (hb : ∀ i, i < l.length → 0 ≤ ith l i ∧ ith l i ≤ 60) :
    Calls Try.prog 32 #[v] w fun e w' => e = .returned (.int .i64 (sumI l l.length)) ∧ Below w.heap.size w w' := by
  obtain ⟨a, c, rfl⟩ := hl.slice
  obtain ⟨n, hn0⟩ : ∃ n, l.length = n := ⟨_, rfl⟩
  have hn' := Lib.hid hn0
  rw [hn0] at hl hn ⊢
  have hl' := Lib.hid hl; have hb' := Lib.hid hb
  clear hl hb hn0
  go_enter Try.func32, Try.ntmps32
  go_wp2
  go_loopw [3, 4] (fun s i wr => ∃ k : Nat, k ≤ n ∧ i = .int .i64 (k : Int) ∧ s = .int .i64 (sumI l k) ∧ Below w.heap.size w wr) (fun _ i _ => n - (intOf i).toNat)
  case atStart => exact ⟨0, Nat.zero_le _, rfl, rfl, Below.refl _ _⟩
  case round =>
    obtain ⟨k, hk, rfl, rfl, hbe⟩ := hrel
    have hX := Lib.hid hbe
    clear hbe
    by_cases hlt : k < n
    · obtain ⟨b1, o1, rfl, hbw, q1⟩ := rdN_at hl'.out k (by rw [hn'.out]; exact hlt)
      have d0 := q1 _ hX.out
      have hkI : (k : Int) < (n : Int) := by omega
      have s1 := sumI_le l hb'.out k (by rw [hn'.out]; exact hk)
      have s2 := hb'.out k (by rw [hn'.out]; exact hlt)
      have hw : IntKind.i64.wrap (sumI l k + ith l k) = sumI l (k + 1) := by rw [IntWalk.i64_in _ (by omega)]; rfl
      have hw' := Lib.hid hw
      clear q1 hw
      go_wp2
      go_roundw
      case rel => exact ⟨k + 1, by omega, by go_num, by first | (rw [← hw'.out]; done) | (rw [← hw'.out, IntWalk.i64_in _ (by omega)]), hX.out⟩
      case measure => simp [intOf]; omega
    · obtain rfl : k = n := by omega
      go_wp2
      go_ret
      exact ⟨rfl, hX.out⟩
end Go.Proofs.Ytdebeimognikiaa.con
namespace Go.Proofs.Ytdebeimognikiaa.con
open Go.RowKit Go.Ytdebeimognikiaa
set_option linter.unusedVariables false
set_option maxHeartbeats 4000000 in
set_option maxRecDepth 100000 in
theorem done_any (L : List Int) (lv av : Value) (i : Nat) (w : World) (hL : RdN w lv L) (hi : i < L.length) :
    Calls Try.prog 42 #[.agg (tkC lv av), .int .i64 (i : Int)] w fun e w' => e = .returned (.bool (decide (ith L i = 0))) ∧ Below w.heap.size w w' := by
  obtain ⟨la, lc, rfl⟩ := hL.slice
  obtain ⟨b, o, rfl, hbw, q1⟩ := rdN_at hL i hi
  obtain ⟨n, hn⟩ : ∃ n, L.length = n := ⟨_, rfl⟩
  rw [hn] at hL hi ⊢
  obtain ⟨W, hW⟩ : ∃ W, W = w.alloc (.cells (tkC (.slice (some ⟨b, o, none⟩) n lc) av) 24) := ⟨_, rfl⟩
  have hS := Lib.hid (show Below w.heap.size w W by rw [hW]; exact below_a _ _)
  have r0 := Lib.hid (show W.heap[w.heap.size]? = some (.cells (tkC (.slice (some ⟨b, o, none⟩) n lc) av) 24 (0, 0)) by rw [hW]; exact heap_alloc_new w _)
  have hsz := Lib.hid (show W.heap.size = w.heap.size + 1 by rw [hW]; simp)
  have c0 : W.cell? ⟨w.heap.size, 0, none⟩ = some (.slice (some ⟨b, o, none⟩) n lc) := by rw [cell_of_row _ _ _ _ _ _ r0.out]; rfl
  have d0 := q1 _ hS.out
  have hiI : (i : Int) < (n : Int) := by omega
  clear hL q1 hn
  generalize ith L i = x at *
  go_enter Try.func42, Try.ntmps42
  go_upto_region 1 with fail
  rw [← hW]
  clear hW
  go_wp2
  go_ret
  exact ⟨ret_bool (by rw [Bool.eq_iff_iff]; simp), hS.out⟩
theorem can_zero {L A : List Int} {i : Nat} (h : ith L i = 0) : can L A i = false := by unfold can; rw [decide_eq_true h]; rfl
theorem can_neg {L A : List Int} {i : Nat} (h : ¬ ith L i = 0) (h2 : ith A i < 0) : can L A i = true := by unfold can; rw [decide_eq_false h, decide_eq_true h2]; rfl
theorem can_pos {L A : List Int} {i j : Nat} (h : ¬ ith L i = 0) (h2 : ith A i = (j : Int)) : can L A i = decide (ith L j = 0) := by
  unfold can; rw [decide_eq_false h, h2, Int.toNat_natCast, decide_eq_false (by omega)]; simp
set_option maxHeartbeats 4000000 in
set_option maxRecDepth 100000 in
theorem runnable_any (L A : List Int) (lv av : Value) (i : Nat) (w : World) (hL : RdN w lv L) (hA : RdN w av A) (hO : OkT L A) (hi : i < L.length) :
    Calls Try.prog 34 #[.agg (tkC lv av), .int .i64 (i : Int)] w fun e w' => e = .returned (.bool (can L A i)) ∧ Below w.heap.size w w' := by
  have hal := hO.na
  have hel := (hO.el i hi).2
  obtain ⟨n, hn⟩ : ∃ n, L.length = n := ⟨_, rfl⟩
  obtain ⟨aa, ac, rfl⟩ := hA.slice
  obtain ⟨b, o, rfl, hbw, q1⟩ := rdN_at hA i (by omega)
  rw [hal, hn] at hA ⊢
  rw [hn] at hi
  obtain ⟨W, hW⟩ : ∃ W, W = w.alloc (.cells (tkC lv (.slice (some ⟨b, o, none⟩) n ac)) 24) := ⟨_, rfl⟩
  have hS := Lib.hid (show Below w.heap.size w W by rw [hW]; exact below_a _ _)
  have r0 := Lib.hid (show W.heap[w.heap.size]? = some (.cells (tkC lv (.slice (some ⟨b, o, none⟩) n ac)) 24 (0, 0)) by rw [hW]; exact heap_alloc_new w _)
  have c1 : W.cell? ⟨w.heap.size, 1, none⟩ = some (.slice (some ⟨b, o, none⟩) n ac) := by rw [cell_of_row _ _ _ _ _ _ r0.out]; rfl
  have d1 := q1 _ hS.out
  have hiI : (i : Int) < (n : Int) := by omega
  have hX := Lib.hid (Below.refl W.heap.size W)
  have hrow := Lib.hid (fun (wz : World) (h : Below W.heap.size W wz) => rowB r0.out h (Array.getElem?_eq_some_iff.1 r0.out).1)
  have hD := Lib.hid (fun (j : Nat) (hj : j < n) (wz : World) (h : Below W.heap.size W wz) => done_any L lv (.slice (some ⟨b, o, none⟩) n ac) j wz (hL.mono (hS.out.trans (h.mono hS.out.size))) (by rw [hn]; exact hj))
  have hz := Lib.hid (fun h : ith L i = 0 => can_zero (A := A) h)
  have hne := Lib.hid (fun (h : ¬ ith L i = 0) (h2 : ith A i < 0) => can_neg h h2)
  have hps := Lib.hid (fun (h : ¬ ith L i = 0) (j : Nat) (h2 : ith A i = (j : Int)) => can_pos h h2)
  have hDi := Lib.hid (hD.out i hi)
  clear hL hA q1 hO hal hn
  generalize can L A i = R at *
  generalize hgx : ith L i = x at *
  generalize ith A i = y at *
  clear hgx
  go_enter Try.func34, Try.ntmps34
  go_upto_region 1 with fail
  rw [← hW]
  clear hW
  by_cases hx : x = 0
  · have hR := Lib.hid (hz.out hx)
    have hDx := Lib.hid (show ∀ wz, Below W.heap.size W wz → Calls Try.prog 42 #[.agg (tkC lv (.slice (some ⟨b, o, none⟩) n ac)), .int .i64 (i : Int)] wz fun e w' => e = .returned (.bool true) ∧ Below wz.heap.size wz w' from fun wz h => by have := hDi.out wz h; rwa [decide_eq_true hx] at this)
    clear hx hz hne hps
    go_wp2_with (first
        | (refine wpList_load_row_g rfl 24 _ rfl w.heap.size rfl 24 (tkC lv (.slice (some ⟨b, o, none⟩) n ac)) (0, 0) _ (hrow.out _ hX.out) Try.underlying24 rfl info_tk ?_)
        | (go_at_call 42; (with_reducible refine (hDx.out _ hX.out).mono ?_); rintro e9 w9 ⟨rfl, q9⟩; replace hX := Lib.hid (hX.out.trans (Below.mono q9 hX.out.size)); clear q9))
    go_ret
    exact ⟨ret_bool hR.out.symm, hS.out.trans (hX.out.mono hS.out.size)⟩
  · have hDx := Lib.hid (show ∀ wz, Below W.heap.size W wz → Calls Try.prog 42 #[.agg (tkC lv (.slice (some ⟨b, o, none⟩) n ac)), .int .i64 (i : Int)] wz fun e w' => e = .returned (.bool false) ∧ Below wz.heap.size wz w' from fun wz h => by have := hDi.out wz h; rwa [decide_eq_false hx] at this)
    by_cases hy : y < 0
    · have hR := Lib.hid (hne.out hx hy)
      clear hx hz hne hps
      go_wp2_with (first
          | (refine wpList_load_row_g rfl 24 _ rfl w.heap.size rfl 24 (tkC lv (.slice (some ⟨b, o, none⟩) n ac)) (0, 0) _ (hrow.out _ hX.out) Try.underlying24 rfl info_tk ?_)
          | (go_at_call 42; (with_reducible refine (hDx.out _ hX.out).mono ?_); rintro e9 w9 ⟨rfl, q9⟩; replace hX := Lib.hid (hX.out.trans (Below.mono q9 hX.out.size)); clear q9))
      go_ret
      exact ⟨ret_bool hR.out.symm, hS.out.trans (hX.out.mono hS.out.size)⟩
    · obtain ⟨j, rfl⟩ : ∃ j : Nat, y = (j : Int) := ⟨y.toNat, by omega⟩
      have hR := Lib.hid (hps.out hx j rfl)
      have hDj := Lib.hid (hD.out j (by omega))
      have hjI : ¬ ((j : Int) < 0) := by omega
      clear hx hz hne hps hy hel
      generalize decide (ith L j = 0) = B at *
      go_wp2_with (first
          | (refine wpList_load_row_g rfl 24 _ rfl w.heap.size rfl 24 (tkC lv (.slice (some ⟨b, o, none⟩) n ac)) (0, 0) _ (hrow.out _ hX.out) Try.underlying24 rfl info_tk ?_)
          | (go_at_call 42; (with_reducible refine (hDx.out _ hX.out).mono ?_); rintro e9 w9 ⟨rfl, q9⟩; replace hX := Lib.hid (hX.out.trans (Below.mono q9 hX.out.size)); clear q9)
          | (go_at_call 42; (with_reducible refine (hDj.out _ hX.out).mono ?_); rintro e9 w9 ⟨rfl, q9⟩; replace hX := Lib.hid (hX.out.trans (Below.mono q9 hX.out.size)); clear q9))
      go_ret
      exact ⟨ret_bool hR.out.symm, hS.out.trans (hX.out.mono hS.out.size)⟩
end Go.Proofs.Ytdebeimognikiaa.con
namespace Go.Proofs.Ytdebeimognikiaa.con
open Go.RowKit Go.Ytdebeimognikiaa
set_option linter.unusedVariables false
set_option maxHeartbeats 4000000 in
set_option maxRecDepth 100000 in
theorem step_any (L A : List Int) (g c : Nat) (av : Value) (i : Nat) (w : World) (hR : IRow 3 w g L) (hA : HeldN g w av A) (hO : OkT L A) (hi : i < L.length) (hc : L.length ≤ c) (hm : c ≤ maxLen) :
    Calls Try.prog 37 #[.agg (tkC (.slice (some ⟨g, 0, none⟩) L.length c) av), .int .i64 (i : Int)] w fun e w' => e = .returned (.bool (can L A i)) ∧ IRow 3 w' g (stepL L A i) ∧ ElsN g w w' := by
  have hL := hR.rd2 hc hm
  have hel := (hO.el i hi).1
  obtain ⟨n, hn⟩ : ∃ n, L.length = n := ⟨_, rfl⟩
  rw [hn] at hL hc hi ⊢
  obtain ⟨W, hW⟩ : ∃ W, W = w.alloc (.cells (tkC (.slice (some ⟨g, 0, none⟩) n c) av) 24) := ⟨_, rfl⟩
  have hS := Lib.hid (show Below w.heap.size w W by rw [hW]; exact below_a _ _)
  have r0 := Lib.hid (show W.heap[w.heap.size]? = some (.cells (tkC (.slice (some ⟨g, 0, none⟩) n c) av) 24 (0, 0)) by rw [hW]; exact heap_alloc_new w _)
  have hsz := Lib.hid (show W.heap.size = w.heap.size + 1 by rw [hW]; simp)
  have hX := Lib.hid (Below.refl W.heap.size W)
  have hrow := Lib.hid (fun (wz : World) (h : Below W.heap.size W wz) => rowB r0.out h (Array.getElem?_eq_some_iff.1 r0.out).1)
  have hD := Lib.hid (fun (wz : World) (h : Below W.heap.size W wz) => runnable_any L A (.slice (some ⟨g, 0, none⟩) n c) av i wz (hL.mono (hS.out.trans (h.mono hS.out.size))) (hA.now.mono (hS.out.trans (h.mono hS.out.size))) hO (by rw [hn]; exact hi))
  have hIr := Lib.hid (fun (wz : World) (h : Below W.heap.size W wz) => hR.below (hS.out.trans (h.mono hS.out.size)))
  have hn' := Lib.hid hn
  have hno := Lib.hid (fun h : can L A i = false => can_false h)
  have hyes := Lib.hid (fun h : can L A i = true => And.intro (can_true h) (can_iff.1 h).1)
  have hiI : (i : Int) < (n : Int) := by omega
  clear hL hA hR hO hn
  generalize can L A i = R at *
  go_enter Try.func37, Try.ntmps37
  go_upto_region 1 with fail
  rw [← hW]
  clear hW
  cases R with
  | false =>
    go_wp2_with (first
        | (refine wpList_load_row_g rfl 24 _ rfl w.heap.size rfl 24 (tkC (.slice (some ⟨g, 0, none⟩) n c) av) (0, 0) _ (hrow.out _ hX.out) Try.underlying24 rfl info_tk ?_)
        | (go_at_call 34; (with_reducible refine (hD.out _ hX.out).mono ?_); rintro e9 w9 ⟨rfl, q9⟩; replace hX := Lib.hid (hX.out.trans (Below.mono q9 hX.out.size)); clear q9))
    go_ret
    exact ⟨rfl, by rw [hno.out (by first | rfl | trivial)]; exact hIr.out _ hX.out, elsN_below (hS.out.trans (hX.out.mono hS.out.size))⟩
  | true =>
    obtain ⟨hst, hx0⟩ := hyes.out (by first | rfl | trivial)
    go_upto_region 3 with (first
        | (refine wpList_load_row_g rfl 24 _ rfl w.heap.size rfl 24 (tkC (.slice (some ⟨g, 0, none⟩) n c) av) (0, 0) _ (hrow.out _ hX.out) Try.underlying24 rfl info_tk ?_)
        | (go_at_call 34; (with_reducible refine (hD.out _ hX.out).mono ?_); rintro e9 w9 ⟨rfl, q9⟩; replace hX := Lib.hid (hX.out.trans (Below.mono q9 hX.out.size)); clear q9))
    have hI := Lib.hid (hIr.out _ hX.out)
    have c0 : w9.cell? ⟨w.heap.size, 0, none⟩ = some (.slice (some ⟨g, 0, none⟩) n c) := by rw [cell_of_row _ _ _ _ _ _ (hrow.out _ hX.out)]; rfl
    have d0 := hI.out.cell i (by rw [hn'.out]; exact hi)
    have f0 := hI.out.frozen i
    have hB9 := Lib.hid (hS.out.trans (hX.out.mono hS.out.size))
    have hst' := Lib.hid hst
    have hset := Lib.hid (fun x => hI.out.set i (by rw [hn'.out]; exact hi) x)
    clear hst hno hyes hD hX hIr hI
    have hwr : IntKind.i64.wrap (ith L i - 1) = ith L i - 1 := IntWalk.i64_in _ (by omega)
    have hel' := Lib.hid hel
    generalize ith L i = x at *
    clear hel
    go_wp2
    go_ret
    exact ⟨rfl, by rw [hst'.out]; exact hset.out _, (elsN_below hB9.out).trans (elsN_set g i _ _)⟩
end Go.Proofs.Ytdebeimognikiaa.con
namespace Go.Proofs.Ytdebeimognikiaa.con
open Go.RowKit Go.Ytdebeimognikiaa
set_option linter.unusedVariables false
set_option maxHeartbeats 4000000 in
set_option maxRecDepth 100000 in
theorem sPicks_any (L A Q : List Int) (lv av pv : Value) (w : World) (hL : RdN w lv L) (hA : RdN w av A) (hQ : RdN w pv Q) :
    Calls Try.prog 36 #[.agg (tkC lv av), pv] w fun e w' => e = .returned (.int .i64 (pckE L A Q)) ∧ Below w.heap.size w w' := by
  have f1 := hQ.fit
  obtain ⟨la, lc, rfl⟩ := hL.slice
  obtain ⟨pa, pc, rfl⟩ := hQ.slice
  obtain ⟨n, hn⟩ : ∃ n, L.length = n := ⟨_, rfl⟩
  obtain ⟨m, hm⟩ : ∃ m, Q.length = m := ⟨_, rfl⟩
  have hn' := Lib.hid hn; have hm' := Lib.hid hm
  rw [hn] at hL ⊢
  rw [hm] at hQ f1 ⊢
  obtain ⟨W, hW⟩ : ∃ W, W = w.alloc (.cells (tkC (.slice la n lc) av) 24) := ⟨_, rfl⟩
  have hS := Lib.hid (show Below w.heap.size w W by rw [hW]; exact below_a _ _)
  have r0 := Lib.hid (show W.heap[w.heap.size]? = some (.cells (tkC (.slice la n lc) av) 24 (0, 0)) by rw [hW]; exact heap_alloc_new w _)
  have hsz := Lib.hid (show W.heap.size = w.heap.size + 1 by rw [hW]; simp)
  have hX := Lib.hid (Below.refl W.heap.size W)
  have hrow := Lib.hid (fun (wz : World) (h : Below W.heap.size W wz) => rowB r0.out h (Array.getElem?_eq_some_iff.1 r0.out).1)
  have hC0 := Lib.hid (fun (wz : World) (h : Below W.heap.size W wz) => sCheck_any L A (.slice la n lc) av wz (hL.mono (hS.out.trans (h.mono hS.out.size))) (hA.mono (hS.out.trans (h.mono hS.out.size))))
  have hQ' := Lib.hid hQ
  have hbad := Lib.hid (fun h : ¬ OkT L A => And.intro (chkT_no h) (pckE_bad (P := Q) h))
  have hmany := Lib.hid (fun (h : OkT L A) (hp : 300 < Q.length) => pckE_many h hp)
  have harg := Lib.hid (fun (h : OkT L A) (hp : ¬ 300 < Q.length) i hi hx => pckE_arg h hp i hi hx)
  have hok := Lib.hid (fun (h : OkT L A) (hp : ¬ 300 < Q.length) hx => pckE_ok h hp hx)
  have hgood := Lib.hid (fun h : OkT L A => chkT_ok h)
  have htop := Lib.hid (fun h : OkT L A => h.hi)
  clear hL hA hQ hn hm
  generalize pckE L A Q = R at *
  generalize chkT L A = C at *
  rcases Classical.em (OkT L A) with hO | hO
  case inr =>
    obtain ⟨rfl, rfl⟩ := hbad.out hO
    have hC := hC0
    clear hbad hmany harg hok hgood hC0 hO
    go_enter Try.func36, Try.ntmps36
    go_upto_region 1 with fail
    rw [← hW]
    clear hW
    go_wp2_with (first
        | (refine wpList_load_row_g rfl 24 _ rfl w.heap.size rfl 24 (tkC (.slice la n lc) av) (0, 0) _ (hrow.out _ hX.out) Try.underlying24 rfl info_tk ?_)
        | (go_at_call 21; (with_reducible refine (hC.out _ hX.out).mono ?_); rintro e9 w9 ⟨rfl, q9⟩; replace hX := Lib.hid (hX.out.trans (Below.mono q9 hX.out.size)); clear q9))
    go_ret
    exact ⟨rfl, hS.out.trans (hX.out.mono hS.out.size)⟩
  case inl =>
    have hO' := Lib.hid hO
    obtain rfl := hgood.out hO
    have h12 := htop.out hO
    rw [hn'.out] at h12
    have hC := hC0
    clear hbad hgood hC0 hO htop
    go_enter Try.func36, Try.ntmps36
    go_upto_region 1 with fail
    rw [← hW]
    clear hW
    go_upto_region 4 with (first
        | (refine wpList_load_row_g rfl 24 _ rfl w.heap.size rfl 24 (tkC (.slice la n lc) av) (0, 0) _ (hrow.out _ hX.out) Try.underlying24 rfl info_tk ?_)
        | (go_at_call 21; (with_reducible refine (hC.out _ hX.out).mono ?_); rintro e9 w9 ⟨rfl, q9⟩; replace hX := Lib.hid (hX.out.trans (Below.mono q9 hX.out.size)); clear q9))
    by_cases hp : 300 < m
    · have hpI : (300 : Int) < (m : Int) := by omega
      have hR := Lib.hid (hmany.out hO'.out (by rw [hm'.out]; exact hp))
      go_wp2
      go_ret
      exact ⟨ret_int hR.out.symm, hS.out.trans (hX.out.mono hS.out.size)⟩
    have hpI : ¬ (300 : Int) < (m : Int) := by omega
    have hp' := Lib.hid (show ¬ 300 < Q.length by rw [hm'.out]; exact hp)
    have c0 : w9.cell? ⟨w.heap.size, 0, none⟩ = some (.slice la n lc) := by rw [cell_of_row _ _ _ _ _ _ (hrow.out _ hX.out)]; rfl
    go_wp2
    clear c0
    go_loopw [18] (fun i wr => ∃ k : Nat, k ≤ m ∧ i = .int .i64 (k : Int) ∧ Below W.heap.size W wr ∧ ∀ j, j < k → 0 ≤ ith Q j ∧ ith Q j < (L.length : Int)) (fun i _ => m - (intOf i).toNat)
    case atStart => exact ⟨0, Nat.zero_le _, rfl, hX.out, fun j hj => absurd hj (Nat.not_lt_zero _)⟩
    case round =>
      obtain ⟨k, hk, rfl, hb, he⟩ := hrel
      have he' := Lib.hid he; have hX := Lib.hid hb
      have c0 : wr.cell? ⟨w.heap.size, 0, none⟩ = some (.slice la n lc) := by rw [cell_of_row _ _ _ _ _ _ (hrow.out _ hb)]; rfl
      clear he hb
      by_cases hlt : k < m
      · obtain ⟨b, o, rfl, hbw, q1⟩ := rdN_at hQ'.out k (by rw [hm'.out]; exact hlt)
        have d0 := q1 _ (hS.out.trans (hX.out.mono hS.out.size))
        have hkI : (k : Int) < (m : Int) := by omega
        have hel := Lib.hid (fun h => harg.out hO'.out hp'.out k (by rw [hm'.out]; exact hlt) h)
        have hst := Lib.hid (fun h : 0 ≤ ith Q k ∧ ith Q k < (L.length : Int) => (show ∀ j, j < k + 1 → 0 ≤ ith Q j ∧ ith Q j < (L.length : Int) from fun j hj => by
          rcases Nat.lt_or_ge j k with g | g
          · exact he'.out j g
          · obtain rfl : j = k := by omega
            exact h))
        clear q1
        generalize ith Q k = x at *
        by_cases g1 : x < 0
        · have hR := Lib.hid (hel.out (fun h => by omega))
          go_wp2
          go_ret
          exact ⟨ret_int hR.out.symm, hS.out.trans (hX.out.mono hS.out.size)⟩
        by_cases g2 : (n : Int) ≤ x
        · have hR := Lib.hid (hel.out (fun h => by rw [hn'.out] at h; omega))
          go_wp2
          go_ret
          exact ⟨ret_int hR.out.symm, hS.out.trans (hX.out.mono hS.out.size)⟩
        have hnew := Lib.hid (hst.out ⟨by omega, by rw [hn'.out]; omega⟩)
        go_wp2
        go_roundw
        case rel => exact ⟨k + 1, by omega, by go_num, hX.out, hnew.out⟩
        case measure => simp [intOf]; omega
      · obtain rfl : k = m := by omega
        have hR := Lib.hid (hok.out hO'.out hp'.out (fun i hi => he'.out i (by rw [← hm'.out]; exact hi)))
        go_wp2
        go_ret
        exact ⟨ret_int hR.out.symm, hS.out.trans (hX.out.mono hS.out.size)⟩
set_option maxHeartbeats 4000000 in
set_option maxRecDepth 100000 in
theorem rPicks_any (L A Q : List Int) (lv av pv : Value) (w : World) (hL : RdN w lv L) (hA : RdN w av A) (hQ : RdN w pv Q) :
    Calls Try.prog 30 #[.agg (tkC lv av), pv] w fun e w' => e = .returned (.int .i64 (pckE L A Q)) ∧ Below w.heap.size w w' := by
  have f1 := hQ.fit
  obtain ⟨la, lc, rfl⟩ := hL.slice
  obtain ⟨pa, pc, rfl⟩ := hQ.slice
  obtain ⟨n, hn⟩ : ∃ n, L.length = n := ⟨_, rfl⟩
  obtain ⟨m, hm⟩ : ∃ m, Q.length = m := ⟨_, rfl⟩
  have hn' := Lib.hid hn; have hm' := Lib.hid hm
  rw [hn] at hL ⊢
  rw [hm] at hQ f1 ⊢
  obtain ⟨W, hW⟩ : ∃ W, W = w.alloc (.cells (tkC (.slice la n lc) av) 24) := ⟨_, rfl⟩
  have hS := Lib.hid (show Below w.heap.size w W by rw [hW]; exact below_a _ _)
  have r0 := Lib.hid (show W.heap[w.heap.size]? = some (.cells (tkC (.slice la n lc) av) 24 (0, 0)) by rw [hW]; exact heap_alloc_new w _)
  have hsz := Lib.hid (show W.heap.size = w.heap.size + 1 by rw [hW]; simp)
  have hX := Lib.hid (Below.refl W.heap.size W)
  have hrow := Lib.hid (fun (wz : World) (h : Below W.heap.size W wz) => rowB r0.out h (Array.getElem?_eq_some_iff.1 r0.out).1)
  have hC0 := Lib.hid (fun (wz : World) (h : Below W.heap.size W wz) => rCheck_any L A (.slice la n lc) av wz (hL.mono (hS.out.trans (h.mono hS.out.size))) (hA.mono (hS.out.trans (h.mono hS.out.size))))
  have hQ' := Lib.hid hQ
  have hbad := Lib.hid (fun h : ¬ OkT L A => And.intro (chkT_no h) (pckE_bad (P := Q) h))
  have hmany := Lib.hid (fun (h : OkT L A) (hp : 300 < Q.length) => pckE_many h hp)
  have harg := Lib.hid (fun (h : OkT L A) (hp : ¬ 300 < Q.length) i hi hx => pckE_arg h hp i hi hx)
  have hok := Lib.hid (fun (h : OkT L A) (hp : ¬ 300 < Q.length) hx => pckE_ok h hp hx)
  have hgood := Lib.hid (fun h : OkT L A => chkT_ok h)
  have htop := Lib.hid (fun h : OkT L A => h.hi)
  clear hL hA hQ hn hm
  generalize pckE L A Q = R at *
  generalize chkT L A = C at *
  rcases Classical.em (OkT L A) with hO | hO
  case inr =>
    obtain ⟨rfl, rfl⟩ := hbad.out hO
    have hC := hC0
    clear hbad hmany harg hok hgood hC0 hO
    go_enter Try.func30, Try.ntmps30
    go_upto_region 1 with fail
    rw [← hW]
    clear hW
    go_wp2_with (first
        | (refine wpList_load_row_g rfl 24 _ rfl w.heap.size rfl 24 (tkC (.slice la n lc) av) (0, 0) _ (hrow.out _ hX.out) Try.underlying24 rfl info_tk ?_)
        | (go_at_call 22; (with_reducible refine (hC.out _ hX.out).mono ?_); rintro e9 w9 ⟨rfl, q9⟩; replace hX := Lib.hid (hX.out.trans (Below.mono q9 hX.out.size)); clear q9))
    go_ret
    exact ⟨rfl, hS.out.trans (hX.out.mono hS.out.size)⟩
  case inl =>
    have hO' := Lib.hid hO
    obtain rfl := hgood.out hO
    have h12 := htop.out hO
    rw [hn'.out] at h12
    have hC := hC0
    clear hbad hgood hC0 hO htop
    go_enter Try.func30, Try.ntmps30
    go_upto_region 1 with fail
    rw [← hW]
    clear hW
    go_upto_region 3 with (first
        | (refine wpList_load_row_g rfl 24 _ rfl w.heap.size rfl 24 (tkC (.slice la n lc) av) (0, 0) _ (hrow.out _ hX.out) Try.underlying24 rfl info_tk ?_)
        | (go_at_call 22; (with_reducible refine (hC.out _ hX.out).mono ?_); rintro e9 w9 ⟨rfl, q9⟩; replace hX := Lib.hid (hX.out.trans (Below.mono q9 hX.out.size)); clear q9))
    by_cases hp : 300 < m
    · have hpI : (300 : Int) < (m : Int) := by omega
      have hR := Lib.hid (hmany.out hO'.out (by rw [hm'.out]; exact hp))
      go_wp2
      go_ret
      exact ⟨ret_int hR.out.symm, hS.out.trans (hX.out.mono hS.out.size)⟩
    have hpI : ¬ (300 : Int) < (m : Int) := by omega
    have hp' := Lib.hid (show ¬ 300 < Q.length by rw [hm'.out]; exact hp)
    have c0 : w9.cell? ⟨w.heap.size, 0, none⟩ = some (.slice la n lc) := by rw [cell_of_row _ _ _ _ _ _ (hrow.out _ hX.out)]; rfl
    go_wp2
    clear c0
    go_loopw [5] (fun i wr => ∃ k : Nat, k ≤ m ∧ i = .int .i64 (k : Int) ∧ Below W.heap.size W wr ∧ ∀ j, j < k → 0 ≤ ith Q j ∧ ith Q j < (L.length : Int)) (fun i _ => m - (intOf i).toNat)
    case atStart => exact ⟨0, Nat.zero_le _, rfl, hX.out, fun j hj => absurd hj (Nat.not_lt_zero _)⟩
    case round =>
      obtain ⟨k, hk, rfl, hb, he⟩ := hrel
      have he' := Lib.hid he; have hX := Lib.hid hb
      have c0 : wr.cell? ⟨w.heap.size, 0, none⟩ = some (.slice la n lc) := by rw [cell_of_row _ _ _ _ _ _ (hrow.out _ hb)]; rfl
      clear he hb
      by_cases hlt : k < m
      · obtain ⟨b, o, rfl, hbw, q1⟩ := rdN_at hQ'.out k (by rw [hm'.out]; exact hlt)
        have d0 := q1 _ (hS.out.trans (hX.out.mono hS.out.size))
        have hkI : (k : Int) < (m : Int) := by omega
        have hel := Lib.hid (fun h => harg.out hO'.out hp'.out k (by rw [hm'.out]; exact hlt) h)
        have hst := Lib.hid (fun h : 0 ≤ ith Q k ∧ ith Q k < (L.length : Int) => (show ∀ j, j < k + 1 → 0 ≤ ith Q j ∧ ith Q j < (L.length : Int) from fun j hj => by
          rcases Nat.lt_or_ge j k with g | g
          · exact he'.out j g
          · obtain rfl : j = k := by omega
            exact h))
        clear q1
        generalize ith Q k = x at *
        by_cases g1 : x < 0
        · have hR := Lib.hid (hel.out (fun h => by omega))
          go_upto_region 8 with fail
          go_quiet (fail)
          go_wp2
          go_ret
          exact ⟨ret_int hR.out.symm, drewN_below (hS.out.trans (hX.out.mono hS.out.size)) _⟩
        by_cases g2 : (n : Int) ≤ x
        · have hR := Lib.hid (hel.out (fun h => by rw [hn'.out] at h; omega))
          have g1' : decide (x < 0) = false := decide_eq_false g1
          go_upto_region 8 with fail
          go_quiet (fail)
          go_wp2
          go_ret
          exact ⟨ret_int hR.out.symm, drewN_below (hS.out.trans (hX.out.mono hS.out.size)) _⟩
        have hnew := Lib.hid (hst.out ⟨by omega, by rw [hn'.out]; omega⟩)
        have g1' : decide (x < 0) = false := decide_eq_false g1
        go_upto_region 8 with fail
        go_quiet (fail)
        go_wp2
        go_roundw
        case rel => exact ⟨k + 1, by omega, by go_num, drewN_below (hX.out) _, hnew.out⟩
        case measure => simp [intOf]; omega
      · obtain rfl : k = m := by omega
        have hR := Lib.hid (hok.out hO'.out hp'.out (fun i hi => he'.out i (by rw [← hm'.out]; exact hi)))
        go_wp2
        go_ret
        exact ⟨ret_int hR.out.symm, hS.out.trans (hX.out.mono hS.out.size)⟩
end Go.Proofs.Ytdebeimognikiaa.con
namespace Go.Proofs.Ytdebeimognikiaa.con
open Go.RowKit Go.Ytdebeimognikiaa
set_option linter.unusedVariables false
/-- What Run answers. -/
def runR (L A P : List Int) : List Int := if pckE L A P = 0 then runN L A P P.length else []
def runA (L A P : List Int) : List Int := if pckE L A P = 0 then A else []
def runS (L A P : List Int) : List Int := if pckE L A P = 0 then didN L A P P.length else []
theorem run_ok {L A P : List Int} (h : pckE L A P = 0) : runR L A P = runN L A P P.length ∧ runA L A P = A ∧ runS L A P = didN L A P P.length := by unfold runR runA runS; rw [if_pos h, if_pos h, if_pos h]; exact ⟨rfl, rfl, rfl⟩
theorem run_no {L A P : List Int} (h : pckE L A P ≠ 0) : runR L A P = [] ∧ runA L A P = [] ∧ runS L A P = [] := by unfold runR runA runS; rw [if_neg h, if_neg h, if_neg h]; exact ⟨rfl, rfl, rfl⟩
/-- The state of a run's memory: the tasks' two rows, the boxes. -/
structure RunI (w : World) (B5 g h bx rs : Nat) (bc rc : Array Value) (A St : List Int) (wr : World) : Prop where
  b : Below w.heap.size w wr
  s : B5 ≤ wr.heap.size
  row : IRow 3 wr g St
  aft : IRow 3 wr h A
  box : wr.heap[bx]? = some (.cells bc 24 (0, 0))
  res : wr.heap[rs]? = some (.cells rc 24 (0, 0))
structure RunG (w : World) (B5 g h bx rs : Nat) : Prop where
  g0 : w.heap.size ≤ g
  h0 : w.heap.size ≤ h
  g5 : g < B5
  h5 : h < B5
  gh : h ≠ g
  b5 : bx < B5
  bg : bx ≠ g
  r5 : rs < B5
  rg : rs ≠ g
  hr : h ≠ rs
theorem RunI.below {w : World} {B5 g h bx rs : Nat} {bc rc : Array Value} {A St : List Int} {wr w' : World} (i : RunI w B5 g h bx rs bc rc A St wr) (hb : Below wr.heap.size wr w') : RunI w B5 g h bx rs bc rc A St w' :=
  ⟨i.b.trans (hb.mono i.b.size), Nat.le_trans i.s hb.size, i.row.below hb, i.aft.below hb, rowK i.box hb, rowK i.res hb⟩
theorem RunI.step {w : World} {B5 g h bx rs : Nat} {bc rc : Array Value} {A St St' : List Int} {wr w' : World} (i : RunI w B5 g h bx rs bc rc A St wr) (G : RunG w B5 g h bx rs) (he : ElsN g wr w') (hr : IRow 3 w' g St') : RunI w B5 g h bx rs bc rc A St' w' :=
  ⟨he.to i.b i.b.size G.g0, Nat.le_trans i.s he.size, hr, i.aft.to (he.row G.gh i.aft.lt), he.ob i.box G.bg, he.ob i.res G.rg⟩
theorem RunI.app {w : World} {B5 g h bx rs : Nat} {bc rc : Array Value} {A St l : List Int} {wr w' : World} {v : Value} {E : TypeId} (i : RunI w B5 g h bx rs bc rc A St wr) (G : RunG w B5 g h bx rs) (hw : w.heap.size ≤ B5) (ho : OwnN B5 E wr v l) (hg : wr.grownBy w' v.ownBlock) : RunI w B5 g h bx rs bc rc A St w' :=
  ⟨i.b.trans ((ho.below hg i.s).mono hw), Nat.le_trans i.s hg.size, i.row.to (ho.low hg G.g5 i.row.lt), i.aft.to (ho.low hg G.h5 i.aft.lt),
   (ho.low hg G.b5 (Array.getElem?_eq_some_iff.1 i.box).1).trans i.box, (ho.low hg G.r5 (Array.getElem?_eq_some_iff.1 i.res).1).trans i.res⟩
theorem didN_yes {L A P : List Int} {k : Nat} (h : can (runN L A P k) A (pk P k) = true) : didN L A P (k + 1) = didN L A P k ++ [(k : Int)] := by rw [didN, if_pos h]
theorem didN_no {L A P : List Int} {k : Nat} (h : can (runN L A P k) A (pk P k) = false) : didN L A P (k + 1) = didN L A P k := by rw [didN, h]; rfl
theorem runN_step (L A P : List Int) (k : Nat) : runN L A P (k + 1) = stepL (runN L A P k) A (pk P k) := rfl
set_option maxHeartbeats 4000000 in
set_option maxRecDepth 100000 in
theorem sRun_any (L A Q : List Int) (lv av pv : Value) (w : World) (hL : RdN w lv L) (hA : RdN w av A) (hQ : RdN w pv Q) :
    Calls Try.prog 19 #[.agg (tkC lv av), pv] w fun e w' => ∃ xv yv dv, e = .returned (.tuple #[.agg (tkC xv yv), dv, .int .i64 (pckE L A Q)]) ∧ NewN w.heap.size w' xv (runR L A Q) ∧ NewN w.heap.size w' yv (runA L A Q) ∧ NewN w.heap.size w' dv (runS L A Q) ∧ Below w.heap.size w w' := by
  have f1 := hQ.fit
  obtain ⟨pa, pc, rfl⟩ := hQ.slice
  obtain ⟨m, hm⟩ : ∃ m, Q.length = m := ⟨_, rfl⟩
  have hm' := Lib.hid hm
  rw [hm] at hQ f1 ⊢
  obtain ⟨W, hW⟩ : ∃ W, W = (w.alloc (.cells (tkC lv av) 24)).alloc (.cells (tkC nilN nilN) 24) := ⟨_, rfl⟩
  have hS := Lib.hid (show Below w.heap.size w W by rw [hW]; exact ((Below.refl w.heap.size w).alloc (Nat.le_refl _) _).alloc (by simp) _)
  have r0 := Lib.hid (show W.heap[w.heap.size]? = some (.cells (tkC lv av) 24 (0, 0)) by rw [hW]; exact rowB (heap_alloc_new w _) (below_a _ _) (by simp))
  have r1 := Lib.hid (show W.heap[w.heap.size + 1]? = some (.cells (tkC nilN nilN) 24 (0, 0)) by rw [hW]; exact hn2 w _ _)
  have hsz := Lib.hid (show W.heap.size = w.heap.size + 2 by rw [hW]; simp)
  have hX := Lib.hid (Below.refl W.heap.size W)
  have hrow := Lib.hid (fun (wz : World) (h : Below W.heap.size W wz) => rowB r0.out h (Array.getElem?_eq_some_iff.1 r0.out).1)
  have hres := Lib.hid (fun (wz : World) (h : Below W.heap.size W wz) => rowB r1.out h (Array.getElem?_eq_some_iff.1 r1.out).1)
  have hC := Lib.hid (fun (wz : World) (h : Below W.heap.size W wz) => sPicks_any L A Q lv av (.slice pa m pc) wz (hL.mono (hS.out.trans (h.mono hS.out.size))) (hA.mono (hS.out.trans (h.mono hS.out.size))) (hQ.mono (hS.out.trans (h.mono hS.out.size))))
  have hT0 := Lib.hid (fun (wz : World) (h : Below W.heap.size W wz) (h1 : L.length ≤ 1000) (h2 : A.length ≤ 1000) => copied_any L A lv av wz (hL.mono (hS.out.trans (h.mono hS.out.size))) (hA.mono (hS.out.trans (h.mono hS.out.size))) h1 h2)
  have hQ' := Lib.hid hQ
  clear hL hA hQ hm
  by_cases h0 : pckE L A Q = 0
  case neg =>
    obtain ⟨e1, e2, e3⟩ := run_no h0
    rw [e1, e2, e3]
    clear e1 e2 e3 hT0 hQ'
    generalize pckE L A Q = R at *
    go_enter Try.func19, Try.ntmps19
    go_upto_region 1 with fail
    rw [← hW]
    clear hW
    go_wp2_with (first
        | (refine wpList_load_row_g rfl 24 _ rfl w.heap.size rfl 24 (tkC lv av) (0, 0) _ (hrow.out _ hX.out) Try.underlying24 rfl info_tk ?_)
        | (go_at_call 36; (with_reducible refine (hC.out _ hX.out).mono ?_); rintro e9 w9 ⟨rfl, q9⟩; replace hX := Lib.hid (hX.out.trans (Below.mono q9 hX.out.size)); clear q9)
        | (refine wpList_store_row rfl 24 _ _ rfl (w.heap.size + 1) (tkC nilN nilN) rfl rfl 24 _ (hres.out _ hX.out) info_tk rfl (tk_one _ _ rfl rfl) ?_))
    refine bodyPost_ret (results_row_tmp2 rfl _ _ (w.heap.size + 1) 24 _ _ _ rfl (setRow_heap _ _ _ (tkC nilN nilN) _ _ (hres.out _ hX.out)) Try.underlying24 rfl info_tk) rfl ⟨_, _, _, rfl, NewN.nil _ _, NewN.nil _ _, NewN.nil _ _, below_setRow' (hS.out.trans (hX.out.mono hS.out.size)) (by omega) _⟩
  case pos =>
    have hO := pckE_zero h0
    obtain ⟨e1, e2, e3⟩ := run_ok h0
    rw [e1, e2, e3, hm'.out]
    have n12 := hO.t.hi
    have n1 := hO.t.lo
    have nA := hO.t.na
    have m300 := hO.many
    rw [hm'.out] at m300
    have hO' := Lib.hid hO
    have hT := Lib.hid (fun wz h => hT0.out wz h (by omega) (by omega))
    obtain ⟨n, hn⟩ : ∃ n, L.length = n := ⟨_, rfl⟩
    have hn' := Lib.hid hn
    rw [h0] at hC ⊢
    rw [hn] at n12 n1 nA
    have nA' := Lib.hid nA
    clear h0 e1 e2 e3 hT0 hO hn
    go_enter Try.func19, Try.ntmps19
    go_upto_region 1 with fail
    rw [← hW]
    clear hW
    go_upto_region 4 with (first
        | (refine wpList_load_row_g rfl 24 _ rfl w.heap.size rfl 24 (tkC lv av) (0, 0) _ (hrow.out _ hX.out) Try.underlying24 rfl info_tk ?_)
        | (go_at_call 36; (with_reducible refine (hC.out _ hX.out).mono ?_); rintro e9 w9 ⟨rfl, q9⟩; replace hX := Lib.hid (hX.out.trans (Below.mono q9 hX.out.size)); clear q9))
    have r2 := Lib.hid (hrow.out _ hX.out); have r3 := Lib.hid (hres.out _ hX.out)
    have hT9 := Lib.hid (hT.out _ hX.out)
    have hX9 := Lib.hid (hS.out.trans (hX.out.mono hS.out.size)); have hz9 := Lib.hid hX.out.size
    clear hX hrow hres hT hC r0 r1
    go_upto_region 5 with (first
      | (refine wpList_load_row_g rfl 24 _ rfl w.heap.size rfl 24 (tkC lv av) (0, 0) _ r2.out Try.underlying24 rfl info_tk ?_)
      | (go_at_call 33; (with_reducible refine hT9.out.mono ?_); rintro e8 w8 ⟨xv, yv, rfl, hTw, q8⟩; have hTw' := Lib.hid hTw; have q8' := Lib.hid q8; have one8 := Lib.hid (tk_one xv yv (own_one hTw.x) (own_one hTw.y)); have r4 := Lib.hid (rowK r2.out q8); have r5 := Lib.hid (rowK r3.out q8); clear hTw q8)
      | (refine wpList_store_row rfl 24 _ _ rfl w.heap.size (tkC xv yv) rfl rfl 24 _ r4.out info_tk rfl one8.out ?_))
    obtain ⟨g, c, rfl, hg0, hc1, hc2, hig⟩ := (hTw'.out.x.mono (Nat.le_refl _)).row (by rw [hn'.out]; omega)
    obtain ⟨h, c2, rfl, hh0, hd1, hd2, hih⟩ := (hTw'.out.y.mono (Nat.le_refl _)).row (by rw [nA'.out]; omega)
    have hgh : h ≠ g := fun e => hTw'.out.ne g rfl (by rw [← e]; rfl)
    rw [hn'.out] at hc1 ⊢
    rw [nA'.out] at hd1 ⊢
    have hi0 := Lib.hid (show RunI w w8.heap.size g h w.heap.size (w.heap.size + 1) (tkC (.slice (some ⟨g, 0, none⟩) n c) (.slice (some ⟨h, 0, none⟩) n c2)) (tkC nilN nilN) A (runN L A Q 0) (w8.setRow w.heap.size (tkC (.slice (some ⟨g, 0, none⟩) n c) (.slice (some ⟨h, 0, none⟩) n c2))) from
      ⟨below_setRow' (hX9.out.trans (q8'.out.mono hX9.out.size)) (Nat.le_refl _) _, by rw [size_setRow]; exact Nat.le_refl _, hig.to (setRow_other _ _ _ _ (by have := hsz.out; have := hz9.out; omega)), hih.to (setRow_other _ _ _ _ (by have := hsz.out; have := hz9.out; omega)), setRow_heap _ _ _ _ _ _ r4.out, (setRow_other _ _ _ _ (by omega)).trans r5.out⟩)
    have hG := Lib.hid (show RunG w w8.heap.size g h w.heap.size (w.heap.size + 1) from ⟨by have := hsz.out; have := hz9.out; omega, by have := hsz.out; have := hz9.out; omega, hig.lt, hih.lt, hgh, by have := hig.lt; have := hsz.out; have := hz9.out; omega, by have := hsz.out; have := hz9.out; omega, by have := hig.lt; have := hsz.out; have := hz9.out; omega, by have := hsz.out; have := hz9.out; omega, by have := hsz.out; have := hz9.out; omega⟩)
    have hw8 := Lib.hid (Nat.le_trans hX9.out.size q8'.out.size)
    have hc1' := Lib.hid hc1; have hc2' := Lib.hid hc2; have hd1' := Lib.hid hd1; have hd2' := Lib.hid hd2
    clear hTw' q8' one8 r4 r5 r2 r3 hT9 hX9 hz9 hg0 hh0 hig hih hgh hc1 hc2 hd1 hd2 hsz
    generalize w8.setRow w.heap.size (tkC (.slice (some ⟨g, 0, none⟩) n c) (.slice (some ⟨h, 0, none⟩) n c2)) = w5 at *
    obtain ⟨B5, hB5⟩ : ∃ B5, B5 = w8.heap.size := ⟨_, rfl⟩
    rw [← hB5] at hi0 hG hw8
    clear hB5
    go_wp2
    go_loopw [8, 22] (fun v i wr => ∃ k : Nat, k ≤ m ∧ i = .int .i64 (k : Int) ∧ RunI w B5 g h w.heap.size (w.heap.size + 1) (tkC (.slice (some ⟨g, 0, none⟩) n c) (.slice (some ⟨h, 0, none⟩) n c2)) (tkC nilN nilN) A (runN L A Q k) wr ∧ OwnN B5 3 wr v (didN L A Q k)) (fun _ i _ => m - (intOf i).toNat)
    case atStart => exact ⟨0, Nat.zero_le _, rfl, hi0.out, OwnN.nil _ _ _⟩
    case round =>
      obtain ⟨k, hk, rfl, hI0, ho⟩ := hrel
      have hI := Lib.hid hI0
      have hdl := didN_length L A Q k
      have ho' := Lib.hid ho
      obtain ⟨va, vc, rfl⟩ := ho.slice
      clear hI0 ho
      by_cases hlt : k < m
      · obtain ⟨b, o, rfl, hbw, q1⟩ := rdN_at hQ'.out k (by rw [hm'.out]; exact hlt)
        have d0 := q1 _ hI.out.b
        have hkI : (k : Int) < (m : Int) := by omega
        have hel := hO'.out.el k (by rw [hm'.out]; exact hlt)
        obtain ⟨p, hp⟩ : ∃ p : Nat, ith Q k = (p : Int) := ⟨(ith Q k).toNat, by omega⟩
        have hpk : pk Q k = p := by unfold pk; rw [hp, Int.toNat_natCast]
        have hpn : p < n := by have := hn'.out; omega
        have hst := runN_step L A Q k
        have hy := Lib.hid (fun h => didN_yes (L := L) (A := A) (P := Q) (k := k) h)
        have hno := Lib.hid (fun h => didN_no (L := L) (A := A) (P := Q) (k := k) h)
        rw [hpk] at hst hy hno
        rw [hp] at d0
        have hst' := Lib.hid hst
        have hOk := Lib.hid (runN_ok hO'.out.t k (P := Q))
        have hlk := Lib.hid (show (runN L A Q k).length = n by rw [runN_length, hn'.out])
        have hcan := Lib.hid (fun h : can (runN L A Q k) A p = false => can_false h)
        have q1' := Lib.hid (show ∀ wz, Below w.heap.size w wz → wz.cell? ⟨b, o + k, none⟩ = some (.int .i64 (p : Int)) from fun wz h => by rw [← hp]; exact q1 wz h)
        clear q1 hel hp hpk hst
        generalize hSt : runN L A Q k = St at *
        generalize hDd : didN L A Q k = Dd at *
        have hDl := Lib.hid hdl
        obtain ⟨z, hz⟩ : ∃ z, Dd.length = z := ⟨_, rfl⟩
        have hz' := Lib.hid hz
        rw [hz] at hdl ho' ⊢
        clear hSt hDd hz
        have hAh := Lib.hid (show ∀ wz, Below wr.heap.size wr wz → HeldN g wz (.slice (some ⟨h, 0, none⟩) n c2) A from fun wz hb => by
          have e := heldN_row (hI.out.aft.below hb) hG.out.gh (by rw [nA'.out]; exact hd1'.out) hd2'.out
          rwa [nA'.out] at e)
        have hStp := Lib.hid (show ∀ wz, Below wr.heap.size wr wz → Calls Try.prog 37 #[.agg (tkC (.slice (some ⟨g, 0, none⟩) n c) (.slice (some ⟨h, 0, none⟩) n c2)), .int .i64 (p : Int)] wz fun e w' => e = .returned (.bool (can St A p)) ∧ IRow 3 w' g (stepL St A p) ∧ ElsN g wz w' from fun wz hb => by
          have e := step_any St A g c (.slice (some ⟨h, 0, none⟩) n c2) p wz (hI.out.row.below hb) (hAh.out wz hb) hOk.out (by rw [hlk.out]; exact hpn) (by rw [hlk.out]; exact hc1'.out) hc2'.out
          rwa [hlk.out] at e)
        generalize stepL St A p = Sq at *
        cases hB : can St A p with
        | true =>
          have hN1 := Lib.hid (hy.out hB)
          rw [hB] at hStp
          clear hB hy hno hcan
          go_upto_region 10 with (first
            | (refine wpList_load_row_g rfl 24 _ rfl w.heap.size rfl 24 (tkC (.slice (some ⟨g, 0, none⟩) n c) (.slice (some ⟨h, 0, none⟩) n c2)) (0, 0) _ hI.out.box Try.underlying24 rfl info_tk ?_)
            | (go_at_call 37; (with_reducible refine (hStp.out _ (Below.refl _ _)).mono ?_); rintro e9 w9 ⟨rfl, q9, q10⟩; have hI9 := Lib.hid (hI.out.step hG.out q10 q9); have ho9 := Lib.hid (ho'.out.els q10 hG.out.g5); clear q9 q10))
          have hXb := Lib.hid (below_a w9 (.cells #[.int .i64 (k : Int)] 3))
          have hXr := Lib.hid (rdN_one (c := 1) (heap_alloc_new w9 (.cells #[.int .i64 (k : Int)] 3)) (by decide) (by decide))
          go_wp2_with (refine appendN rfl _ _ 22 rfl B5 3 Try.underlying22 (by kernel_rfl) _ rfl Dd (ho9.out.kept hXb.out) _ rfl [(k : Int)] hXr.out (by have := hDl.out; have := hz'.out; simp; omega) (Nat.le_trans hI9.out.s hXb.out.size) ?_)
          intro v' w6 y1 y2
          have hI6 := Lib.hid ((hI9.out.below hXb.out).app hG.out hw8.out (ho9.out.kept hXb.out) y2)
          have y1' := Lib.hid y1
          clear y1 y2
          refine Stop.go ?_
          go_wp2
          go_roundw
          case rel => exact ⟨k + 1, by omega, by go_num, by rw [hst'.out]; exact hI6.out, by rw [hN1.out]; exact y1'.out⟩
          case measure => simp [intOf]; omega
        | false =>
          have hN1 := Lib.hid (hno.out hB)
          rw [hB] at hStp
          clear hB hy hno
          go_wp2_with (first
            | (refine wpList_load_row_g rfl 24 _ rfl w.heap.size rfl 24 (tkC (.slice (some ⟨g, 0, none⟩) n c) (.slice (some ⟨h, 0, none⟩) n c2)) (0, 0) _ hI.out.box Try.underlying24 rfl info_tk ?_)
            | (go_at_call 37; (with_reducible refine (hStp.out _ (Below.refl _ _)).mono ?_); rintro e9 w9 ⟨rfl, q9, q10⟩; have hI9 := Lib.hid (hI.out.step hG.out q10 q9); have ho9 := Lib.hid (ho'.out.els q10 hG.out.g5); clear q9 q10))
          go_roundw
          case rel => exact ⟨k + 1, by omega, by go_num, by rw [hst'.out]; exact hI9.out, by rw [hN1.out]; exact ho9.out⟩
          case measure => simp [intOf]; omega
      · obtain rfl : k = m := by omega
        have hone := Lib.hid (tk_one (.slice (some ⟨g, 0, none⟩) n c) (.slice (some ⟨h, 0, none⟩) n c2) rfl rfl)
        go_wp2_with (first
          | (refine wpList_load_row_g rfl 24 _ rfl w.heap.size rfl 24 (tkC (.slice (some ⟨g, 0, none⟩) n c) (.slice (some ⟨h, 0, none⟩) n c2)) (0, 0) _ hI.out.box Try.underlying24 rfl info_tk ?_)
          | (refine wpList_store_row rfl 24 _ _ rfl (w.heap.size + 1) (tkC (.slice (some ⟨g, 0, none⟩) n c) (.slice (some ⟨h, 0, none⟩) n c2)) rfl rfl 24 _ hI.out.res info_tk rfl hone.out ?_))
        have hrg : w.heap.size + 1 ≠ g := hG.out.rg
        have hrh : h ≠ w.heap.size + 1 := hG.out.hr
        refine bodyPost_ret (results_row_tmp2 rfl _ _ (w.heap.size + 1) 24 _ _ _ rfl (setRow_heap _ _ _ (tkC (.slice (some ⟨g, 0, none⟩) n c) (.slice (some ⟨h, 0, none⟩) n c2)) _ _ hI.out.res) Try.underlying24 rfl info_tk) rfl ⟨_, _, _, rfl, ?_, ?_, ?_, below_setRow' hI.out.b (by omega) _⟩
        · have e := (hI.out.row.to (setRow_other wr (w.heap.size + 1) g (tkC (.slice (some ⟨g, 0, none⟩) n c) (.slice (some ⟨h, 0, none⟩) n c2)) (fun e => hrg e.symm))).new hG.out.g0 (by rw [runN_length, hn'.out]; exact hc1'.out) hc2'.out
          rwa [runN_length, hn'.out] at e
        · have e := (hI.out.aft.to (setRow_other wr (w.heap.size + 1) h (tkC (.slice (some ⟨g, 0, none⟩) n c) (.slice (some ⟨h, 0, none⟩) n c2)) hrh)).new hG.out.h0 (by rw [nA'.out]; exact hd1'.out) hd2'.out
          rwa [nA'.out] at e
        · exact (ownN_setRow ho'.out hG.out.r5 _).new.mono hw8.out
end Go.Proofs.Ytdebeimognikiaa.con
namespace Go.Proofs.Ytdebeimognikiaa.con
open Go.RowKit Go.Ytdebeimognikiaa
set_option linter.unusedVariables false
theorem pk_drop (P : List Int) (s k : Nat) : pk (P.drop s) k = pk P (s + k) := by unfold pk; rw [ith_drop]
theorem pk_take (P : List Int) (s k : Nat) (h : k < s) : pk (P.take s) k = pk P k := by unfold pk; rw [ith_take _ _ _ h]
theorem run_take (L A P : List Int) (s : Nat) : ∀ k, k ≤ s → runN L A (P.take s) k = runN L A P k := by
  intro k
  induction k with
  | zero => intro _; rfl
  | succ k ih => intro h; rw [runN, runN, ih (by omega), pk_take _ _ _ (by omega)]
theorem run_drop (L A P : List Int) (s : Nat) : ∀ k, runN (runN L A P s) A (P.drop s) k = runN L A P (s + k) := by
  intro k
  induction k with
  | zero => rfl
  | succ k ih => rw [runN, ih, pk_drop]; rfl
theorem did_take (L A P : List Int) (s : Nat) : ∀ k, k ≤ s → didN L A (P.take s) k = didN L A P k := by
  intro k
  induction k with
  | zero => intro _; rfl
  | succ k ih => intro h; rw [didN, didN, ih (by omega), run_take _ _ _ _ _ (by omega), pk_take _ _ _ (by omega)]
theorem did_drop (L A P : List Int) (s : Nat) : ∀ k, didN L A P (s + k) = didN L A P s ++ (didN (runN L A P s) A (P.drop s) k).map (· + (s : Int)) := by
  intro k
  induction k with
  | zero => simp [didN]
  | succ k ih =>
    rw [show s + (k + 1) = (s + k) + 1 from rfl, didN, didN, ih, run_drop, pk_drop]
    split
    · rw [List.map_append, List.append_assoc]
      simp
      omega
    · rfl
/-- Sums. -/
theorem sumI_set (l : List Int) (i : Nat) (x : Int) (hi : i < l.length) : ∀ k, i < k → k ≤ l.length → sumI (l.set i x) k = sumI l k + x - ith l i := by
  have lo : ∀ k, k ≤ i → sumI (l.set i x) k = sumI l k := by
    intro k
    induction k with
    | zero => intro _; rfl
    | succ k ih => intro h; rw [sumI, sumI, ih (by omega), ith_set, if_neg (fun g => by omega)]
  intro k
  induction k with
  | zero => intro h; omega
  | succ k ih =>
    intro h h2
    rw [sumI, sumI]
    rcases Nat.lt_or_ge i k with g | g
    · rw [ih g (by omega), ith_set, if_neg (fun h => by omega)]; omega
    · obtain rfl : i = k := by omega
      rw [lo i (Nat.le_refl _), ith_set, if_pos ⟨rfl, hi⟩]; omega
theorem sum_step {L A : List Int} {i : Nat} (hi : i < L.length) : sumI (stepL L A i) L.length = sumI L L.length - (if can L A i then 1 else 0) := by
  cases e : can L A i with
  | false => rw [can_false e]; simp
  | true => rw [can_true e, sumI_set L i _ hi _ hi (Nat.le_refl _)]; simp; omega
/-- As long as' something is left, a task can. -/
theorem sum_zero {L A : List Int} (h : OkT L A) (hz : ∀ i, i < L.length → can L A i = false) : ∀ i, i < L.length → ith L i = 0 := by
  intro i
  induction i using Nat.strongRecOn with
  | _ i ih =>
    intro hi
    have hc := hz i hi
    have h2 := (h.el i hi).2
    rcases Classical.em (ith L i = 0) with g | g
    · exact g
    · exfalso
      have : can L A i = true := can_iff.2 ⟨g, by
        rcases Int.lt_or_le (ith A i) 0 with h3 | h3
        · exact .inl h3
        · exact .inr (ih (ith A i).toNat (by omega) (by omega))⟩
      rw [this] at hc; cases hc
theorem sum_all_zero {l : List Int} (h : ∀ i, i < l.length → ith l i = 0) : ∀ k, k ≤ l.length → sumI l k = 0 := by
  intro k
  induction k with
  | zero => intro _; rfl
  | succ k ih => intro hk; rw [sumI, ih (by omega), h k (by omega)]; rfl
theorem sum_pos {L A : List Int} (h : OkT L A) {i : Nat} (hi : i < L.length) (hc : can L A i = true) : 0 < sumI L L.length := by
  have a := sum_step (A := A) hi
  rw [hc, if_pos rfl] at a
  have h2 := stepL_ok h i
  have b := (sumI_le (stepL L A i) (fun j hj => (h2.el j hj).1) L.length (by rw [stepL_length]; exact Nat.le_refl _)).1
  omega
end Go.Proofs.Ytdebeimognikiaa.con
namespace Go.Proofs.Ytdebeimognikiaa.con
open Go.RowKit Go.Ytdebeimognikiaa
set_option linter.unusedVariables false
set_option maxHeartbeats 4000000 in
set_option maxRecDepth 100000 in
theorem next_any (L A : List Int) (lv av : Value) (fr : Nat) (w : World) (hL : RdN w lv L) (hA : RdN w av A) (hO : OkT L A) (hf : fr ≤ 1000) :
    Calls Try.prog 38 #[.agg (tkC lv av), .int .i64 (fr : Int)] w fun e w' => e = .returned (.int .i64 (nextF L A L.length fr)) ∧ Below w.heap.size w w' := by
  have h1 := hO.lo
  have h2 := hO.hi
  obtain ⟨la, lc, rfl⟩ := hL.slice
  obtain ⟨n, hn⟩ : ∃ n, L.length = n := ⟨_, rfl⟩
  rw [hn] at hL h1 h2 ⊢
  obtain ⟨W, hW⟩ : ∃ W, W = w.alloc (.cells (tkC (.slice la n lc) av) 24) := ⟨_, rfl⟩
  have hS := Lib.hid (show Below w.heap.size w W by rw [hW]; exact below_a _ _)
  have r0 := Lib.hid (show W.heap[w.heap.size]? = some (.cells (tkC (.slice la n lc) av) 24 (0, 0)) by rw [hW]; exact heap_alloc_new w _)
  have hsz := Lib.hid (show W.heap.size = w.heap.size + 1 by rw [hW]; simp)
  have hX := Lib.hid (Below.refl W.heap.size W)
  have hrow := Lib.hid (fun (wz : World) (h : Below W.heap.size W wz) => rowB r0.out h (Array.getElem?_eq_some_iff.1 r0.out).1)
  have hD := Lib.hid (fun (j : Nat) (hj : j < n) (wz : World) (h : Below W.heap.size W wz) => runnable_any L A (.slice la n lc) av j wz (hL.mono (hS.out.trans (h.mono hS.out.size))) (hA.mono (hS.out.trans (h.mono hS.out.size))) hO (by rw [hn]; exact hj))
  have hno := Lib.hid (fun (h : ∀ k, k < n → can L A ((fr + k) % n) = false) => nextF_no h)
  have hyes := Lib.hid (fun (k : Nat) (hk : k < n) (hc : can L A ((fr + k) % n) = true) (h : ∀ j, j < k → can L A ((fr + j) % n) = false) => nextF_yes hk hc h)
  have c0 : W.cell? ⟨w.heap.size, 0, none⟩ = some (.slice la n lc) := by rw [cell_of_row _ _ _ _ _ _ r0.out]; rfl
  have hnI : ¬ ((n : Int) = 0) := by omega
  clear hL hA hO hn
  generalize nextF L A n fr = R at *
  go_enter Try.func38, Try.ntmps38
  go_upto_region 1 with fail
  rw [← hW]
  clear hW
  go_wp2
  clear c0
  go_loopw [12] (fun i wr => ∃ k : Nat, k ≤ n ∧ i = .int .i64 (k : Int) ∧ Below W.heap.size W wr ∧ ∀ j, j < k → can L A ((fr + j) % n) = false) (fun i _ => n - (intOf i).toNat)
  case atStart => exact ⟨0, Nat.zero_le _, rfl, Below.refl _ _, fun j hj => absurd hj (Nat.not_lt_zero _)⟩
  case round =>
    obtain ⟨k, hk, rfl, hb, he⟩ := hrel
    have he' := Lib.hid he; have hX := Lib.hid hb
    have c0 : wr.cell? ⟨w.heap.size, 0, none⟩ = some (.slice la n lc) := by rw [cell_of_row _ _ _ _ _ _ (hrow.out _ hb)]; rfl
    clear he hb
    by_cases hlt : k < n
    · have hkI : (k : Int) < (n : Int) := by omega
      have hsum : IntKind.i64.wrap ((fr : Int) + (k : Int)) = ((fr + k : Nat) : Int) := by rw [IntWalk.i64_in _ (by omega)]; omega
      have hmod : ((fr : Int) + (k : Int)) % (n : Int) = (((fr + k) % n : Nat) : Int) := by simp
      have hml := Nat.mod_lt (fr + k) (show 0 < n by omega)
      have hDj := Lib.hid (hD.out ((fr + k) % n) hml)
      have hy := Lib.hid (fun h => hyes.out k hlt h he'.out)
      have hn2 := Lib.hid (fun h : can L A ((fr + k) % n) = false => (show ∀ j, j < k + 1 → can L A ((fr + j) % n) = false from fun j hj => by
        rcases Nat.lt_or_ge j k with g | g
        · exact he'.out j g
        · obtain rfl : j = k := by omega
          exact h))
      clear hyes
      generalize can L A ((fr + k) % n) = B at *
      generalize hM : (fr + k) % n = M at *
      clear hM
      cases B with
      | true =>
        go_wp2_with (first
            | (refine wpList_load_row_g rfl 24 _ rfl w.heap.size rfl 24 (tkC (.slice la n lc) av) (0, 0) _ (hrow.out _ hX.out) Try.underlying24 rfl info_tk ?_)
            | (go_at_call 34; (with_reducible refine (hDj.out _ hX.out).mono ?_); rintro e9 w9 ⟨rfl, q9⟩; replace hX := Lib.hid (hX.out.trans (Below.mono q9 hX.out.size)); clear q9))
        go_ret
        exact ⟨ret_int (hy.out (by first | rfl | trivial)).symm, hS.out.trans (hX.out.mono hS.out.size)⟩
      | false =>
        go_wp2_with (first
            | (refine wpList_load_row_g rfl 24 _ rfl w.heap.size rfl 24 (tkC (.slice la n lc) av) (0, 0) _ (hrow.out _ hX.out) Try.underlying24 rfl info_tk ?_)
            | (go_at_call 34; (with_reducible refine (hDj.out _ hX.out).mono ?_); rintro e9 w9 ⟨rfl, q9⟩; replace hX := Lib.hid (hX.out.trans (Below.mono q9 hX.out.size)); clear q9))
        go_roundw
        case rel => exact ⟨k + 1, by omega, by go_num, hX.out, hn2.out (by first | rfl | trivial)⟩
        case measure => simp [intOf]; omega
    · obtain rfl : k = n := by omega
      have hR := Lib.hid (hno.out he'.out)
      go_wp2
      go_ret
      exact ⟨ret_int hR.out.symm, hS.out.trans (hX.out.mono hS.out.size)⟩
end Go.Proofs.Ytdebeimognikiaa.con
namespace Go.Proofs.Ytdebeimognikiaa.con
open Go.RowKit Go.Ytdebeimognikiaa
set_option linter.unusedVariables false
def rndE (L A : List Int) (x : Int) : Int := if okT L A then (if x < 0 ∨ 300 < x then 2 else 0) else 8
def rndR (L A : List Int) (x : Int) : List Int := if okT L A then (if x < 0 ∨ 300 < x then [] else (rnd L A L.length x.toNat).out) else []
theorem rnd_bad {L A : List Int} (h : ¬ OkT L A) (x : Int) : rndE L A x = 8 ∧ rndR L A x = [] ∧ chkT L A = 8 := by unfold rndE rndR; rw [okT_no h]; exact ⟨rfl, rfl, chkT_no h⟩
theorem rnd_arg {L A : List Int} (h : OkT L A) {x : Int} (hx : x < 0 ∨ 300 < x) : rndE L A x = 2 ∧ rndR L A x = [] := by unfold rndE rndR; rw [okT_iff.2 h, if_pos rfl, if_pos rfl, if_pos hx, if_pos hx]; exact ⟨rfl, rfl⟩
theorem rnd_fine {L A : List Int} (h : OkT L A) {N : Nat} (hx : N ≤ 300) : rndE L A (N : Int) = 0 ∧ rndR L A (N : Int) = (rnd L A L.length N).out := by
  unfold rndE rndR; rw [okT_iff.2 h, if_pos rfl, if_pos rfl, if_neg (by omega), if_neg (by omega), Int.toNat_natCast]; exact ⟨rfl, rfl⟩
theorem next_or (L A : List Int) (n fr : Nat) (hn : 0 < n) : nextF L A n fr = -1 ∨ ∃ i : Nat, nextF L A n fr = (i : Int) ∧ i < n ∧ can L A i = true := by
  rcases nextF_cases L A n fr with ⟨h, _⟩ | ⟨k, hk, h, hc, _⟩
  · exact .inl h
  · exact .inr ⟨_, h, Nat.mod_lt _ hn, hc⟩
theorem rnd_all {L A : List Int} {n k N : Nat} (h : nextF (rnd L A n k).L A n (rnd L A n k).fr = -1) (hk : k ≤ N) : rnd L A n N = rnd L A n k := by
  have := rnd_stop (L := L) (A := A) (n := n) (k := k) (by rw [h]; omega) (N - k)
  rwa [show k + (N - k) = N by omega] at this
set_option maxHeartbeats 4000000 in
set_option maxRecDepth 100000 in
theorem sRounds_any (L A : List Int) (lv av : Value) (x : Int) (w : World) (hL : RdN w lv L) (hA : RdN w av A) :
    Calls Try.prog 23 #[.agg (tkC lv av), .int .i64 x] w fun e w' => ∃ v, e = .returned (.tuple #[v, .int .i64 (rndE L A x)]) ∧ NewN w.heap.size w' v (rndR L A x) ∧ Below w.heap.size w w' := by
  obtain ⟨W, hW⟩ : ∃ W, W = w.alloc (.cells (tkC lv av) 24) := ⟨_, rfl⟩
  have hS := Lib.hid (show Below w.heap.size w W by rw [hW]; exact below_a _ _)
  have r0 := Lib.hid (show W.heap[w.heap.size]? = some (.cells (tkC lv av) 24 (0, 0)) by rw [hW]; exact heap_alloc_new w _)
  have hsz := Lib.hid (show W.heap.size = w.heap.size + 1 by rw [hW]; simp)
  have hX := Lib.hid (Below.refl W.heap.size W)
  have hrow := Lib.hid (fun (wz : World) (h : Below W.heap.size W wz) => rowB r0.out h (Array.getElem?_eq_some_iff.1 r0.out).1)
  have hC0 := Lib.hid (fun (wz : World) (h : Below W.heap.size W wz) => sCheck_any L A lv av wz (hL.mono (hS.out.trans (h.mono hS.out.size))) (hA.mono (hS.out.trans (h.mono hS.out.size))))
  have hT0 := Lib.hid (fun (wz : World) (h : Below W.heap.size W wz) (h1 : L.length ≤ 1000) (h2 : A.length ≤ 1000) => copied_any L A lv av wz (hL.mono (hS.out.trans (h.mono hS.out.size))) (hA.mono (hS.out.trans (h.mono hS.out.size))) h1 h2)
  clear hL hA
  rcases Classical.em (OkT L A) with hO | hO
  case inr =>
    obtain ⟨e1, e2, e3⟩ := rnd_bad hO x
    rw [e3] at hC0
    rw [e1, e2]
    have hC := hC0
    clear hC0 hO hT0 e1 e2 e3
    go_enter Try.func23, Try.ntmps23
    go_upto_region 1 with fail
    rw [← hW]
    clear hW
    go_wp2_with (first
        | (refine wpList_load_row_g rfl 24 _ rfl w.heap.size rfl 24 (tkC lv av) (0, 0) _ (hrow.out _ hX.out) Try.underlying24 rfl info_tk ?_)
        | (go_at_call 21; (with_reducible refine (hC.out _ hX.out).mono ?_); rintro e9 w9 ⟨rfl, q9⟩; replace hX := Lib.hid (hX.out.trans (Below.mono q9 hX.out.size)); clear q9))
    go_ret2
    exact ⟨_, rfl, NewN.nil _ _, hS.out.trans (hX.out.mono hS.out.size)⟩
  case inl =>
    have e3 := chkT_ok hO
    rw [e3] at hC0
    clear e3
    have hC := hC0
    have hbad := Lib.hid (fun hx => rnd_arg hO (x := x) hx)
    have hO' := Lib.hid hO
    have n12 := hO.hi
    have n1 := hO.lo
    have nA := hO.na
    have hT := Lib.hid (fun wz h => hT0.out wz h (by omega) (by omega))
    clear hC0 hT0 hO
    by_cases g1 : x < 0
    · obtain ⟨e1, e2⟩ := hbad.out (.inl g1)
      rw [e1, e2]
      clear e1 e2 hbad nA hO' 
      go_enter Try.func23, Try.ntmps23
      go_upto_region 1 with fail
      rw [← hW]
      clear hW
      go_wp2_with (first
          | (refine wpList_load_row_g rfl 24 _ rfl w.heap.size rfl 24 (tkC lv av) (0, 0) _ (hrow.out _ hX.out) Try.underlying24 rfl info_tk ?_)
          | (go_at_call 21; (with_reducible refine (hC.out _ hX.out).mono ?_); rintro e9 w9 ⟨rfl, q9⟩; replace hX := Lib.hid (hX.out.trans (Below.mono q9 hX.out.size)); clear q9))
      go_ret2
      exact ⟨_, rfl, NewN.nil _ _, hS.out.trans (hX.out.mono hS.out.size)⟩
    by_cases g2 : 300 < x
    · obtain ⟨e1, e2⟩ := hbad.out (.inr g2)
      rw [e1, e2]
      clear e1 e2 hbad nA hO'
      have g1' : decide (x < 0) = false := decide_eq_false g1
      go_enter Try.func23, Try.ntmps23
      go_upto_region 1 with fail
      rw [← hW]
      clear hW
      go_wp2_with (first
          | (refine wpList_load_row_g rfl 24 _ rfl w.heap.size rfl 24 (tkC lv av) (0, 0) _ (hrow.out _ hX.out) Try.underlying24 rfl info_tk ?_)
          | (go_at_call 21; (with_reducible refine (hC.out _ hX.out).mono ?_); rintro e9 w9 ⟨rfl, q9⟩; replace hX := Lib.hid (hX.out.trans (Below.mono q9 hX.out.size)); clear q9))
      go_ret2
      exact ⟨_, rfl, NewN.nil _ _, hS.out.trans (hX.out.mono hS.out.size)⟩
    obtain ⟨N, rfl⟩ : ∃ N : Nat, x = (N : Int) := ⟨x.toNat, by omega⟩
    obtain ⟨e1, e2⟩ := rnd_fine hO'.out (N := N) (by omega)
    rw [e1, e2]
    obtain ⟨n, hn⟩ : ∃ n, L.length = n := ⟨_, rfl⟩
    have hn' := Lib.hid hn
    rw [hn] at n12 n1 nA ⊢
    have nA' := Lib.hid nA
    have g1' : decide ((N : Int) < 0) = false := decide_eq_false g1
    have g2' : decide ((300 : Int) < (N : Int)) = false := decide_eq_false g2
    clear e1 e2 hbad hn
    go_enter Try.func23, Try.ntmps23
    go_upto_region 1 with fail
    rw [← hW]
    clear hW
    go_upto_region 6 with (first
        | (refine wpList_load_row_g rfl 24 _ rfl w.heap.size rfl 24 (tkC lv av) (0, 0) _ (hrow.out _ hX.out) Try.underlying24 rfl info_tk ?_)
        | (go_at_call 21; (with_reducible refine (hC.out _ hX.out).mono ?_); rintro e9 w9 ⟨rfl, q9⟩; replace hX := Lib.hid (hX.out.trans (Below.mono q9 hX.out.size)); clear q9))
    have r2 := Lib.hid (hrow.out _ hX.out)
    have hT9 := Lib.hid (hT.out _ hX.out)
    have hX9 := Lib.hid (hS.out.trans (hX.out.mono hS.out.size)); have hz9 := Lib.hid hX.out.size
    clear hX hrow hT hC r0 g1' g2'

    go_upto_region 7 with (first
      | (refine wpList_load_row_g rfl 24 _ rfl w.heap.size rfl 24 (tkC lv av) (0, 0) _ r2.out Try.underlying24 rfl info_tk ?_)
      | (go_at_call 33; (with_reducible refine hT9.out.mono ?_); rintro e8 w8 ⟨xv, yv, rfl, hTw, q8⟩; have hTw' := Lib.hid hTw; have q8' := Lib.hid q8; have one8 := Lib.hid (tk_one xv yv (own_one hTw.x) (own_one hTw.y)); have r4 := Lib.hid (rowK r2.out q8); clear hTw q8)
      | (refine wpList_store_row rfl 24 _ _ rfl w.heap.size (tkC xv yv) rfl rfl 24 _ r4.out info_tk rfl one8.out ?_))
    obtain ⟨g, c, rfl, hg0, hc1, hc2, hig⟩ := (hTw'.out.x.mono (Nat.le_refl _)).row (by rw [hn'.out]; omega)
    obtain ⟨h, c2, rfl, hh0, hd1, hd2, hih⟩ := (hTw'.out.y.mono (Nat.le_refl _)).row (by rw [nA'.out]; omega)
    have hgh : h ≠ g := fun e => hTw'.out.ne g rfl (by rw [← e]; rfl)
    rw [hn'.out] at hc1 ⊢
    rw [nA'.out] at hd1 ⊢
    have hi0 := Lib.hid (show RunI w w8.heap.size g h w.heap.size w.heap.size (tkC (.slice (some ⟨g, 0, none⟩) n c) (.slice (some ⟨h, 0, none⟩) n c2)) (tkC (.slice (some ⟨g, 0, none⟩) n c) (.slice (some ⟨h, 0, none⟩) n c2)) A (rnd L A n 0).L (w8.setRow w.heap.size (tkC (.slice (some ⟨g, 0, none⟩) n c) (.slice (some ⟨h, 0, none⟩) n c2))) from
      ⟨below_setRow' (hX9.out.trans (q8'.out.mono hX9.out.size)) (Nat.le_refl _) _, by rw [size_setRow]; exact Nat.le_refl _, hig.to (setRow_other _ _ _ _ (by have := hsz.out; have := hz9.out; omega)), hih.to (setRow_other _ _ _ _ (by have := hsz.out; have := hz9.out; omega)), setRow_heap _ _ _ _ _ _ r4.out, setRow_heap _ _ _ _ _ _ r4.out⟩)
    have hG := Lib.hid (show RunG w w8.heap.size g h w.heap.size w.heap.size from ⟨by have := hsz.out; have := hz9.out; omega, by have := hsz.out; have := hz9.out; omega, hig.lt, hih.lt, hgh, by have := hig.lt; have := hsz.out; have := hz9.out; omega, by have := hsz.out; have := hz9.out; omega, by have := hig.lt; have := hsz.out; have := hz9.out; omega, by have := hsz.out; have := hz9.out; omega, by have := hsz.out; have := hz9.out; omega⟩)
    have hw8 := Lib.hid (Nat.le_trans hX9.out.size q8'.out.size)
    have hc1' := Lib.hid hc1; have hc2' := Lib.hid hc2; have hd1' := Lib.hid hd1; have hd2' := Lib.hid hd2
    clear hTw' q8' one8 r4 r2 hT9 hX9 hz9 hg0 hh0 hig hih hgh hc1 hc2 hd1 hd2 hsz nA
    generalize w8.setRow w.heap.size (tkC (.slice (some ⟨g, 0, none⟩) n c) (.slice (some ⟨h, 0, none⟩) n c2)) = w5 at *
    obtain ⟨B5, hB5⟩ : ∃ B5, B5 = w8.heap.size := ⟨_, rfl⟩
    rw [← hB5] at hi0 hG hw8
    clear hB5
    go_wp2
    go_loopw [7, 8, 24] (fun v f i wr => ∃ k : Nat, k ≤ N ∧ i = .int .i64 (k : Int) ∧ f = .int .i64 ((rnd L A n k).fr : Int) ∧ RunI w B5 g h w.heap.size w.heap.size (tkC (.slice (some ⟨g, 0, none⟩) n c) (.slice (some ⟨h, 0, none⟩) n c2)) (tkC (.slice (some ⟨g, 0, none⟩) n c) (.slice (some ⟨h, 0, none⟩) n c2)) A (rnd L A n k).L wr ∧ OwnN B5 3 wr v (rnd L A n k).out) (fun _ _ i _ => N - (intOf i).toNat)
    case atStart => exact ⟨0, Nat.zero_le _, rfl, rfl, hi0.out, OwnN.nil _ _ _⟩
    case round =>
      obtain ⟨k, hk, rfl, rfl, hI0, ho⟩ := hrel
      have hI := Lib.hid hI0
      have hdl := rnd_out_length L A n k
      have ho' := Lib.hid ho
      have hfr := rnd_fr L A n k (by omega)
      obtain ⟨va, vc, rfl⟩ := ho.slice
      clear hI0 ho
      have hDl := Lib.hid (show (rnd L A n k).out.length ≤ 300 by omega)
      have hOk := Lib.hid (rnd_ok hO'.out n k)
      have hlk := Lib.hid (show (rnd L A n k).L.length = n by rw [rnd_length, hn'.out])
      have hgo := Lib.hid (fun i h => rnd_go (L := L) (A := A) (n := n) (k := k) (i := i) h)
      have hend := Lib.hid (fun h => rnd_all (L := L) (A := A) (n := n) (k := k) (N := N) h hk)
      have hor := next_or (rnd L A n k).L A n (rnd L A n k).fr (by omega)
      have hsame := Lib.hid (fun h : k = N => (show rnd L A n N = rnd L A n k by rw [h]))
      generalize hRk : rnd L A n k = Rk at *
      obtain ⟨St, fr, Dd⟩ := Rk
      dsimp only at hI hdl hDl ho' hfr hOk hlk hgo hend hor hsame ⊢
      clear hRk
      obtain ⟨z, hz⟩ : ∃ z, Dd.length = z := ⟨_, rfl⟩
      have hz' := Lib.hid hz
      rw [hz] at hdl ho' ⊢
      clear hz
      have hAh := Lib.hid (show ∀ wz, Below wr.heap.size wr wz → HeldN g wz (.slice (some ⟨h, 0, none⟩) n c2) A from fun wz hb => by
        have e := heldN_row (hI.out.aft.below hb) hG.out.gh (by rw [nA'.out]; exact hd1'.out) hd2'.out
        rwa [nA'.out] at e)
      by_cases hlt : k < N
      · have hkI : (k : Int) < (N : Int) := by omega
        have hNx := Lib.hid (show Calls Try.prog 38 #[.agg (tkC (.slice (some ⟨g, 0, none⟩) n c) (.slice (some ⟨h, 0, none⟩) n c2)), .int .i64 (fr : Int)] wr fun e w' => e = .returned (.int .i64 (nextF St A n fr)) ∧ Below wr.heap.size wr w' from by
          have e := hI.out.row.rd2 (by rw [hlk.out]; exact hc1'.out) hc2'.out
          rw [hlk.out] at e
          have e2 := next_any St A (.slice (some ⟨g, 0, none⟩) n c) (.slice (some ⟨h, 0, none⟩) n c2) fr wr e (hAh.out wr (Below.refl _ _)).now hOk.out (by omega)
          rwa [hlk.out] at e2)
        generalize nextF St A n fr = y at *
        rcases hor with rfl | ⟨i, rfl, hin, hci⟩
        · have hE := Lib.hid (hend.out rfl)
          go_wp2_with (first
            | (refine wpList_load_row_g rfl 24 _ rfl w.heap.size rfl 24 (tkC (.slice (some ⟨g, 0, none⟩) n c) (.slice (some ⟨h, 0, none⟩) n c2)) (0, 0) _ hI.out.box Try.underlying24 rfl info_tk ?_)
            | (go_at_call 38; (with_reducible refine hNx.out.mono ?_); rintro e9 w9 ⟨rfl, q9⟩; have hI9 := Lib.hid (hI.out.below q9); have ho9 := Lib.hid (ho'.out.kept q9); clear q9))
          go_ret2
          exact ⟨_, rfl, by rw [hE.out]; exact ho9.out.new.mono hw8.out, hI9.out.b⟩
        · have hR1 := Lib.hid (hgo.out i rfl)
          have hStp := Lib.hid (show ∀ wz, Below wr.heap.size wr wz → Calls Try.prog 37 #[.agg (tkC (.slice (some ⟨g, 0, none⟩) n c) (.slice (some ⟨h, 0, none⟩) n c2)), .int .i64 (i : Int)] wz fun e w' => e = .returned (.bool true) ∧ IRow 3 w' g (stepL St A i) ∧ ElsN g wz w' from fun wz hb => by
            have e := step_any St A g c (.slice (some ⟨h, 0, none⟩) n c2) i wz (hI.out.row.below hb) (hAh.out wz hb) hOk.out (by rw [hlk.out]; exact hin) (by rw [hlk.out]; exact hc1'.out) hc2'.out
            rw [hlk.out, hci] at e
            exact e)
          have hiI : ¬ ((i : Int) < 0) := by omega
          clear hci hgo hend
          go_upto_region 14 with (first
            | (refine wpList_load_row_g rfl 24 _ rfl w.heap.size rfl 24 (tkC (.slice (some ⟨g, 0, none⟩) n c) (.slice (some ⟨h, 0, none⟩) n c2)) (0, 0) _ hI.out.box Try.underlying24 rfl info_tk ?_)
            | (go_at_call 38; (with_reducible refine hNx.out.mono ?_); rintro e9 w9 ⟨rfl, q9⟩; have q9' := Lib.hid q9; have hI9 := Lib.hid (hI.out.below q9); have ho9 := Lib.hid (ho'.out.kept q9); clear q9)
            | (refine wpList_load_row_g rfl 24 _ rfl w.heap.size rfl 24 (tkC (.slice (some ⟨g, 0, none⟩) n c) (.slice (some ⟨h, 0, none⟩) n c2)) (0, 0) _ hI9.out.box Try.underlying24 rfl info_tk ?_)
            | (go_at_call 37; (with_reducible refine (hStp.out _ q9'.out).mono ?_); rintro e8 w6 ⟨rfl, q9, q10⟩; have hI6 := Lib.hid (hI9.out.step hG.out q10 q9); have ho6 := Lib.hid (ho9.out.els q10 hG.out.g5); clear q9 q10))
          have hXb := Lib.hid (below_a w6 (.cells #[.int .i64 (i : Int)] 3))
          have hXr := Lib.hid (rdN_one (c := 1) (heap_alloc_new w6 (.cells #[.int .i64 (i : Int)] 3)) (by decide) (by decide))
          go_wp2_with (refine appendN rfl _ _ 22 rfl B5 3 Try.underlying22 (by kernel_rfl) _ rfl Dd (ho6.out.kept hXb.out) _ rfl [(i : Int)] hXr.out (by have := hDl.out; simp; omega) (Nat.le_trans hI6.out.s hXb.out.size) ?_)
          intro v' w7 y1 y2
          have hI7 := Lib.hid ((hI6.out.below hXb.out).app hG.out hw8.out (ho6.out.kept hXb.out) y2)
          have y1' := Lib.hid y1
          obtain ⟨va', vc', hv'⟩ := y1.slice
          clear y1 y2
          refine Stop.go ?_
          have hiw : IntKind.i64.wrap ((i : Int) + 1) = ((i + 1 : Nat) : Int) := by rw [IntWalk.i64_in _ (by omega)]; omega
          go_wp2
          go_roundw
          case rel => exact ⟨k + 1, by omega, by go_num, by rw [hR1.out]; (first | rfl | (simp; done) | (dsimp only; go_num)), by rw [hR1.out]; exact hI7.out, by rw [hR1.out]; exact y1'.out⟩
          case measure => simp [intOf]; omega
      · obtain rfl : k = N := by omega
        go_wp2
        go_ret2
        exact ⟨_, rfl, by rw [hsame.out (by first | rfl | trivial)]; exact ho'.out.new.mono hw8.out, hI.out.b⟩
end Go.Proofs.Ytdebeimognikiaa.con

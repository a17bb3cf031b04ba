/- Texts that the row stands on, part 10. -/
import Derived.Test.YtlbgffhipondiaaGreatDoorRClosedGq09
namespace Go.Proofs.YtlbgffhipondiaaGreatDoor.wir.val
open Go.RowKit Go.YtlbgffhipondiaaGreatDoor
set_option linter.unusedVariables false
/-- What this slice has doesn't lie in the block r. -/
def OffB (r : Option Nat) (v : Value) : Prop := ∀ b o n c, v = .slice (some ⟨b, o, none⟩) n c → 0 < n → some b ≠ r
theorem rdI_grown {w w' : World} {r : Option Nat} {v : Value} {n : Nat} {F : List Int} (h : RdI w v n F) (ho : OffB r v) (hg : w.grownBy w' r) : RdI w' v n F := by
  rcases h with h | ⟨b, o, c, rfl, h1, h2, h3, h4, h5⟩
  · exact .inl h
  · refine .inr ⟨b, o, c, rfl, h1, h2, Nat.lt_of_lt_of_le h3 hg.size, h4, fun i hi => ?_⟩
    exact hg.cell (h5 i hi) (ho b o n c rfl (by omega))
theorem offB_own {B : Nat} {E : TypeId} {w : World} {v : Value} {n : Nat} {F : List Int} {r : Option Nat} (h : OwnI B E w v n F) (hr : ∀ k, r = some k → k < B) : OffB r v := by
  intro b o m c e _ e2
  rcases h.2 with ⟨rfl, _⟩ | ⟨g, cap, cur, rfl, hb, _⟩
  · cases e
  · cases e; have := hr _ e2.symm; omega
theorem offB_new {w : World} {v : Value} {n : Nat} {F : List Int} {r r' : Option Nat} (h : RdI w v n F) (ho : OffB r v) (hr : r' = r ∨ ∃ k, r' = some k ∧ w.heap.size ≤ k) : OffB r' v := by
  rcases hr with rfl | ⟨k, rfl, hk⟩
  · exact ho
  · intro b o m c e hm e2
    rcases h with ⟨a, c', e3, _⟩ | ⟨b', o', c', e3, _, _, h3, _⟩
    · rw [e] at e3; cases e3; omega
    · rw [e] at e3; cases e3; cases e2; omega
/-- What this slice has lies in a row of ids, not below B. -/
def TyI (B : Nat) (w : World) (v : Value) : Prop := ∀ b o n c, v = .slice (some ⟨b, o, none⟩) n c → 0 < n → B ≤ b ∧ ∃ cs fr, w.heap[b]? = some (.cells cs 24 fr)
theorem tyI_own {B C : Nat} {w : World} {v : Value} {n : Nat} {F : List Int} (h : OwnI B 24 w v n F) (hC : C ≤ B) : TyI C w v := by
  intro b o m c e _
  rcases h.2 with ⟨rfl, _⟩ | ⟨g, cap, cur, rfl, hb, hg, _⟩
  · cases e
  · cases e; exact ⟨Nat.le_trans hC hb, _, _, hg⟩
theorem tyI_mono {B : Nat} {w w' : World} {v : Value} (h : TyI B w v) (hb : Below w.heap.size w w') : TyI B w' v := fun b o n c e hn => by
  obtain ⟨h0, cs, fr, h1⟩ := h b o n c e hn
  exact ⟨h0, cs, fr, (hb.block b (Array.getElem?_eq_some_iff.1 h1).1).trans h1⟩
theorem tyI_grown {B : Nat} {w w' : World} {r : Option Nat} {v : Value} (h : TyI B w v) (ho : OffB r v) (hg : w.grownBy w' r) : TyI B w' v := fun b o n c e hn => by
  obtain ⟨h0, cs, fr, h1⟩ := h b o n c e hn
  exact ⟨h0, cs, fr, (hg.block b (Array.getElem?_eq_some_iff.1 h1).1 (ho b o n c e hn)).trans h1⟩
theorem offB_ty {B C m : Nat} {w : World} {v ov : Value} {xs : List Value} (h : TyI C w v) (hO : w.ownsRow B 35 11 ov m xs) : OffB ov.ownBlock v := by
  intro b o n c e hn e2
  obtain ⟨_, cs, fr, h1⟩ := h b o n c e hn
  rcases hO.2 with ⟨rfl, _⟩ | ⟨k, cap, cur, rfl, _, hk, _⟩
  · cases e2
  · have e3 : b = k := by simpa [Value.ownBlock] using e2
    subst e3
    rw [h1] at hk
    injection hk with hk
    injection hk with _ h2 _
    exact absurd h2 (by decide)
/-- A row of operations of one's own; none of their predecessors lies in the block r. -/
def OwnP (B : Nat) (r : Option Nat) (w : World) (v : Value) (L : List Od) : Prop :=
  ∃ xs : List Value, w.ownsRow B 35 11 v L.length xs ∧ (∀ u ∈ xs, u.oneCell' = true) ∧ ∀ i, i < L.length → ∃ pv, (xs.drop (i * 11)).take 11 = ((nthO L i).c pv).toList ∧ RdI w pv (nthO L i).n (nthO L i).F ∧ OffB r pv ∧ TyI B w pv
theorem OwnP.nil (B : Nat) (r : Option Nat) (w : World) : OwnP B r w (.slice none 0 0) [] := ⟨[], World.ownsRow_nil w B _ 11, fun u hu => (by cases hu), fun i hi => absurd hi (Nat.not_lt_zero _)⟩
theorem OwnP.rd {B : Nat} {r : Option Nat} {w : World} {v : Value} {L : List Od} (h : OwnP B r w v L) : RdO w v L := by
  obtain ⟨xs, h1, _, h3⟩ := h
  rcases h1.2 with ⟨rfl, h0⟩ | ⟨g, cap, cur, rfl, hb, hg, hn, hm, hs, ht⟩
  · exact .inl ⟨none, 0, rfl, fun _ => rfl, List.eq_nil_of_length_eq_zero h0⟩
  · refine .inr ⟨g, 0, cap, rfl, hn, hm, (Array.getElem?_eq_some_iff.1 hg).1, fun i hi => ?_⟩
    obtain ⟨pv, e1, e2, _, _⟩ := h3 i hi
    refine ⟨pv, fun j x hx => ?_, e2⟩
    rw [← e1] at hx
    rw [List.getElem?_take] at hx
    split at hx
    · rw [List.getElem?_drop, ← ht, List.getElem?_take] at hx
      split at hx
      · rw [cell_of_row _ _ _ _ _ _ hg, Nat.zero_add]
        simpa using hx
      · cases hx
    · cases hx
theorem OwnP.kept {B : Nat} {r : Option Nat} {w w' : World} {v : Value} {L : List Od} (h : OwnP B r w v L) (hb : Below w.heap.size w w') : OwnP B r w' v L := by
  obtain ⟨xs, h1, h2, h3⟩ := h
  refine ⟨xs, ?_, h2, fun i hi => ?_⟩
  · refine ⟨h1.1, ?_⟩
    rcases h1.2 with hn | ⟨g, cap, cur, rfl, hbg, hg, rest⟩
    · exact .inl hn
    · exact .inr ⟨g, cap, cur, rfl, hbg, (hb.block g (Array.getElem?_eq_some_iff.1 hg).1).trans hg, rest⟩
  · obtain ⟨pv, e1, e2, e3⟩ := h3 i hi
    exact ⟨pv, e1, e2.mono hb, e3.1, tyI_mono e3.2 hb⟩
theorem ownNeT {w : World} {B B' : Nat} {e e' : TypeId} {z z' n n' : Nat} {v v' : Value} {xs xs' : List Value} (h : w.ownsRow B e z v n xs) (h' : w.ownsRow B' e' z' v' n' xs') (hne : e ≠ e') : v.ownBlock = none ∨ v.ownBlock ≠ v'.ownBlock := by
  rcases h.2 with ⟨rfl, _⟩ | ⟨g, cap, cur, rfl, _, hg, _⟩
  · exact .inl rfl
  · refine .inr fun heq => ?_
    rcases h'.2 with ⟨rfl, _⟩ | ⟨g', cap', cur', rfl, _, hg', _⟩
    · cases heq
    · have e2 : g = g' := by simpa [Value.ownBlock] using heq
      subst e2
      rw [hg] at hg'
      injection hg' with hg'
      injection hg' with _ h2 _
      exact hne h2
theorem own_row_ne {w : World} {B z n g : Nat} {e T : TypeId} {v : Value} {xs : List Value} {cs : Array Value} (h : w.ownsRow B e z v n xs) (hg : w.heap[g]? = some (.cells cs T (0, 0))) (hT : T ≠ e) : some g ≠ v.ownBlock := by
  rcases h.2 with ⟨rfl, _⟩ | ⟨k, cap, cur, rfl, _, hk, _⟩
  · intro e; cases e
  · intro e2
    have e3 : g = k := by simpa [Value.ownBlock] using e2
    subst e3
    rw [hg] at hk
    injection hk with hk
    injection hk with _ h2 _
    exact hT h2
/-- The ids' block has changed. -/
theorem OwnP.ids {B B' n : Nat} {w w' : World} {iv v : Value} {xs : List Value} {L : List Od} {r' : Option Nat} (h : OwnP B iv.ownBlock w v L) (hI : w.ownsRow B' 24 32 iv n xs) (hg : w.grownBy w' iv.ownBlock) (hr : r' = iv.ownBlock ∨ ∃ k, r' = some k ∧ w.heap.size ≤ k) : OwnP B r' w' v L := by
  obtain ⟨ys, h1, h2, h3⟩ := h
  refine ⟨ys, h1.kept hg (ownNeT h1 hI (by decide)), h2, fun i hi => ?_⟩
  obtain ⟨pv, e1, e2, e3⟩ := h3 i hi
  exact ⟨pv, e1, rdI_grown e2 e3.1 hg, offB_new e2 e3.1 hr, tyI_grown e3.2 e3.1 hg⟩
def insF (F : List Int) (p : Nat) (x : List Int) : List Int := F.take (p * 32) ++ (x ++ F.drop (p * 32))
def insL (L : List Od) (p : Nat) (o : Od) : List Od := L.take p ++ o :: L.drop p
theorem insL_length (L : List Od) (p : Nat) (o : Od) (hp : p ≤ L.length) : (insL L p o).length = L.length + 1 := by simp [insL]; omega
theorem insL_at (L : List Od) (p : Nat) (o : Od) (hp : p ≤ L.length) (i : Nat) : nthO (insL L p o) i = if i < p then nthO L i else if i = p then o else nthO L (i - 1) := by
  unfold nthO insL
  by_cases h1 : i < p
  · rw [if_pos h1, List.getElem?_append_left (by rw [List.length_take]; omega), List.getElem?_take, if_pos h1]
  · rw [if_neg h1, List.getElem?_append_right (by rw [List.length_take]; omega), List.length_take, show min p L.length = p by omega]
    by_cases h2 : i = p
    · subst h2; simp
    · rw [if_neg h2, show i - p = (i - 1 - p) + 1 by omega, List.getElem?_cons_succ, List.getElem?_drop, show p + (i - 1 - p) = i - 1 by omega]
/-- The row after an operation was put in. -/
theorem ownP_ins {B : Nat} {r : Option Nat} {w' : World} {v' qv : Value} {L : List Od} {o : Od} {p : Nat} {xs : List Value} (h2 : ∀ u ∈ xs, u.oneCell' = true) (hl : xs.length = L.length * 11)
    (h3 : ∀ i, i < L.length → ∃ pv, (xs.drop (i * 11)).take 11 = ((nthO L i).c pv).toList ∧ RdI w' pv (nthO L i).n (nthO L i).F ∧ OffB r pv ∧ TyI B w' pv) (hp : p ≤ L.length)
    (ho : w'.ownsRow B 35 11 v' (L.length + 1) (xs.take (p * 11) ++ ((o.c qv).toList ++ xs.drop (p * 11)))) (hq : RdI w' qv o.n o.F) (hoff : OffB r qv) (hty : TyI B w' qv) (hq1 : ∀ u ∈ (o.c qv).toList, u.oneCell' = true) : OwnP B r w' v' (insL L p o) := by
  have l1 : (xs.take (p * 11)).length = p * 11 := by rw [List.length_take]; omega
  have l2 : (o.c qv).toList.length = 11 := rfl
  refine ⟨_, by rw [insL_length _ _ _ hp]; exact ho, fun u hu => ?_, fun i hi => ?_⟩
  · rcases List.mem_append.1 hu with h | h
    · exact h2 u (List.mem_of_mem_take h)
    · rcases List.mem_append.1 h with h | h
      · exact hq1 u h
      · exact h2 u (List.mem_of_mem_drop h)
  · rw [insL_length _ _ _ hp] at hi
    rw [insL_at _ _ _ hp]
    by_cases c1 : i < p
    · rw [if_pos c1]
      obtain ⟨pv, e1, e2, e3⟩ := h3 i (by omega)
      refine ⟨pv, ?_, e2, e3⟩
      rw [← e1, List.drop_append_of_le_length (by rw [l1]; omega), List.take_append_of_le_length (by rw [List.length_drop, l1]; omega), List.drop_take, List.take_take, show min 11 (p * 11 - i * 11) = 11 by omega]
    · rw [if_neg c1]
      by_cases c2 : i = p
      · subst c2
        rw [if_pos rfl]
        refine ⟨qv, ?_, hq, hoff, hty⟩
        rw [List.drop_append, List.drop_eq_nil_of_le (by omega), List.nil_append, l1, Nat.sub_self, List.drop_zero, List.take_append_of_le_length (by omega), List.take_of_length_le (by omega)]
      · rw [if_neg c2]
        obtain ⟨pv, e1, e2, e3⟩ := h3 (i - 1) (by omega)
        refine ⟨pv, ?_, e2, e3⟩
        rw [← e1, ← List.append_assoc, show i * 11 = (xs.take (p * 11) ++ (o.c qv).toList).length + (i - 1 - p) * 11 by rw [List.length_append, l1, l2]; omega, List.drop_append, show (xs.take (p * 11) ++ (o.c qv).toList).length + (i - 1 - p) * 11 - (xs.take (p * 11) ++ (o.c qv).toList).length = (i - 1 - p) * 11 by omega, List.drop_eq_nil_of_le (by omega), List.nil_append, List.drop_drop, show p * 11 + (i - 1 - p) * 11 = (i - 1) * 11 by omega]
theorem own_rowG {B z n : Nat} {e : TypeId} {w : World} {v : Value} {xs : List Value} (h : w.ownsRow B e z v n xs) : ∃ a c, v = .slice a n c := by
  rcases h.2 with ⟨rfl, h0⟩ | ⟨g, cap, cur, rfl, _⟩
  · exact ⟨none, 0, by rw [h0]⟩
  · exact ⟨_, _, rfl⟩
theorem grown_allocG (w : World) (o : Obj) (r : Option Nat) : w.grownBy (w.alloc o) r := World.grownBy_alloc w o r
theorem insI_call (B n p : Nat) (v : Value) (F x : List Int) (w : World) (hI : OwnI B 24 w v n F) (hx : x.length = 32) (hp : p ≤ n) (hn : n ≤ 100000) (hB : B ≤ w.heap.size) :
    Calls Tryz.prog 116 #[v, .int .i64 (p : Int), .slice (some ⟨w.heap.size, 0, none⟩) 1 1] (w.alloc (.cells (u8s x) 24)) fun e w' => ∃ a c, e = .returned (.slice a (n + 1) c) ∧ OwnI B 24 w' (.slice a (n + 1) c) (n + 1) (insF F p x) ∧ w.grownBy w' v.ownBlock ∧ ((Value.slice a (n + 1) c).ownBlock = v.ownBlock ∨ ∃ k, (Value.slice a (n + 1) c).ownBlock = some k ∧ w.heap.size ≤ k) := by
  have hlt : v.ownBlock ≠ some w.heap.size := fun e => by have := (World.ownsRow.lt hI _ e).2; omega
  have hI2 : OwnI B 24 (w.alloc (.cells (u8s x) 24)) v n F := hI.kept (below_a w _)
  refine (insI_any B n p w.heap.size v (u8v F) (u8v x) _ hI2 (heap_alloc_new w _) (by rw [u8v_length, hx]) (u8v_one F) (u8v_one x) hp hn (by simp; omega) hlt).mono ?_
  rintro e w' ⟨v', rfl, h1, h2, h3⟩
  obtain ⟨a, c, rfl⟩ := own_rowG h1
  refine ⟨a, c, rfl, ?_, but_trans (grown_allocG w _ _) h2, h3.imp id fun h => ⟨_, h, by simp⟩⟩
  have e : (u8v F).take (p * 32) ++ (u8v x ++ (u8v F).drop (p * 32)) = u8v (insF F p x) := by simp [u8v, insF]
  rw [e] at h1
  exact h1
theorem insO_call (B p vb : Nat) (r : Option Nat) (v qv : Value) (L : List Od) (o : Od) (w : World) (hO : OwnP B r w v L) (hp : p ≤ L.length) (hn : L.length ≤ 100000) (hB : B ≤ w.heap.size) (hv : w.heap[vb]? = some (.cells (o.c qv) 35 (0, 0))) (hlt : v.ownBlock ≠ some vb) (hq : RdI w qv o.n o.F) (hoff : OffB r qv) (hty : TyI B w qv) (hq1 : ∀ u ∈ (o.c qv).toList, u.oneCell' = true) :
    Calls Tryz.prog 117 #[v, .int .i64 (p : Int), .slice (some ⟨vb, 0, none⟩) 1 1] w fun e w' => ∃ a c, e = .returned (.slice a (L.length + 1) c) ∧ OwnP B r w' (.slice a (L.length + 1) c) (insL L p o) ∧ w.grownBy w' v.ownBlock := by
  obtain ⟨xs, h1, h2, h3⟩ := hO
  refine (insO_any B L.length p vb v xs (o.c qv).toList w h1 hv rfl h2 hq1 hp hn hB hlt).mono ?_
  rintro e w' ⟨v', rfl, k1, hg, _⟩
  obtain ⟨a, c, rfl⟩ := own_rowG k1
  refine ⟨a, c, rfl, ownP_ins h2 h1.1 (fun i hi => ?_) hp k1 (rdI_grown hq (offB_ty hty h1) hg) hoff (tyI_grown hty (offB_ty hty h1) hg) hq1, hg⟩
  obtain ⟨pv, e1, e2, e3, e4⟩ := h3 i hi
  exact ⟨pv, e1, rdI_grown e2 (offB_ty e4 h1) hg, e3, tyI_grown e4 (offB_ty e4 h1) hg⟩
theorem offB_row {B : Nat} {w : World} {v : Value} {g : Nat} {cs : Array Value} {T : TypeId} {fr : Nat × Nat} (h : TyI B w v) (hg : w.heap[g]? = some (.cells cs T fr)) (hT : T ≠ 24) : OffB (some g) v := by
  intro b o n c e hn e2
  obtain ⟨_, ds, fr2, h1⟩ := h b o n c e hn
  cases e2
  rw [hg] at h1
  injection h1 with h1
  injection h1 with _ h2 _
  exact hT h2
/-- A row of another kind has changed. -/
theorem OwnP.other {B g : Nat} {r : Option Nat} {w w' : World} {v : Value} {L : List Od} {cs : Array Value} {T : TypeId} (h : OwnP B r w v L) (hg : w.heap[g]? = some (.cells cs T (0, 0))) (h1 : T ≠ 24) (h2 : T ≠ 35) (hb : w.grownBy w' (some g)) : OwnP B r w' v L := by
  obtain ⟨xs, k1, k2, k3⟩ := h
  refine ⟨xs, k1.kept hb (.inr fun e => own_row_ne k1 hg h2 e.symm), k2, fun i hi => ?_⟩
  obtain ⟨pv, e1, e2, e3, e4⟩ := k3 i hi
  exact ⟨pv, e1, rdI_grown e2 (offB_row e4 hg h1) hb, e3, tyI_grown e4 (offB_row e4 hg h1) hb⟩
theorem offB_low {B g : Nat} {w : World} {v : Value} (h : TyI B w v) (hg : g < B) : OffB (some g) v := by
  intro b o n c e hn e2
  obtain ⟨h0, _, _, _⟩ := h b o n c e hn
  cases e2
  omega
theorem own_low {B z n g : Nat} {e : TypeId} {w : World} {v : Value} {xs : List Value} (h : w.ownsRow B e z v n xs) (hg : g < B) : v.ownBlock ≠ some g := fun e2 => by
  have := (World.ownsRow.lt h g e2).1
  omega
/-- A block below B has changed. -/
theorem OwnP.low {B g : Nat} {r : Option Nat} {w w' : World} {v : Value} {L : List Od} (h : OwnP B r w v L) (hl : g < B) (hb : w.grownBy w' (some g)) : OwnP B r w' v L := by
  obtain ⟨xs, k1, k2, k3⟩ := h
  refine ⟨xs, k1.kept hb (.inr (own_low k1 hl)), k2, fun i hi => ?_⟩
  obtain ⟨pv, e1, e2, e3, e4⟩ := k3 i hi
  exact ⟨pv, e1, rdI_grown e2 (offB_low e4 hl) hb, e3, tyI_grown e4 (offB_low e4 hl) hb⟩
theorem OwnP.mono {B B' : Nat} {r : Option Nat} {w : World} {v : Value} {L : List Od} (h : OwnP B r w v L) (hB : B' ≤ B) : OwnP B' r w v L := by
  obtain ⟨xs, k1, k2, k3⟩ := h
  refine ⟨xs, ⟨k1.1, k1.2.imp id ?_⟩, k2, fun i hi => ?_⟩
  · rintro ⟨g, cap, cur, e, hb, rest⟩
    exact ⟨g, cap, cur, e, Nat.le_trans hB hb, rest⟩
  obtain ⟨pv, e1, e2, e3, e4⟩ := k3 i hi
  exact ⟨pv, e1, e2, e3, fun b o n c e hn => ⟨Nat.le_trans hB (e4 b o n c e hn).1, (e4 b o n c e hn).2⟩⟩
theorem but_setRowG (w : World) (g : Nat) (cs : Array Value) : w.grownBy (w.setRow g cs) (some g) := ⟨rfl, rfl, rfl, by rw [size_setRow]; exact Nat.le_refl _, fun k _ hn => setRow_other w g k cs (fun e => hn (by rw [e]))⟩
theorem grown_rowG {w w' : World} {r : Option Nat} (h : w.grownBy w' r) {g : Nat} {o : Obj} (hg : w.heap[g]? = some o) (hne : some g ≠ r) : w'.heap[g]? = some o := (h.block g (Array.getElem?_eq_some_iff.1 hg).1 hne).trans hg
def n2A : List (List Nat) := [[], [0], [], [], [3], [3, 4], [0, 1, 2, 3, 4, 5], [0, 1, 2, 3, 4, 5, 6], [0, 1, 2, 3, 4, 5, 6, 7]]
def n2F (B g4 n p : Nat) (ov pv : Value) (o : Od) : Nat → Value → World → Prop
  | 0, v, _ => v = .pointer (some ⟨g4, 1, none⟩)
  | 1, v, _ => v = ov
  | 2, v, _ => v = .int .i64 (p : Int)
  | 3, v, _ => v = .agg (o.c pv)
  | 4, v, w => ∃ a c, v = .agg (o.c (.slice a o.n c)) ∧ OwnI B 24 w (.slice a o.n c) o.n o.F
  | _, v, w => ∃ g a c, v = .slice (some ⟨g, 0, none⟩) 1 1 ∧ B ≤ g ∧ w.heap[g]? = some (.cells (o.c (.slice a o.n c)) 35 (0, 0)) ∧ OwnI B 24 w (.slice a o.n c) o.n o.F
theorem n2_keep {B g4 n p : Nat} {ov pv : Value} {o : Od} (j : Nat) (v : Value) (w w' : World) (hj : j < 6) (h : n2F B g4 n p ov pv o j v w) (hb : Below w.heap.size w w') : n2F B g4 n p ov pv o j v w' := by
  match j, hj with
  | 0, _ => exact h
  | 1, _ => exact h
  | 2, _ => exact h
  | 3, _ => exact h
  | 4, _ => obtain ⟨a, c, e, h1⟩ := h; exact ⟨a, c, e, OwnI.kept h1 hb⟩
  | 5, _ => obtain ⟨g, a, c, e, h1, h2, h3⟩ := h; exact ⟨g, a, c, e, h1, rowB h2 hb (Array.getElem?_eq_some_iff.1 h2).1, OwnI.kept h3 hb⟩
  | j' + 6, hj' => exact absurd hj' (by omega)
theorem foldId (x : List Int) (hx : x.length = 32) : Array.foldl (fun (cs : Array Value) (x : Value × Nat) => cs.setIfInBounds x.snd x.fst) #[Value.int .u8 0, Value.int .u8 0, Value.int .u8 0, Value.int .u8 0, Value.int .u8 0, Value.int .u8 0, Value.int .u8 0, Value.int .u8 0, Value.int .u8 0, Value.int .u8 0, Value.int .u8 0, Value.int .u8 0, Value.int .u8 0, Value.int .u8 0, Value.int .u8 0, Value.int .u8 0, Value.int .u8 0, Value.int .u8 0, Value.int .u8 0, Value.int .u8 0, Value.int .u8 0, Value.int .u8 0, Value.int .u8 0, Value.int .u8 0, Value.int .u8 0, Value.int .u8 0, Value.int .u8 0, Value.int .u8 0, Value.int .u8 0, Value.int .u8 0, Value.int .u8 0, Value.int .u8 0] (u8s x).zipIdx 0 32 = u8s x := by
  have h := fold_arr (u8s x) (u8s (zerosB 32)) (by rw [u8s_size, hx]; rfl)
  have e : 32 = (u8s x).zipIdx.size := by simp [u8s_size, hx]
  rw [e]; exact h
theorem row4G (w : World) (a b c d : Obj) (k : Nat) (hk : k < 4) : ((((w.alloc a).alloc b).alloc c).alloc d).heap[w.heap.size + k]? = some (match k with | 0 => a | 1 => b | 2 => c | _ => d) := by
  match k, hk with
  | 0, _ => exact rowB (rowB (rowB (heap_alloc_new w a) (below_a _ _) (by simp)) (below_a _ _) (by simp <;> omega)) (below_a _ _) (by simp <;> omega)
  | 1, _ => exact rowB (rowB (by have := heap_alloc_new (w.alloc a) b; simpa using this) (below_a _ _) (by simp)) (below_a _ _) (by simp <;> omega)
  | 2, _ => exact rowB (by have := heap_alloc_new ((w.alloc a).alloc b) c; simpa using this) (below_a _ _) (by simp)
  | 3, _ => have := heap_alloc_new (((w.alloc a).alloc b).alloc c) d; simpa using this
set_option maxHeartbeats 16000000 in
set_option maxRecDepth 100000 in
theorem inserted_any (B n p : Nat) (F : List Int) (L : List Od) (iv ov pv : Value) (x : List Int) (o : Od) (w : World) (hI : OwnI B 24 w iv n F) (hO : OwnP B iv.ownBlock w ov L) (hn : n ≤ 1000) (hL : L.length = n) (hp : p ≤ n) (hx : x.length = 32) (hon : o.n ≤ 20) (hok : o.key.size ≤ 1000000) (hos : o.v.s.size ≤ 1000000) (hpv : RdI w pv o.n o.F) (hpf : OffB iv.ownBlock pv) (hB : B ≤ w.heap.size) :
    Calls Tryz.prog 68 #[.agg (gC iv ov), .int .i64 (p : Int), .agg (u8s x), .agg (o.c pv)] w fun e w' => ∃ iv' ov', e = .returned (.agg (gC iv' ov')) ∧ OwnI B 24 w' iv' (n + 1) (insF F p x) ∧ OwnP B iv'.ownBlock w' ov' (insL L p o) ∧ Below B w w' := by
  obtain ⟨ia, ic, rfl⟩ := own_rowG hI
  obtain ⟨oa, oc, rfl⟩ : ∃ a c, ov = .slice a n c := by obtain ⟨xs, h1, _⟩ := hO; obtain ⟨a, c, e⟩ := own_rowG h1; rw [hL] at e; exact ⟨a, c, e⟩
  obtain ⟨pa, pc, rfl⟩ := hpv.slice
  obtain ⟨r, hr⟩ : ∃ r, r = (Value.slice ia n ic).ownBlock := ⟨_, rfl⟩
  rw [← hr] at hO hpf
  obtain ⟨W, hW⟩ : ∃ W, W = (((w.alloc (.cells (gC (.slice ia n ic) (.slice oa n oc)) 41)).alloc (.cells (u8s x) 24)).alloc (.cells (o.c (.slice pa o.n pc)) 35)).alloc (.cells (gC (.slice none 0 0) (.slice none 0 0)) 41) := ⟨_, rfl⟩
  have hb := Lib.hid (show Below w.heap.size w W by rw [hW]; exact ((((Below.refl w.heap.size w).alloc (Nat.le_refl _) _).alloc (by simp) _).alloc (by simp; omega) _).alloc (by simp; omega) _)
  have s4 := Lib.hid (show W.heap[w.heap.size]? = some (.cells (gC (.slice ia n ic) (.slice oa n oc)) 41 (0, 0)) by rw [hW]; exact row4G w _ _ _ _ 0 (by decide))
  have s6 := Lib.hid (show W.heap[w.heap.size + 1]? = some (.cells (u8s x) 24 (0, 0)) by rw [hW]; exact row4G w _ _ _ _ 1 (by decide))
  have s7 := Lib.hid (show W.heap[w.heap.size + 2]? = some (.cells (o.c (.slice pa o.n pc)) 35 (0, 0)) by rw [hW]; exact row4G w _ _ _ _ 2 (by decide))
  have s8 := Lib.hid (show W.heap[w.heap.size + 3]? = some (.cells (gC (.slice none 0 0) (.slice none 0 0)) 41 (0, 0)) by rw [hW]; exact row4G w _ _ _ _ 3 (by decide))
  have yI := Lib.hid (show OwnI B 24 W (.slice ia n ic) n F from OwnI.kept hI hb.out)
  have yO := Lib.hid (OwnP.kept hO hb.out)
  have yP := Lib.hid (hpv.mono hb.out)
  have hpf' := Lib.hid hpf
  have hBW := Lib.hid (Nat.le_trans hB hb.out.size)
  have hBw := Lib.hid (show Below B w W from hb.out.mono hB)
  have hof4 := Lib.hid (show OffB (some w.heap.size) (.slice pa o.n pc) from offB_new hpv hpf (.inr ⟨_, rfl, Nat.le_refl _⟩))
  have gI := Lib.hid (show ∀ k, r = some k → k < w.heap.size from fun k hk => (World.ownsRow.lt hI k (by rw [← hr]; exact hk)).2)
  have ix := Lib.hid (show (Tryz.prog.info? 24).map (·.size) = some (u8s x).size by rw [u8s_size, hx]; kernel_rfl)
  have hcall := Lib.hid (fun (wz : World) (h1 : OwnI B 24 wz (.slice ia n ic) n F) (h2 : B ≤ wz.heap.size) => insI_call B n p (.slice ia n ic) F x wz h1 hx hp (by omega) h2)
  rw [← hr] at hcall
  have hfold := Lib.hid (foldId x hx)
  have hsz := Lib.hid (show (u8s x).size = 32 by rw [u8s_size, hx])
  have hr' := Lib.hid hr; have hL' := Lib.hid hL; have hp' := Lib.hid hp; have hn' := Lib.hid hn; have hon' := Lib.hid hon; have hok' := Lib.hid hok; have hos' := Lib.hid hos; have hB' := Lib.hid hB
  clear hI hO hpv hpf hr hL hon hok hos hx hB hp
  go_enter Tryz.func68, Tryz.ntmps68
  go_upto_region 1 with fail
  rw [← hW]
  obtain ⟨g4, hg4⟩ : ∃ g, g = w.heap.size := ⟨_, rfl⟩
  obtain ⟨g6, hg6⟩ : ∃ g, g = w.heap.size + 1 := ⟨_, rfl⟩
  obtain ⟨g7, hg7⟩ : ∃ g, g = w.heap.size + 2 := ⟨_, rfl⟩
  obtain ⟨g8, hg8⟩ : ∃ g, g = w.heap.size + 3 := ⟨_, rfl⟩
  have hd := Lib.hid (show w.heap.size ≤ g4 ∧ g4 < g6 ∧ g6 < g7 ∧ g7 < g8 by omega)
  rw [← hg4] at s4 gI hof4; rw [← hg6] at s6; rw [← hg7] at s7; rw [← hg8] at s8
  simp only [show w.heap.size + 1 + 1 = w.heap.size + 2 from rfl, show w.heap.size + 2 + 1 = w.heap.size + 3 from rfl]
  rw [← hg8, ← hg7, ← hg6, ← hg4]
  clear hW hb hg6 hg7 hg8
  have hg4' := Lib.hid hg4; clear hg4
  have c0 : W.cell? ⟨g4, 0, none⟩ = some (.slice ia n ic) := by rw [cell_of_row _ _ _ _ _ _ s4.out]; rfl
  have f0 : W.frozen? ⟨g4, 0, none⟩ = false := frozen_of_row _ _ _ _ _ s4.out
  have l0 : g4 < W.heap.size := (Array.getElem?_eq_some_iff.1 s4.out).1
  have fo := hfold.out
  have fz := hsz.out
  go_upto_region 2 with (first | (refine wpList_load_row_g rfl 24 _ rfl g6 rfl 24 (u8s x) (0, 0) _ s6.out Tryz.underlying24 rfl ix.out ?_) | (go_at_call 116; (with_reducible refine (hcall.out W yI.out hBW.out).mono ?_); rintro e9 w4 ⟨ka, kc, rfl, q1, q2, q3⟩; have j2 := Lib.hid q2; have j1 := Lib.hid q1; have j3 := Lib.hid q3; have c4 : w4.cell? ⟨g4, 0, none⟩ = some (.slice ia n ic) := q2.cell c0 (fun e => Nat.lt_irrefl _ (gI.out _ e.symm)); have f4 : w4.frozen? ⟨g4, 0, none⟩ = false := frozen_of_row _ _ _ _ _ ((q2.block g4 l0 (fun e => Nat.lt_irrefl _ (gI.out _ e.symm))).trans s4.out); have l4 : g4 < w4.heap.size := Nat.lt_of_lt_of_le l0 q2.size; clear q1 q2 q3))
  clear c0 f0 l0 c4 f4 l4 fo fz
  obtain ⟨W5, hW5⟩ : ∃ X, X = w4.setCell ⟨g4, 0, none⟩ (.slice ka (n + 1) kc) := ⟨_, rfl⟩
  rw [← hW5]
  have ne4 : some g4 ≠ r := fun e => Nat.lt_irrefl _ (gI.out _ e.symm)
  have ne7 : some g7 ≠ r := fun e => by have := gI.out _ e.symm; have := hd.out; omega
  have ne8 : some g8 ≠ r := fun e => by have := gI.out _ e.symm; have := hd.out; omega
  have t4 := grown_rowG j2.out s4.out ne4
  have bc := but_cell w4 g4 0 (.slice ka (n + 1) kc)
  rw [← hW5] at bc
  have u4 := Lib.hid (show W5.heap[g4]? = some (.cells (gC (.slice ka (n + 1) kc) (.slice oa n oc)) 41 (0, 0)) by rw [hW5]; exact setCell_row t4 0 _)
  have u7 := Lib.hid (grown_rowG bc (grown_rowG j2.out s7.out ne7) (by have := hd.out; simp; omega))
  have u8 := Lib.hid (grown_rowG bc (grown_rowG j2.out s8.out ne8) (by have := hd.out; simp; omega))
  have v1 := Lib.hid (show OwnI B 24 W5 (.slice ka (n + 1) kc) (n + 1) (insF F p x) from World.ownsRow.kept j1.out bc (.inr fun e => own_row_ne j1.out t4 (by decide) e.symm))
  have v2 := Lib.hid (show OwnP B (Value.slice ka (n + 1) kc).ownBlock W5 (.slice oa n oc) L from (OwnP.ids (iv := .slice ia n ic) (by rw [← hr'.out]; exact yO.out) yI.out (by rw [← hr'.out]; exact j2.out) (by rw [← hr'.out]; exact j3.out)).other t4 (by decide) (by decide) bc)
  have v3 := Lib.hid (show RdI W5 (.slice pa o.n pc) o.n o.F from rdI_grown (rdI_grown yP.out hpf'.out j2.out) hof4.out bc)
  have v4 := Lib.hid (show Below B w W5 from by rw [hW5]; exact Below.setCell (hBw.out.trans (OwnI.below (v := .slice ia n ic) yI.out (by rw [← hr'.out]; exact j2.out) hBW.out)) (p := (⟨g4, 0, none⟩ : Addr)) (by have := hd.out; have := hB'.out; show B ≤ g4; omega) _)
  have v5 := Lib.hid (show W.heap.size ≤ W5.heap.size from Nat.le_trans j2.out.size bc.size)
  have v6 := Lib.hid (show ∀ k, (Value.slice ka (n + 1) kc).ownBlock = some k → k < W5.heap.size from fun k hk => (World.ownsRow.lt v1.out k hk).2)
  clear hW5 ne4 ne7 ne8 t4 bc j1 j2 j3 s4 s6 s7 s8 yI yO yP hpf' hcall hBw hfold hsz ix gI
  have io := Lib.hid (show (Tryz.prog.info? 35).map (·.size) = some (o.c (.slice pa o.n pc)).size from info_op)
  refine wp_region_fx 6 n2A (by kernel_rfl) (by kernel_rfl) (n2F W5.heap.size g4 n p (.slice oa n oc) (.slice pa o.n pc) o) (fun _ a b => Below a.heap.size a b) (fun wz => Below W5.heap.size W5 wz) (fun _ _ => True)
    (Below.refl _ _).drew (fun _ _ => trivial) (fun i a b hi h hg => h.trans (Below.mono hg h.size)) (fun i j v a b hi hj ha _ h hg => n2_keep j v a b hj h hg) (fun i j a b hi hj ha _ h hg => trivial) ?hstep ?hdone
  case hstep =>
    intro i op vs wz hi hop hinv hpre hd'
    match i, hi with
    | 0, _ =>
      simp only [List.getElem?_toArray, List.getElem?_cons_zero, List.getElem?_cons_succ, Option.some.injEq] at hop
      subst hop
      generalize hfr : fxF _ vs fxT _ 0 = fr
      have e : fr.eval (.tmp 4) = .pointer (some ⟨g4, 0, none⟩) := by rw [← hfr]; exact fx_old 0 (by kernel_rfl)
      clear hfr
      refine fx_val (v := .pointer (some ⟨g4, 1, none⟩)) (w' := wz) rfl ?_ ⟨rfl, Below.refl _ _⟩
      unfold execOp
      generalize fr.eval = ev at e ⊢
      simp [go_sem, e]
    | 1, _ =>
      simp only [List.getElem?_toArray, List.getElem?_cons_zero, List.getElem?_cons_succ, Option.some.injEq] at hop
      subst hop
      have h0 : vs 0 = .pointer (some ⟨g4, 1, none⟩) := hd' 0 (by decide)
      generalize hfr : fxF _ vs fxT _ 1 = fr
      have e : fr.eval (.tmp 16) = .pointer (some ⟨g4, 1, none⟩) := by rw [← hfr]; exact (fx_new (by simp) 1 (by kernel_rfl)).trans h0
      clear hfr
      refine fx_val (v := .slice oa n oc) (w' := wz) rfl ?_ ⟨rfl, Below.refl _ _⟩
      have hc : wz.cell? ⟨g4, 1, none⟩ = some (.slice oa n oc) := by rw [cell_of_row _ _ _ _ _ _ (rowB u4.out hinv (Array.getElem?_eq_some_iff.1 u4.out).1)]; rfl
      have hu := Tryz.isAgg22 wz
      unfold execOp
      generalize fr.eval = ev at e ⊢
      simp [go_sem, e, hc, hu]
    | 2, _ =>
      simp only [List.getElem?_toArray, List.getElem?_cons_zero, List.getElem?_cons_succ, Option.some.injEq] at hop
      subst hop
      generalize hfr : fxF _ vs fxT _ 2 = fr
      have e : fr.eval (.tmp 1) = .int .i64 (p : Int) := by rw [← hfr]; exact fx_old 2 (by kernel_rfl)
      clear hfr
      refine fx_move (.tmp 1) rfl rfl ⟨e, Below.refl _ _⟩
    | 3, _ =>
      simp only [List.getElem?_toArray, List.getElem?_cons_zero, List.getElem?_cons_succ, Option.some.injEq] at hop
      subst hop
      generalize hfr : fxF _ vs fxT _ 3 = fr
      have e : fr.eval (.tmp 7) = .pointer (some ⟨g7, 0, none⟩) := by rw [← hfr]; exact fx_old 3 (by kernel_rfl)
      clear hfr
      have hl := run_loadVar_row (P := Tryz.prog) wz g7 35 35 (o.c (.slice pa o.n pc)) (0, 0) _ (rowB u7.out hinv (Array.getElem?_eq_some_iff.1 u7.out).1) Tryz.underlying35 rfl io.out
      refine fx_val (v := .agg (o.c (.slice pa o.n pc))) (w' := wz) rfl ?_ ⟨rfl, Below.refl _ _⟩
      unfold execOp
      generalize fr.eval = ev at e ⊢
      simp only [e, Instr.loadAt, Instr.sureAddr, Sem.run_bind, Sem.run_pure, Result.andThen_ok, hl]
    | 4, _ =>
      simp only [List.getElem?_toArray, List.getElem?_cons_zero, List.getElem?_cons_succ, Option.some.injEq] at hop
      subst hop
      have h3 : vs 3 = .agg (o.c (.slice pa o.n pc)) := hd' 3 (by decide)
      generalize hfr : fxF _ vs fxT _ 4 = fr
      have e1 : fr.eval (.tmp 19) = .agg (o.c (.slice pa o.n pc)) := by rw [← hfr]; exact (fx_new (by simp) 4 (by kernel_rfl)).trans h3
      clear hfr
      refine fx_call #[.agg (o.c (.slice pa o.n pc))] rfl rfl Tryz.func72 (by kernel_rfl) rfl (by simp [e1]) rfl ((copiedD_any o hon'.out hok'.out hos'.out _ wz (v3.out.mono hinv)).mono ?_)
      rintro e9 w9 ⟨qv, rfl, z1, z2⟩
      obtain ⟨a, c, rfl⟩ := own_rowG z1
      exact ⟨_, rfl, ⟨a, c, rfl, OwnI.mono z1 hinv.size⟩, z2⟩
    | 5, _ =>
      simp only [List.getElem?_toArray, List.getElem?_cons_zero, List.getElem?_cons_succ, Option.some.injEq] at hop
      subst hop
      obtain ⟨a, c, h4, hq⟩ : ∃ a c, vs 4 = .agg (o.c (.slice a o.n c)) ∧ OwnI W5.heap.size 24 wz (.slice a o.n c) o.n o.F := hd' 4 (by decide)
      generalize hfr : fxF _ vs fxT _ 5 = fr
      have e1 : fr.eval (.tmp 20) = .agg (o.c (.slice a o.n c)) := by rw [← hfr]; exact (fx_new (by simp) 5 (by kernel_rfl)).trans h4
      clear hfr
      have hbw := below_a wz (.cells (o.c (.slice a o.n c)) 35)
      refine fx_val (v := .slice (some ⟨wz.heap.size, 0, none⟩) 1 1) (w' := wz.alloc (.cells (o.c (.slice a o.n c)) 35)) rfl ?_ ⟨⟨_, a, c, rfl, hinv.size, heap_alloc_new wz _, OwnI.kept hq hbw⟩, hbw⟩
      unfold execOp
      generalize fr.eval = ev at e1 ⊢
      simp [go_sem, e1]
    | j' + 6, hj' => exact absurd hj' (by omega)
  case hdone =>
    intro vs w5 hinv hf
    have h1 : vs 1 = .slice oa n oc := hf 1 (by decide)
    have h2 : vs 2 = .int .i64 (p : Int) := hf 2 (by decide)
    obtain ⟨gq, qa, qc, h5, hgq, hrq, oq⟩ : ∃ g a c, vs 5 = .slice (some ⟨g, 0, none⟩) 1 1 ∧ W5.heap.size ≤ g ∧ w5.heap[g]? = some (.cells (o.c (.slice a o.n c)) 35 (0, 0)) ∧ OwnI W5.heap.size 24 w5 (.slice a o.n c) o.n o.F := hf 5 (by decide)
    simp only [fxF, fxT, if_true, List.drop_succ_cons, List.drop_zero, List.getElem?_toArray, List.getElem?_cons_zero, List.getElem?_cons_succ, Option.bind_some]
    rw [h1, h2, h5]
    clear hf h1 h2 h5
    generalize vs 0 = z0 at *
    generalize vs 3 = z3 at *
    generalize vs 4 = z4 at *
    have x2 := OwnP.kept v2.out hinv
    have hltq : (Value.slice oa n oc).ownBlock ≠ some gq := fun e => by obtain ⟨xs, k1, _⟩ := v2.out; have := (World.ownsRow.lt k1 _ e).2; omega
    have hcO := insO_call B p gq _ (.slice oa n oc) (.slice qa o.n qc) L o w5 x2 (by rw [hL'.out]; exact hp'.out) (by rw [hL'.out]; have := hn'.out; omega) (Nat.le_trans hBW.out (Nat.le_trans v5.out hinv.size)) hrq hltq oq.rd (offB_own oq v6.out) (tyI_own oq (Nat.le_trans hBW.out v5.out)) (by simp [Od.c, Value.oneCell'])
    rw [hL'.out] at hcO
    replace hcO := Lib.hid hcO
    have y4 := Lib.hid (rowB u4.out hinv (Array.getElem?_eq_some_iff.1 u4.out).1)
    have y8 := Lib.hid (rowB u8.out hinv (Array.getElem?_eq_some_iff.1 u8.out).1)
    have y1 := Lib.hid (OwnI.kept v1.out hinv)
    obtain ⟨xs, k1, _, _⟩ := x2
    have hx := Lib.hid k1
    have yB := Lib.hid (show Below B w w5 from v4.out.trans (hinv.mono (Nat.le_trans hBW.out v5.out)))
    have n4 := Lib.hid (own_row_ne k1 y4.out (by decide))
    have n8 := Lib.hid (own_row_ne k1 y8.out (by decide))
    clear k1 hinv hrq oq hltq hgq u4 u7 u8 v1 v2 v3 v4 hof4
    go_upto_region 3 with (go_at_call 117; (with_reducible refine (hcO.out).mono ?_); rintro e9 w6 ⟨ma, mc, rfl, q1, q2⟩; have a4 := grown_rowG q2 y4.out n4.out; have j1 := Lib.hid q1; have j2 := Lib.hid q2; have c4 : w6.cell? ⟨g4, 1, none⟩ = some (.slice oa n oc) := (by rw [cell_of_row _ _ _ _ _ _ a4]; rfl); have f4 : w6.frozen? ⟨g4, 1, none⟩ = false := frozen_of_row _ _ _ _ _ a4; have l4 : g4 < w6.heap.size := (Array.getElem?_eq_some_iff.1 a4).1; replace a4 := Lib.hid a4; clear q1 q2)
    clear c4 f4 l4
    obtain ⟨W7, hW7⟩ : ∃ X, X = w6.setCell ⟨g4, 1, none⟩ (.slice ma (n + 1) mc) := ⟨_, rfl⟩
    rw [← hW7]
    have bc := but_cell w6 g4 1 (.slice ma (n + 1) mc)
    rw [← hW7] at bc
    have z4 := Lib.hid (show W7.heap[g4]? = some (.cells (gC (.slice ka (n + 1) kc) (.slice ma (n + 1) mc)) 41 (0, 0)) by rw [hW7]; exact setCell_row a4.out 1 _)
    have z8 := Lib.hid (grown_rowG bc (grown_rowG j2.out y8.out n8.out) (by have := hd.out; simp; omega))
    have b1 : OwnI B 24 w6 (.slice ka (n + 1) kc) (n + 1) (insF F p x) := World.ownsRow.kept y1.out j2.out (ownNeT y1.out hx.out (by decide))
    have z1 := Lib.hid (show OwnI B 24 W7 (.slice ka (n + 1) kc) (n + 1) (insF F p x) from World.ownsRow.kept b1 bc (.inr fun e => own_row_ne b1 a4.out (by decide) e.symm))
    have z2 := Lib.hid (show OwnP B (Value.slice ka (n + 1) kc).ownBlock W7 (.slice ma (n + 1) mc) (insL L p o) from j1.out.other a4.out (by decide) (by decide) bc)
    have zB := Lib.hid (show Below B w W7 by rw [hW7]; exact Below.setCell (yB.out.trans (Below.grown (Below.refl B w5) j2.out (Nat.le_trans (show B ≤ w.heap.size from hB'.out) yB.out.size) (fun k hk => (World.ownsRow.lt hx.out k hk).1))) (p := (⟨g4, 1, none⟩ : Addr)) (by have := hd.out; have := hB'.out; show B ≤ g4; omega) _)
    clear hW7 bc a4 j1 j2 y4 y8 y1 b1 hcO
    go_wp2_with (first | (refine wpList_load_row_g rfl 41 _ rfl g4 rfl 41 (gC (.slice ka (n + 1) kc) (.slice ma (n + 1) mc)) (0, 0) _ z4.out Tryz.underlying41 rfl (by kernel_rfl) ?_) | (refine wpList_store_row rfl 41 _ _ rfl g8 (gC (.slice ka (n + 1) kc) (.slice ma (n + 1) mc)) rfl rfl 41 _ z8.out (by kernel_rfl) rfl (by simp [Value.oneCell']) ?_))
    have bs := but_setRowG W7 g8 (gC (.slice ka (n + 1) kc) (.slice ma (n + 1) mc))
    exact bodyPost_ret (results_cell_row rfl _ _ g8 41 _ _ _ rfl (setRow_heap _ _ _ _ _ _ z8.out) Tryz.underlying41 rfl (by kernel_rfl)) rfl ⟨(.slice ka (n + 1) kc), (.slice ma (n + 1) mc), rfl, World.ownsRow.kept z1.out bs (.inr fun e => own_row_ne z1.out z8.out (by decide) e.symm), z2.out.other z8.out (by decide) (by decide) bs, below_setRow' zB.out (by have := hd.out; have := hB'.out; omega) _⟩
end Go.Proofs.YtlbgffhipondiaaGreatDoor.wir.val
namespace Go.Proofs.YtlbgffhipondiaaGreatDoor.wir.val
open Go.RowKit Go.YtlbgffhipondiaaGreatDoor
set_option linter.unusedVariables false
theorem take_nthO (L : List Od) (j : Nat) (h : j < L.length) : L.take (j + 1) = L.take j ++ [nthO L j] := by
  rw [List.take_add_one, show L[j]? = some L[j] from List.getElem?_eq_getElem h]
  simp [nthO, h]
/-- One operation more at the end. -/
theorem ownP_push (B vb : Nat) (r : Option Nat) (v qv : Value) (L : List Od) (o : Od) (w : World) (ty : TypeId) (hO : OwnP B r w v L) (hn : L.length ≤ 100000) (hB : B ≤ w.heap.size) (hv : w.heap[vb]? = some (.cells (o.c qv) 35 (0, 0))) (hq : RdI w qv o.n o.F) (hoff : OffB r qv) (hty : TyI B w qv) (hq1 : ∀ u ∈ (o.c qv).toList, u.oneCell' = true) :
    ∃ a c w', (Builtin.append_ #[22, 22] ty #[v, .slice (some ⟨vb, 0, none⟩) 1 1]).run Tryz.prog w = .ok (.slice a (L.length + 1) c) w' ∧ OwnP B r w' (.slice a (L.length + 1) c) (L ++ [o]) ∧ w.grownBy w' v.ownBlock := by
  obtain ⟨xs, h1, h2, h3⟩ := hO
  obtain ⟨ti, hti, htz, hts, htb⟩ := info_parts infoO_ins
  have hl := h1.1
  obtain ⟨v', w', k0, k1, hg, _⟩ := run_append_own (P := Tryz.prog) w B 22 ty 35 ti (.agg (zO.c (.slice none 0 0))) 11 112 Tryz.underlying22 hti htz hts htb (by kernel_rfl) (by decide) v L.length xs h1 ⟨vb, 0, none⟩ 1 1 (o.c qv).toList rfl (fun j u hj => rowcells (cs := o.c qv) hv 0 (o.c qv).toList (by simp) j u hj) hq1 (by unfold maxLen; omega) (by omega) hB
  obtain ⟨a, c, rfl⟩ := own_rowG k1
  refine ⟨a, c, w', k0, ?_, hg⟩
  have hx : xs.take (L.length * 11) ++ ((o.c qv).toList ++ xs.drop (L.length * 11)) = xs ++ (o.c qv).toList := by rw [← hl, List.take_length, List.drop_length, List.append_nil]
  have hi : insL L L.length o = L ++ [o] := by simp [insL]
  rw [← hi]
  refine ownP_ins h2 h1.1 (fun i hi => ?_) (Nat.le_refl _) (by rw [hx]; exact k1) (rdI_grown hq (offB_ty hty h1) hg) hoff (tyI_grown hty (offB_ty hty h1) hg) hq1
  obtain ⟨pv, e1, e2, e3, e4⟩ := h3 i hi
  exact ⟨pv, e1, rdI_grown e2 (offB_ty e4 h1) hg, e3, tyI_grown e4 (offB_ty e4 h1) hg⟩
def c5A : List (List Nat) := [[], [0], [], [2], [2, 3], [0, 1, 2, 3, 4], [0, 1, 2, 3, 4, 5], [0, 1, 2, 3, 4, 5, 6]]
def c5F (B g3 : Nat) (ov pv : Value) (o : Od) : Nat → Value → World → Prop
  | 0, v, _ => v = .pointer (some ⟨g3, 1, none⟩)
  | 1, v, _ => v = ov
  | 2, v, _ => v = .agg (o.c pv)
  | 3, v, w => ∃ a c, v = .agg (o.c (.slice a o.n c)) ∧ OwnI B 24 w (.slice a o.n c) o.n o.F
  | _, v, w => ∃ g a c, v = .slice (some ⟨g, 0, none⟩) 1 1 ∧ B ≤ g ∧ w.heap[g]? = some (.cells (o.c (.slice a o.n c)) 35 (0, 0)) ∧ OwnI B 24 w (.slice a o.n c) o.n o.F
theorem c5_keep {B g3 : Nat} {ov pv : Value} {o : Od} (j : Nat) (v : Value) (w w' : World) (hj : j < 5) (h : c5F B g3 ov pv o j v w) (hb : Below w.heap.size w w') : c5F B g3 ov pv o j v w' := by
  match j, hj with
  | 0, _ => exact h
  | 1, _ => exact h
  | 2, _ => exact h
  | 3, _ => obtain ⟨a, c, e, h1⟩ := h; exact ⟨a, c, e, OwnI.kept h1 hb⟩
  | 4, _ => obtain ⟨g, a, c, e, h1, h2, h3⟩ := h; exact ⟨g, a, c, e, h1, rowB h2 hb (Array.getElem?_eq_some_iff.1 h2).1, OwnI.kept h3 hb⟩
  | j' + 5, hj' => exact absurd hj' (by omega)
set_option maxHeartbeats 16000000 in
set_option maxRecDepth 100000 in
theorem copiedGraph_any (F : List Int) (n : Nat) (L : List Od) (iv ov : Value) (w : World) (hI : RdI w iv n F) (hO : RdO w ov L) (hn : n ≤ 1000) (hm : L.length ≤ 1000) (hf : ∀ i, (nthO L i).n ≤ 20 ∧ (nthO L i).key.size ≤ 1000000 ∧ (nthO L i).v.s.size ≤ 1000000) :
    Calls Tryz.prog 71 #[.agg (gC iv ov)] w fun e w' => ∃ iv' ov', e = .returned (.agg (gC iv' ov')) ∧ OwnI w.heap.size 24 w' iv' n F ∧ OwnP w.heap.size iv'.ownBlock w' ov' L ∧ Below w.heap.size w w' := by
  obtain ⟨ia, ic, rfl⟩ := hI.slice
  obtain ⟨oa, oc, rfl⟩ := hO.slice
  obtain ⟨W, hW⟩ : ∃ W, W = (w.alloc (.cells (gC (.slice ia n ic) (.slice oa L.length oc)) 41)).alloc (.cells (gC (.slice none 0 0) (.slice none 0 0)) 41) := ⟨_, rfl⟩
  have hb := Lib.hid (show Below w.heap.size w W by rw [hW]; exact ((Below.refl w.heap.size w).alloc (Nat.le_refl _) _).alloc (by simp) _)
  have s1 := Lib.hid (show W.heap[w.heap.size]? = some (.cells (gC (.slice ia n ic) (.slice oa L.length oc)) 41 (0, 0)) by rw [hW]; exact rowB (heap_alloc_new w _) (below_a _ _) (by simp))
  have s2 := Lib.hid (show W.heap[w.heap.size + 1]? = some (.cells (gC (.slice none 0 0) (.slice none 0 0)) 41 (0, 0)) by rw [hW]; exact hn2 w _ _)
  have yI := Lib.hid (hI.mono hb.out)
  have hOw := Lib.hid hO
  have hff := Lib.hid hf
  obtain ⟨m, hmm⟩ : ∃ m, L.length = m := ⟨_, rfl⟩
  rw [hmm] at s1 hOw hm hW ⊢
  have hmm' := Lib.hid hmm; have hn' := Lib.hid hn; have hm' := Lib.hid hm
  clear hI hO hf hmm hm
  obtain ⟨g1, hg1⟩ : ∃ g, g = w.heap.size := ⟨_, rfl⟩
  obtain ⟨g2, hg2⟩ : ∃ g, g = w.heap.size + 1 := ⟨_, rfl⟩
  have hg1' := Lib.hid hg1; have hg2' := Lib.hid hg2
  go_enter Tryz.func71, Tryz.ntmps71
  go_upto_region 1 with fail
  rw [← hW, ← hg2, ← hg1]
  rw [← hg1] at s1; rw [← hg2] at s2
  clear hW hg1 hg2
  have c0 : W.cell? ⟨g1, 0, none⟩ = some (.slice ia n ic) := by rw [cell_of_row _ _ _ _ _ _ s1.out]; rfl
  go_wp2_with (refine appendIs rfl _ _ 26 rfl W.heap.size 24 Tryz.underlying26 (by kernel_rfl) _ rfl 0 [] (ownI_any W _) _ rfl n F yI.out (by omega) (Nat.le_refl _) ?_)
  intro v2 w2 h1 h2
  have hB2 := (ownI_any W W.heap.size).below h2 (Nat.le_refl _)
  have hq0 : OwnI W.heap.size 24 w2 v2 n F := by simpa using h1
  obtain ⟨qa, qc, rfl⟩ := own_rowG hq0
  clear c0 h1 h2
  refine Stop.go ?_
  go_upto_region 2 with fail
  obtain ⟨W3, hW3⟩ : ∃ X, X = w2.alloc (.cells (gC (.slice qa n qc) (.slice none 0 0)) 41) := ⟨_, rfl⟩
  rw [← hW3]
  have b3 : Below w2.heap.size w2 W3 := by rw [hW3]; exact below_a w2 _
  have s3 := Lib.hid (show W3.heap[w2.heap.size]? = some (.cells (gC (.slice qa n qc) (.slice none 0 0)) 41 (0, 0)) by rw [hW3]; exact heap_alloc_new w2 _)
  have bW := hB2.trans (b3.mono hB2.size)
  have s2w := s2
  replace s1 := Lib.hid (rowB s1.out bW (Array.getElem?_eq_some_iff.1 s1.out).1)
  replace s2 := Lib.hid (rowB s2.out bW (Array.getElem?_eq_some_iff.1 s2.out).1)
  have yI3 := Lib.hid (show OwnI w.heap.size 24 W3 (.slice qa n qc) n F from OwnI.mono (OwnI.kept hq0 b3) hb.out.size)
  have hB3 := Lib.hid (show Below w.heap.size w W3 from hb.out.trans (bW.mono hb.out.size))
  have g3w := Lib.hid (show w.heap.size ≤ w2.heap.size from Nat.le_trans hb.out.size hB2.size)
  obtain ⟨g3, hg3⟩ : ∃ g, g = w2.heap.size := ⟨_, rfl⟩
  rw [← hg3] at s3 g3w
  rw [← hg3]
  have g3g := Lib.hid (show g2 < g3 by have := (Array.getElem?_eq_some_iff.1 s2w.out).1; have := hB2.size; omega)
  clear hW3 b3 bW hB2 hq0 hg3 yI hb s2w
  obtain ⟨r, hr⟩ : ∃ r, r = (Value.slice qa n qc).ownBlock := ⟨_, rfl⟩
  have hr' := Lib.hid hr
  clear hr
  have c1 : W3.cell? ⟨g1, 1, none⟩ = some (.slice oa m oc) := by rw [cell_of_row _ _ _ _ _ _ s1.out]; rfl
  go_wp2
  clear c1
  go_loopw [13] (fun i wr => ∃ (j : Nat) (ya : Option Addr) (yc : Nat), j ≤ m ∧ i = .int .i64 (j : Int) ∧ wr.heap[g3]? = some (.cells (gC (.slice qa n qc) (.slice ya j yc)) 41 (0, 0)) ∧ wr.heap[g2]? = some (.cells (gC (.slice none 0 0) (.slice none 0 0)) 41 (0, 0)) ∧ OwnP w.heap.size r wr (.slice ya j yc) (L.take j) ∧ OwnI w.heap.size 24 wr (.slice qa n qc) n F ∧ Below w.heap.size w wr) (fun i _ => m - (intOf i).toNat)
  case atStart => exact ⟨0, none, 0, Nat.zero_le _, rfl, s3.out, s2.out, by rw [List.take_zero]; exact OwnP.nil _ _ _, yI3.out, hB3.out⟩
  case round =>
    obtain ⟨j, ya, yc, hj, rfl, q1, q2, q3, q4, q5⟩ := hrel
    have t3 := Lib.hid q1; have t2 := Lib.hid q2; have tO := Lib.hid q3; have tI := Lib.hid q4; have tB := Lib.hid q5
    clear q1 q2 q3 q4 q5 s1 s2 s3 yI3 hB3
    by_cases hlt : j < m
    · have hjl := Lib.hid hlt
      have hjI : (j : Int) < (m : Int) := by omega
      obtain ⟨b, o, pa, pc, rfl, hbl, hmc, hrg, hpr⟩ := rdO_at hOw.out hmm'.out tB.out j hlt
      have hfj := Lib.hid (hff.out j)
      have htk := Lib.hid (take_nthO L j (by rw [hmm'.out]; exact hlt))
      have hlj := Lib.hid (show (L.take j).length = j by rw [List.length_take, hmm'.out]; omega)
      generalize nthO L j = od at *
      have m1 := Lib.hid hrg; have yp := Lib.hid hpr
      have io := Lib.hid (show (Tryz.prog.info? 35).map (·.size) = some (od.c (.slice pa od.n pc)).toList.length from info_op)
      clear hrg hpr hj hlt hbl
      go_upto_region 5 with (refine wpList_load_mid_g rfl 35 _ rfl b (o + j * 11) rfl (od.c (.slice pa od.n pc)) _ m1.out Tryz.underlying35 rfl io.out ?_)
      obtain ⟨w5, hw5⟩ : ∃ X, X = wr.alloc (.cells (od.c (.slice pa od.n pc)) 35) := ⟨_, rfl⟩
      rw [← hw5]
      have b5 : Below wr.heap.size wr w5 := by rw [hw5]; exact below_a wr _
      have u5 := Lib.hid (show w5.heap[wr.heap.size]? = some (.cells (od.c (.slice pa od.n pc)) 35 (0, 0)) by rw [hw5]; exact heap_alloc_new wr _)
      replace t3 := Lib.hid (rowB t3.out b5 (Array.getElem?_eq_some_iff.1 t3.out).1)
      replace t2 := Lib.hid (rowB t2.out b5 (Array.getElem?_eq_some_iff.1 t2.out).1)
      replace tO := Lib.hid (OwnP.kept tO.out b5); replace tI := Lib.hid (OwnI.kept tI.out b5); replace yp := Lib.hid (yp.out.mono b5)
      replace tB := Lib.hid (tB.out.trans (b5.mono tB.out.size))
      obtain ⟨g5, hg5⟩ : ∃ g, g = wr.heap.size := ⟨_, rfl⟩
      rw [← hg5] at u5
      rw [← hg5]
      clear hw5 b5 hg5 m1
      have v6 := Lib.hid (show ∀ k, r = some k → k < w5.heap.size from fun k hk => (World.ownsRow.lt tI.out k (by rw [← hr'.out]; exact hk)).2)
      have i5 := Lib.hid (show (Tryz.prog.info? 35).map (·.size) = some (od.c (.slice pa od.n pc)).size from info_op)
      refine wp_region_fx 5 c5A (by kernel_rfl) (by kernel_rfl) (c5F w5.heap.size g3 (.slice ya j yc) (.slice pa od.n pc) od) (fun _ a b => Below a.heap.size a b) (fun wz => Below w5.heap.size w5 wz) (fun _ _ => True)
        (Below.refl _ _).drew (fun _ _ => trivial) (fun i a b hi h hg => h.trans (Below.mono hg h.size)) (fun i j v a b hi hj ha _ h hg => c5_keep j v a b hj h hg) (fun i j a b hi hj ha _ h hg => trivial) ?hstep ?hdone
      case hstep =>
        intro i op vs wz hi hop hinv hpre hd'
        match i, hi with
        | 0, _ =>
          simp only [List.getElem?_toArray, List.getElem?_cons_zero, List.getElem?_cons_succ, Option.some.injEq] at hop
          subst hop
          generalize hfr : fxF _ vs fxT _ 0 = fr
          have e : fr.eval (.tmp 3) = .pointer (some ⟨g3, 0, none⟩) := by rw [← hfr]; exact fx_old 0 (by kernel_rfl)
          clear hfr
          refine fx_val (v := .pointer (some ⟨g3, 1, none⟩)) (w' := wz) rfl ?_ ⟨rfl, Below.refl _ _⟩
          unfold execOp
          generalize fr.eval = ev at e ⊢
          simp [go_sem, e]
        | 1, _ =>
          simp only [List.getElem?_toArray, List.getElem?_cons_zero, List.getElem?_cons_succ, Option.some.injEq] at hop
          subst hop
          have h0 : vs 0 = .pointer (some ⟨g3, 1, none⟩) := hd' 0 (by decide)
          generalize hfr : fxF _ vs fxT _ 1 = fr
          have e : fr.eval (.tmp 17) = .pointer (some ⟨g3, 1, none⟩) := by rw [← hfr]; exact (fx_new (by simp) 1 (by kernel_rfl)).trans h0
          clear hfr
          refine fx_val (v := .slice ya j yc) (w' := wz) rfl ?_ ⟨rfl, Below.refl _ _⟩
          have hc : wz.cell? ⟨g3, 1, none⟩ = some (.slice ya j yc) := by rw [cell_of_row _ _ _ _ _ _ (rowB t3.out hinv (Array.getElem?_eq_some_iff.1 t3.out).1)]; rfl
          have hu := Tryz.isAgg22 wz
          unfold execOp
          generalize fr.eval = ev at e ⊢
          simp [go_sem, e, hc, hu]
        | 2, _ =>
          simp only [List.getElem?_toArray, List.getElem?_cons_zero, List.getElem?_cons_succ, Option.some.injEq] at hop
          subst hop
          generalize hfr : fxF _ vs fxT _ 2 = fr
          have e : fr.eval (.tmp 5) = .pointer (some ⟨g5, 0, none⟩) := by rw [← hfr]; exact fx_old 2 (by kernel_rfl)
          clear hfr
          have hl := run_loadVar_row (P := Tryz.prog) wz g5 35 35 (od.c (.slice pa od.n pc)) (0, 0) _ (rowB u5.out hinv (Array.getElem?_eq_some_iff.1 u5.out).1) Tryz.underlying35 rfl i5.out
          refine fx_val (v := .agg (od.c (.slice pa od.n pc))) (w' := wz) rfl ?_ ⟨rfl, Below.refl _ _⟩
          unfold execOp
          generalize fr.eval = ev at e ⊢
          simp only [e, Instr.loadAt, Instr.sureAddr, Sem.run_bind, Sem.run_pure, Result.andThen_ok, hl]
        | 3, _ =>
          simp only [List.getElem?_toArray, List.getElem?_cons_zero, List.getElem?_cons_succ, Option.some.injEq] at hop
          subst hop
          have h3 : vs 2 = .agg (od.c (.slice pa od.n pc)) := hd' 2 (by decide)
          generalize hfr : fxF _ vs fxT _ 3 = fr
          have e1 : fr.eval (.tmp 19) = .agg (od.c (.slice pa od.n pc)) := by rw [← hfr]; exact (fx_new (by simp) 3 (by kernel_rfl)).trans h3
          clear hfr
          refine fx_call #[.agg (od.c (.slice pa od.n pc))] rfl rfl Tryz.func72 (by kernel_rfl) rfl (by simp [e1]) rfl ((copiedD_any od hfj.out.1 hfj.out.2.1 hfj.out.2.2 _ wz (yp.out.mono hinv)).mono ?_)
          rintro e9 w9 ⟨qv, rfl, z1, z2⟩
          obtain ⟨a, c, rfl⟩ := own_rowG z1
          exact ⟨_, rfl, ⟨a, c, rfl, OwnI.mono z1 hinv.size⟩, z2⟩
        | 4, _ =>
          simp only [List.getElem?_toArray, List.getElem?_cons_zero, List.getElem?_cons_succ, Option.some.injEq] at hop
          subst hop
          obtain ⟨a, c, h4, hq⟩ : ∃ a c, vs 3 = .agg (od.c (.slice a od.n c)) ∧ OwnI w5.heap.size 24 wz (.slice a od.n c) od.n od.F := hd' 3 (by decide)
          generalize hfr : fxF _ vs fxT _ 4 = fr
          have e1 : fr.eval (.tmp 20) = .agg (od.c (.slice a od.n c)) := by rw [← hfr]; exact (fx_new (by simp) 4 (by kernel_rfl)).trans h4
          clear hfr
          have hbw := below_a wz (.cells (od.c (.slice a od.n c)) 35)
          refine fx_val (v := .slice (some ⟨wz.heap.size, 0, none⟩) 1 1) (w' := wz.alloc (.cells (od.c (.slice a od.n c)) 35)) rfl ?_ ⟨⟨_, a, c, rfl, hinv.size, heap_alloc_new wz _, OwnI.kept hq hbw⟩, hbw⟩
          unfold execOp
          generalize fr.eval = ev at e1 ⊢
          simp [go_sem, e1]
        | j' + 5, hj' => exact absurd hj' (by omega)
      case hdone =>
        intro vs w6 hinv hf
        have h1 : vs 1 = .slice ya j yc := hf 1 (by decide)
        obtain ⟨gq, qa2, qc2, h5, hgq, hrq, oq⟩ : ∃ g a c, vs 4 = .slice (some ⟨g, 0, none⟩) 1 1 ∧ w5.heap.size ≤ g ∧ w6.heap[g]? = some (.cells (od.c (.slice a od.n c)) 35 (0, 0)) ∧ OwnI w5.heap.size 24 w6 (.slice a od.n c) od.n od.F := hf 4 (by decide)
        simp only [fxF, fxT, if_true, List.drop_succ_cons, List.drop_zero, List.getElem?_toArray, List.getElem?_cons_zero, List.getElem?_cons_succ, Option.bind_some]
        rw [h1, h5]
        clear hf h1 h5
        generalize vs 0 = z0 at *
        generalize vs 2 = z2 at *
        generalize vs 3 = z3 at *
        have x2 := OwnP.kept tO.out hinv
        have hap := fun ty => ownP_push w.heap.size gq r (.slice ya j yc) (.slice qa2 od.n qc2) (L.take j) od w6 ty x2 (by rw [hlj.out]; have := hm'.out; have := hjl.out; omega) (Nat.le_trans tB.out.size hinv.size) hrq oq.rd (offB_own oq v6.out) (tyI_own oq tB.out.size) (by simp [Od.c, Value.oneCell'])
        rw [hlj.out, ← htk.out] at hap
        obtain ⟨na, nc, w7, hrun, p1, p2⟩ := hap 22
        have y3 := rowB t3.out hinv (Array.getElem?_eq_some_iff.1 t3.out).1
        have y2 := rowB t2.out hinv (Array.getElem?_eq_some_iff.1 t2.out).1
        have y1 : OwnI w.heap.size 24 w6 (.slice qa n qc) n F := OwnI.kept tI.out hinv
        obtain ⟨xs, k1, _, _⟩ := x2
        have x3 := Lib.hid (grown_rowG p2 y3 (own_row_ne k1 y3 (by decide)))
        have x2 := Lib.hid (grown_rowG p2 y2 (own_row_ne k1 y2 (by decide)))
        have x1 := Lib.hid (show OwnI w.heap.size 24 w7 (.slice qa n qc) n F from World.ownsRow.kept y1 p2 (ownNeT y1 k1 (by decide)))
        have xO := Lib.hid p1
        have xB := Lib.hid (show Below w.heap.size w w7 from (tB.out.trans (hinv.mono tB.out.size)).trans (Below.grown (Below.refl w.heap.size w6) p2 (Nat.le_trans tB.out.size hinv.size) (fun k hk => (World.ownsRow.lt k1 k hk).1)))
        have c3 : w7.cell? ⟨g3, 1, none⟩ = some (.slice ya j yc) := by rw [cell_of_row _ _ _ _ _ _ x3.out]; rfl
        have f3 : w7.frozen? ⟨g3, 1, none⟩ = false := frozen_of_row _ _ _ _ _ x3.out
        have l3 : g3 < w7.heap.size := (Array.getElem?_eq_some_iff.1 x3.out).1
        clear y3 y2 y1 k1 hinv hrq oq hgq p1 p2 t3 t2 tO tI tB yp u5 v6 hap
        go_upto_region 6 with (at_builtin; refine Lib.wpList_append_run _ rfl _ _ 22 22 rfl _ _ rfl rfl _ _ hrun ?_)
        clear c3 f3 l3
        obtain ⟨w8, hw8⟩ : ∃ X, X = w7.setCell ⟨g3, 1, none⟩ (.slice na (j + 1) nc) := ⟨_, rfl⟩
        rw [← hw8]
        have bc := but_cell w7 g3 1 (.slice na (j + 1) nc)
        rw [← hw8] at bc
        have e3 := Lib.hid (show w8.heap[g3]? = some (.cells (gC (.slice qa n qc) (.slice na (j + 1) nc)) 41 (0, 0)) by rw [hw8]; exact setCell_row x3.out 1 _)
        have e2 := Lib.hid (grown_rowG bc x2.out (by have := g3w.out; have := hg2'.out; have := g3g.out; simp; omega))
        have e1 := Lib.hid (show OwnI w.heap.size 24 w8 (.slice qa n qc) n F from World.ownsRow.kept x1.out bc (.inr fun e => own_row_ne x1.out x3.out (by decide) e.symm))
        have eO := Lib.hid (xO.out.other x3.out (by decide) (by decide) bc)
        have eB := Lib.hid (show Below w.heap.size w w8 by rw [hw8]; exact Below.setCell xB.out (p := (⟨g3, 1, none⟩ : Addr)) g3w.out _)
        clear hw8 bc x1 x2 x3 xO xB
        have hw1 : IntKind.i64.wrap ((j : Int) + 1) = ((j + 1 : Nat) : Int) := by have := hjl.out; have := hm'.out; rw [IntWalk.i64_in _ (by omega)]; omega
        go_wp2
        go_roundw
        case rel => exact ⟨j + 1, na, nc, by have := hjl.out; omega, by go_num, e3.out, e2.out, eO.out, e1.out, eB.out⟩
        case measure => simp [intOf]; have := hjl.out; omega
    · obtain rfl : m = j := by omega
      clear hlt hj
      have zO := tO.out
      rw [List.take_of_length_le (by rw [hmm'.out]; exact Nat.le_refl _)] at zO
      have zO' := Lib.hid zO
      clear zO tO
      go_wp2_with (first | (refine wpList_load_row_g rfl 41 _ rfl g3 rfl 41 (gC (.slice qa n qc) (.slice ya m yc)) (0, 0) _ t3.out Tryz.underlying41 rfl (by kernel_rfl) ?_) | (refine wpList_store_row rfl 41 _ _ rfl g2 (gC (.slice qa n qc) (.slice ya m yc)) rfl rfl 41 _ t2.out (by kernel_rfl) rfl (by simp [Value.oneCell']) ?_))
      have bs := but_setRowG wr g2 (gC (.slice qa n qc) (.slice ya m yc))
      exact bodyPost_ret (results_cell_row rfl _ _ g2 41 _ _ _ rfl (setRow_heap _ _ _ _ _ _ t2.out) Tryz.underlying41 rfl (by kernel_rfl)) rfl ⟨_, _, rfl, World.ownsRow.kept tI.out bs (.inr fun e => own_row_ne tI.out t2.out (by decide) e.symm), by rw [← hr'.out]; exact zO'.out.other t2.out (by decide) (by decide) bs, below_setRow' tB.out (by have := hg2'.out; omega) _⟩
end Go.Proofs.YtlbgffhipondiaaGreatDoor.wir.val
namespace Go
namespace YtlbgffhipondiaaGreatDoor
set_option linter.unusedVariables false
section
variable {P : Program} {ops : Array Oper} {md : Region.Mode} {Q : Exit → Act → World → Prop}
/-- Behind the operation i, another one than i that uses j may come, or the end uses it. -/
def fxNeed (n : Nat) (A U : List (List Nat)) (Uf : List Nat) (i j : Nat) : Bool := Uf.contains j || (List.range n).any fun k => decide (k ≠ i) && !(A.getD i []).contains k && (U.getD k []).contains j
def fxLive (n : Nat) (U : List (List Nat)) (Uf : List Nat) (listed : Array Bool) (j : Nat) : Prop := j ∈ Uf ∨ ∃ k, k < n ∧ listed.getD k false = false ∧ j ∈ U.getD k []
def fxUses (n : Nat) (A U : List (List Nat)) : Bool := (List.range n).all fun k => (U.getD k []).all fun j => (A.getD k []).contains j
theorem fxUses_mem {n : Nat} {A U : List (List Nat)} (h : fxUses n A U = true) {i j : Nat} (hi : i < n) (hj : j ∈ U.getD i []) : j ∈ A.getD i [] := by
  have h1 := List.all_eq_true.1 (List.all_eq_true.1 h i (List.mem_range.2 hi)) j hj
  simpa using h1
section
variable {n : Nat} {A : List (List Nat)} {Ψ : Nat → World → Prop} {Φ : Nat → (Nat → Value) → World → Prop} {G : Nat → World → World → Prop} {Inv : World → Prop} {a0 : Act}
theorem fx_anyU {U : List (List Nat)} {Uf : List Nat} (hB : FxOk ops n A) (hU : fxUses n A U = true) (hI : ∀ i w w', i < n → Inv w → G i w w' → Inv w')
    (hC : ∀ j vs vs' w, j < n → (∀ k, k = j ∨ k ∈ A.getD j [] → vs k = vs' k) → Φ j vs w → Φ j vs' w)
    (hG : ∀ i j vs w w', i < n → j < n → fxAfter A i j = true → fxNeed n A U Uf i j = true → Inv w → Φ j vs w → G i w w' → Φ j vs w')
    (hP : ∀ i j w w', i < n → j < n → fxBefore A i j = true → Inv w → Ψ j w → G i w w' → Ψ j w')
    (hstep : ∀ i o vs w, i < n → ops[i]? = some o → Inv w → Ψ i w → (∀ j, j ∈ U.getD i [] → Φ j vs w) → FxStep P ops o (fxF ops vs fxT a0 i) w fun v w' => Φ i (fun j => if j = i then v else vs j) w' ∧ G i w w')
    (hdone : ∀ vs w, Inv w → (∀ j, j < n → j ∈ Uf → Φ j vs w) → wpList P ops Q (ops.toList.drop n) (fxF ops vs fxT a0 n) w) :
    ∀ (d : Nat) (listed : Array Bool) (vs : Nat → Value) (w : World), Closed .any ops listed → (∀ j, n ≤ j → j < ops.size → listed.getD j false = false) → fxLeft listed n = d → Inv w → (∀ j, j < n → listed.getD j false = false → Ψ j w) →
      (∀ j, j < n → listed.getD j false = true → fxLive n U Uf listed j → Φ j vs w) → wpAny P .any ops Q (d + (ops.size - n)) listed (fxF ops vs (fun j => listed.getD j false) a0 n) w := by
  intro d
  induction d with
  | zero =>
    intro listed vs w cl hout hleft hinv hpre hf
    have hall := fxLeft_zero hleft
    have hL : listed = (Array.replicate n true) ++ (Array.replicate (ops.size - n) false) := by
      refine Array.ext (by rw [cl.1]; have := hB.le; simp; omega) fun j hj1 hj2 => ?_
      have e : listed.getD j false = listed[j] := by simp [Array.getD, hj1]
      rw [← e]
      by_cases hjn : j < n
      · rw [hall j hjn, Array.getElem_append_left (by simpa using hjn)]; simp
      · rw [hout j (by omega) (by rw [← cl.1]; exact hj1), Array.getElem_append_right (by simpa using hjn)]; simp
    have hfr : fxF ops vs (fun j => listed.getD j false) a0 n = fxF ops vs fxT a0 n := fxF_agree _ _ _ _ _ _ fun j hj => ⟨hall j hj, fun _ => rfl⟩
    rw [hfr, Nat.zero_add]
    have hlen : (ops.toList.drop n).length = ops.size - n := by simp
    have h := wpAny_of_seq (P := P) (ops := ops) (md := .any) (Q' := Q) (ops.toList.drop n) n listed (fxF ops vs fxT a0 n) w (fun j => by simp [List.getElem?_drop]) (by rw [hlen, hL]; exact hB.seq) (hdone vs w hinv fun j hj hu => hf j hj (hall j hj) (.inl hu))
    rwa [hlen] at h
  | succ d ih =>
    intro listed vs w cl hout hleft hinv hpre hf
    rw [show d + 1 + (ops.size - n) = (d + (ops.size - n)) + 1 by omega]
    refine ⟨fun hnil => ?_, fun i hi => ?_⟩
    · exfalso
      obtain ⟨j, hj, hju⟩ := fxLeft_pos (listed := listed) (n := n) (by omega)
      have hex : ∃ j, j ∈ Region.ready .any ops listed := by
        clear hnil
        induction j using Nat.strongRecOn with
        | _ j jh =>
          have hlt : j < ops.size := Nat.lt_of_lt_of_le hj hB.le
          by_cases ha : ∀ e ∈ ops[j].after, Region.binds .any e = true → listed.getD e.on false = true
          · refine ⟨j, mem_ready.2 ⟨?_, _, Array.getElem?_eq_getElem hlt, ha⟩⟩
            have hjs : j < listed.size := by rw [cl.1]; exact hlt
            simp [Array.getD, hjs] at hju ⊢
            exact hju
          · obtain ⟨e, he⟩ := Classical.not_forall.1 ha
            obtain ⟨he1, he2⟩ := Classical.not_imp.1 he
            obtain ⟨hb, hu⟩ := Classical.not_imp.1 he2
            have hon := hB.aft j _ (Array.getElem?_eq_getElem hlt) e he1 hb
            exact jh e.on hon (by omega) (by simpa using hu)
      obtain ⟨j', hj'⟩ := hex
      rw [hnil] at hj'; cases hj'
    · obtain ⟨hiu, o, ho, hall⟩ := mem_ready.1 hi
      have his : i < ops.size := (Array.getElem?_eq_some_iff.1 ho).1
      have hils : i < listed.size := by rw [cl.1]; exact his
      have hif : listed.getD i false = false := by simp [Array.getD, hils] at hiu ⊢; exact hiu
      have hanc := anc_listed hB cl i o ho hall
      rcases Nat.lt_or_ge i n with hin | hin
      · have hlk : ∀ t, t ∈ o.looksAt ops → (fxF ops vs (fun j => listed.getD j false) a0 n).tmps[t]? = (fxF ops vs fxT a0 i).tmps[t]? := fun t ht =>
          fxF_look vs _ a0 n i (Nat.le_of_lt hin) t fun j hj hd => by
            rcases hB.look i o j t hin hj ho hd ht with ⟨h1, h2⟩ | ⟨h1, h2⟩ | h1
            · exact ⟨fun _ => hanc j h2, fun h => by omega⟩
            · refine ⟨fun h => by omega, fun _ => ?_⟩
              cases hb : listed.getD j false with
              | false => rfl
              | true =>
                have hjs : j < ops.size := Nat.lt_of_lt_of_le hj hB.le
                have := anc_listed hB cl j _ (Array.getElem?_eq_getElem hjs) (fun e he hb2 => cl.2 j _ (Array.getElem?_eq_getElem hjs) hb e he hb2) i h2
                rw [hif] at this; cases this
            · subst h1; exact ⟨fun h => by omega, fun _ => hif⟩
        have hsel : ∀ cs b, o.op ≠ .select cs b := fun cs b => Region.noSelect_spec hB.sel i o cs b ho
        have hst := hstep i o vs w hin ho hinv (hpre i hin hif) fun j hj => (have hja := fxUses_mem hU hin hj; hf j (by have := (hB.anc i o ho j hja).1; omega) (hanc j hja) (.inr ⟨i, hin, hif, hj⟩))
        rw [← fx_same hsel _ _ hlk] at hst
        refine fx_wpOp ho hst fun v w' ⟨hΦ, hg⟩ => ?_
        have hdd : o.dst = (ops[i]?).bind (·.dst) := by rw [ho]; rfl
        have hfp := fxF_put (ops := ops) vs (fun j => listed.getD j false) a0 n i v hin hif fun k hk hkn hLk d' hd' hd2 => by
          have hks : k < ops.size := Nat.lt_of_lt_of_le hkn hB.le
          rw [ho] at hd'
          have h2 := hB.dst i o k d' hin hkn ho hd2 hd' hk
          have := anc_listed hB cl k _ (Array.getElem?_eq_getElem hks) (fun e he hb2 => cl.2 k _ (Array.getElem?_eq_getElem hks) hLk e he hb2) i h2
          rw [hif] at this; cases this
        rw [hdd, hfp]
        have hfr : fxF ops (fun j => if j = i then v else vs j) (fun j => if j = i then true else listed.getD j false) a0 n = fxF ops (fun j => if j = i then v else vs j) (fun j => (listed.setIfInBounds i true).getD j false) a0 n := fxF_agree _ _ _ _ _ _ fun j hj => by
          refine ⟨?_, fun _ => rfl⟩
          by_cases e : j = i
          · subst e; simp [hils]
          · rw [if_neg e, getD_set_ne false (fun h => e h.symm)]
        rw [hfr]
        refine ih _ _ _ (cl.set hi) (fun j h1 h2 => ?_) ?_ (hI i w w' hin hinv hg) (fun j hj hjl => ?_) fun j hj hjl hlv => ?_
        · rw [getD_set_ne false (by omega)]; exact hout j h1 h2
        · have := fxLeft_set hin hils hif; omega
        · by_cases e : j = i
          · subst e; simp [hils] at hjl
          · rw [getD_set_ne false (fun h => e h.symm)] at hjl
            refine hP i j w w' hin hj ?_ hinv (hpre j hj hjl) hg
            unfold fxBefore
            have hni : j ∉ A.getD i [] := fun hm => by rw [hanc j hm] at hjl; cases hjl
            rw [Bool.and_eq_true, decide_eq_true_eq]
            exact ⟨fun h => e h.symm, by simpa using hni⟩
        · by_cases e : j = i
          · subst e; exact hΦ
          · rw [getD_set_ne false (fun h => e h.symm)] at hjl
            have hlv2 : fxLive n U Uf listed j ∧ fxNeed n A U Uf i j = true := by
              rcases hlv with h | ⟨k, hk, hkl, hku⟩
              · exact ⟨.inl h, by unfold fxNeed; simp [h]⟩
              · have hki : k ≠ i := fun h => by subst h; simp [hils] at hkl
                rw [getD_set_ne false (fun h => hki h.symm)] at hkl
                refine ⟨.inr ⟨k, hk, hkl, hku⟩, ?_⟩
                unfold fxNeed
                rw [Bool.or_eq_true, List.any_eq_true]
                refine .inr ⟨k, List.mem_range.2 hk, ?_⟩
                have hnk : k ∉ A.getD i [] := fun hm => by rw [hanc k hm] at hkl; cases hkl
                rw [Bool.and_eq_true, Bool.and_eq_true, decide_eq_true_eq]
                exact ⟨⟨hki, by simpa using hnk⟩, by simpa using hku⟩
            have hjs : j < ops.size := Nat.lt_of_lt_of_le hj hB.le
            have hni : i ∉ A.getD j [] := fun hm => by
              have := anc_listed hB cl j _ (Array.getElem?_eq_getElem hjs) (fun e he hb2 => cl.2 j _ (Array.getElem?_eq_getElem hjs) hjl e he hb2) i hm
              rw [hif] at this; cases this
            refine hC j vs _ w' hj (fun k hk => ?_) (hG i j vs w w' hin hj ?_ hlv2.2 hinv (hf j hj hjl hlv2.1) hg)
            · have hki : k ≠ i := by
                rcases hk with rfl | hk
                · exact e
                · exact fun h => hni (h ▸ hk)
              simp only [if_neg hki]
            · unfold fxAfter
              rw [Bool.and_eq_true, decide_eq_true_eq]
              exact ⟨fun h => e h.symm, by simpa using hni⟩
      · exfalso
        obtain ⟨j, hj, hju⟩ := fxLeft_pos (listed := listed) (n := n) (by omega)
        have := hanc j (hB.tail i hin his j hj)
        rw [hju] at this; cases this
/-- **A region that draws its order**, its facts used up: one fact for each of its first n operations, kept by all that may come behind it and ahead of one that uses it; what comes behind them is walked as' a list. -/
theorem wp_region_fxu {id : Nat} {w : World} {l : List Oper} (n : Nat) (A U : List (List Nat)) (Uf : List Nat) (hm : P.follows .mixedOrders = true) (hB : fxB l.toArray n A = true) (hU : fxUses n A U = true)
    (Φ : Nat → (Nat → Value) → World → Prop) (G : Nat → World → World → Prop) (Inv : World → Prop) (Ψ : Nat → World → Prop) (h0 : Inv { w with drawn := w.drawn + 1 }) (hp0 : ∀ j, j < n → Ψ j { w with drawn := w.drawn + 1 })
    (hI : ∀ i w w', i < n → Inv w → G i w w' → Inv w')
    (hC : ∀ j vs vs' w, j < n → (∀ k, k = j ∨ k ∈ A.getD j [] → vs k = vs' k) → Φ j vs w → Φ j vs' w)
    (hG : ∀ i j vs w w', i < n → j < n → fxAfter A i j = true → fxNeed n A U Uf i j = true → Inv w → Φ j vs w → G i w w' → Φ j vs w')
    (hP : ∀ i j w w', i < n → j < n → fxBefore A i j = true → Inv w → Ψ j w → G i w w' → Ψ j w')
    (hstep : ∀ i o vs w, i < n → l.toArray[i]? = some o → Inv w → Ψ i w → (∀ j, j ∈ U.getD i [] → Φ j vs w) → FxStep P l.toArray o (fxF l.toArray vs fxT a0 i) w fun v w' => Φ i (fun j => if j = i then v else vs j) w' ∧ G i w w')
    (hdone : ∀ vs w, Inv w → (∀ j, j < n → j ∈ Uf → Φ j vs w) → wpList P l.toArray Q (l.drop n) (fxF l.toArray vs fxT a0 n) w) : (Code.region id l.toArray true).wp P Q a0 w := by
  have hk := fxB_ok hB
  have cl0 : Closed .any l.toArray (Array.replicate l.toArray.size false) := ⟨by simp, fun j oj _ hl => (by rw [getD_replicate_false] at hl; cases hl)⟩
  have hl0 : fxLeft (Array.replicate l.toArray.size false) n = n := by
    unfold fxLeft
    rw [List.filter_eq_self.2 (fun j _ => by rw [getD_replicate_false]; rfl), List.length_range]
  have h := fx_anyU (U := U) (Uf := Uf) (a0 := a0) hk hU hI hC hG hP hstep (fun vs w h1 h2 => by simpa using hdone vs w h1 h2) n (Array.replicate l.toArray.size false) (fun _ => undef) { w with drawn := w.drawn + 1 } cl0 (fun j _ _ => getD_replicate_false _ _) hl0 h0 (fun j hj _ => hp0 j hj) (fun j _ hl _ => by rw [getD_replicate_false] at hl; cases hl)
  have hfr : fxF l.toArray (fun _ => undef) (fun j => (Array.replicate l.toArray.size false).getD j false) a0 n = a0 := by
    have : ∀ k, fxF l.toArray (fun _ => undef) (fun j => (Array.replicate l.toArray.size false).getD j false) a0 k = a0 := by
      intro k
      induction k with
      | zero => rfl
      | succ k ih =>
        show (if (Array.replicate l.toArray.size false).getD k false = true then _ else _) = a0
        rw [getD_replicate_false, if_neg (by decide)]; exact ih
    exact this n
  rw [hfr, show n + (l.toArray.size - n) = l.toArray.size by have := hk.le; omega] at h
  exact wp_region_any hm h
end
theorem fxu_store {o : Oper} {a : Act} {w : World} {R : Value → World → Prop} (ty : TypeId) (x y : Operand) (hg : o.guard = none) (ho : o.op = .store ty x y)
    (g : Nat) (cells : Array Value) (hx : a.eval x = .pointer (some ⟨g, 0, none⟩)) (hy : a.eval y = .agg cells) (t : TypeId) (old : Array Value) (hr : w.heap[g]? = some (.cells old t (0, 0))) (hi : (P.info? ty).map (·.size) = some cells.size)
    (hold : old.size = cells.size) (h1 : cells.all (·.oneCell') = true) (hR : R undef (w.setRow g cells)) : FxStep P ops o a w R := by
  unfold FxStep
  rw [if_pos (by simp [Region.wanted, hg])]
  unfold execOp
  simp only [ho, hx, hy, Instr.storeAt, Instr.sureAddr, Sem.run_bind, Sem.run_pure, Result.andThen_ok, run_storeVar_row w g t ty old cells hr hi hold h1]
  exact hR
end
end YtlbgffhipondiaaGreatDoor
end Go

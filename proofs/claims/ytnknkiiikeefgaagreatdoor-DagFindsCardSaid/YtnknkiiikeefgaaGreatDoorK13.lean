/- Layer 6: the reference's reading of operations: its parts. Layer 6: the reference's reading of operations: numbers, acts. Layer 6: the reference's Decode. -/
import Derived.Test.YtnknkiiikeefgaaGreatDoorK07
import Derived.Test.YtnknkiiikeefgaaGreatDoorV23
namespace Go.Proofs.YtnknkiiikeefgaaGreatDoor.wir.val
open Go.RowKit Go.YtnknkiiikeefgaaGreatDoor
set_option linter.unusedVariables false
theorem sliceK {w : World} {a : Option Addr} {n c : Nat} {l : List Int} (h : RdB w (.slice a n c) l) (hn : l.length = n) (u : Nat) (hu : u ≤ n) :
    ∃ a', sliced a u n c 1 = .slice a' (l.drop u).length (c - u) ∧ RdB w (.slice a' (l.drop u).length (c - u)) (l.drop u) := by
  have hd : (l.drop u).length = n - u := by simp [hn]
  have hq := restK h hn u hu
  unfold sliced
  rw [hd]
  by_cases hc : c = u
  · rw [if_pos hc]
    exact ⟨a, rfl, hq.1 (by omega)⟩
  · rw [if_neg hc]
    rcases h with ⟨a', c', he, hz, rfl⟩ | ⟨b, o, c', he, h1, h2, h3, h4⟩
    · obtain rfl : n = 0 := by injection he
      obtain rfl : u = 0 := by omega
      refine ⟨_, rfl, ?_⟩
      injection he with e1 e2 e3
      subst e1 e3
      exact .inl ⟨_, _, rfl, (fun h => by
        cases a with
        | none => have := hz rfl; omega
        | some A => cases h), rfl⟩
    · injection he with e1 e2 e3
      subst e1
      refine ⟨_, rfl, ?_⟩
      have h2 := hq.2 b o rfl
      rw [Option.map_some, addr_add, Nat.mul_one]
      exact h2
theorem wpList_cut {P : Program} {ops : Array Oper} {rest : List Oper} {o : Oper} {a : Act} {w : World} {Q : Exit → Act → World → Prop} (hw : Region.wanted o (yielded ops a.tmps) = true) (t : TypeId) (x y : Operand) (ho : o.op = .slice t x (some y) none none)
    (ht : P.underlying t = some (.slice (P.elem t))) (hs : (P.info? (P.elem t)).map (·.size) = some 1) (W0 : World) (l : List Int) (b : Option Addr) (n c : Nat) (hx : a.eval x = .slice b n c) (hr : RdB W0 (.slice b n c) l) (hn : l.length = n) (u : Nat) (hy : a.eval y = .int .i64 (u : Int)) (hu : u ≤ n) (l' : List Int) (M : Nat) (hd : l.drop u = l') (hM : l'.length = M)
    (h : ∀ b' c', RdB W0 (.slice b' M c') l' → wpList P ops Q rest (a.put o.dst (.slice b' M c')) w) : wpList P ops Q (o :: rest) a w :=
  wpList_step fun K hK => by
    subst hM
    subst hd
    rw [if_pos hw]
    obtain ⟨b', e1, e2⟩ := sliceK hr hn u hu
    have hl := run_slice_l (P := P) (w := w) t b n c ht .i64 (u : Int) (by omega) (by omega)
    have hsz : (sizeOf (P.elem t)).run P w = .ok 1 w := by
      cases hi : P.info? (P.elem t) with
      | none => rw [hi] at hs; cases hs
      | some i =>
        rw [hi] at hs
        have : i.size = 1 := by simpa using hs
        simp [sizeOf, typeInfo, hi, this]
    rw [hsz] at hl
    simp only [Result.andThen_ok, Int.toNat_natCast] at hl
    rw [e1] at hl
    unfold Oper.wp execOp
    simp only [ho, hx, Option.map_some, Option.map_none, hy]
    simp only [Sem.run_bind, run_sliceAt_slice (P := P) (w := w) t _ _ _ _ ht, hl, Sem.run_pure, Result.andThen_ok]
    exact hK _ _ (h b' _ e2)
end Go.Proofs.YtnknkiiikeefgaaGreatDoor.wir.val
namespace Go.Proofs.YtnknkiiikeefgaaGreatDoor.wir.val
open Go.RowKit Go.YtnknkiiikeefgaaGreatDoor
set_option linter.unusedVariables false
theorem qa_cut {P : Program} {C : World → Prop} {o : Oper} {a : Act} (t : TypeId) (x y : Operand) (ho : o.op = .slice t x (some y) none none)
    (ht : P.underlying t = some (.slice (P.elem t))) (hs : (P.info? (P.elem t)).map (·.size) = some 1) (b : Option Addr) (n c : Nat) (hx : a.eval x = .slice b n c) (u : Nat) (hy : a.eval y = .int .i64 (u : Int)) (hu : u ≤ n) (v : Value) (hv : sliced b u n c 1 = v) : ∀ w, C w → o.quietAt P a C w v := by
  intro w _
  refine qa_ok ?_
  have hl := run_slice_l (P := P) (w := w) t b n c ht .i64 (u : Int) (by omega) (by omega)
  have hsz : (sizeOf (P.elem t)).run P w = .ok 1 w := by
    cases hi : P.info? (P.elem t) with
    | none => rw [hi] at hs; cases hs
    | some i =>
      rw [hi] at hs
      have : i.size = 1 := by simpa using hs
      simp [sizeOf, typeInfo, hi, this]
  rw [hsz] at hl
  simp only [Result.andThen_ok, Int.toNat_natCast] at hl
  rw [hv] at hl
  unfold execOp
  simp only [ho, hx, Option.map_some, Option.map_none, hy]
  simp only [Sem.run_bind, run_sliceAt_slice (P := P) (w := w) t _ _ _ _ ht, hl, Sem.run_pure, Result.andThen_ok]
end Go.Proofs.YtnknkiiikeefgaaGreatDoor.wir.val
namespace Go.Proofs.YtnknkiiikeefgaaGreatDoor.wir.val
open Go.RowKit Go.YtnknkiiikeefgaaGreatDoor
set_option linter.unusedVariables false
theorem heldI_nw {B : Nat} {w : World} {v : Value} {n : Nat} {F : List Int} (h : HeldI B w v n F) : RdI w v n F := h w (fun _ _ _ => rfl) (Nat.le_refl _)
theorem rowA0 (w : World) (A B : Obj) : ((w.alloc A).alloc B).heap[w.heap.size]? = some A := rowB (heap_alloc_new w A) (below_a _ _) (by simp)
/-- The parts behind the mark. -/
theorem rOp_eq {l : List Int} (h0 : ¬ l.length = 0) (h1 : ith l 0 = 111) : rOp l = (match rSmall (l.drop 1) with
    | none => none
    | some a => match rIds a.2 with
      | none => none
      | some i => match rNum i.2 with
        | none => none
        | some t => match rAct t.2 with
          | none => none
          | some c => match rSmall c.2 with
            | none => none
            | some x => match rSmall x.2 with
              | none => none
              | some y => some (⟨a.1, i.1.1, i.1.2, t.1, c.1.k, c.1.key, c.1.v, x.1, y.1⟩, y.2)) := by
  unfold rOp; rw [if_neg h0, if_pos h1]; rfl
theorem decP_no {w w' : World} {l : List Int} (h : decO l = none) (hb : Below w.heap.size w w') : decPost w l (.returned (.tuple #[.agg (zO.c (.slice none 0 0)), .int .i64 12])) w' := ⟨hb, .inl ⟨h, rfl⟩⟩
end Go.Proofs.YtnknkiiikeefgaaGreatDoor.wir.val

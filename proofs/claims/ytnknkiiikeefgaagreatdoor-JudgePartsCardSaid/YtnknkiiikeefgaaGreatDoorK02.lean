/- Layer 6: operations are read from bytes: what is read, and the reader's parts. -/
import Derived.Test.YtnknkiiikeefgaaGreatDoorV17
import Derived.Test.YtnknkiiikeefgaaGreatDoorI01
import Derived.Test.YtnknkiiikeefgaaGreatDoorQ04
import Derived.Test.YtnknkiiikeefgaaGreatDoorLH
namespace Go.Proofs.YtnknkiiikeefgaaGreatDoor.wir.val
open Go.RowKit Go.YtnknkiiikeefgaaGreatDoor
set_option linter.unusedVariables false
def rNum (l : List Int) : Option (Nat × List Int) := match readF l with
  | none => none
  | some p => some (p.1, l.drop p.2)
def rSmall (l : List Int) : Option (Nat × List Int) := match rNum l with
  | none => none
  | some p => if 4294967295 < p.1 then none else some p
def rIds (l : List Int) : Option ((Nat × List Int) × List Int) := match readC l 4 32 with
  | none => none
  | some p => if riseF ((l.drop p.2).take (p.1 * 32)) p.1 = true then some ((p.1, (l.drop p.2).take (p.1 * 32)), l.drop (p.2 + p.1 * 32)) else none
def rKey (l : List Int) : Option (ByteArray × List Int) := match readC l 20 1 with
  | none => none
  | some p => some (toS ((l.drop p.2).take p.1), l.drop (p.2 + p.1))
def rVal (l : List Int) : Option (Va × List Int) := match decF l with
  | none => none
  | some p => some (p.1, l.drop p.2)
/-- An act: its kind, its key, its value. -/
structure Ac where
  k : Int
  key : ByteArray
  v : Va
def rAct (l : List Int) : Option (Ac × List Int) :=
  if l.length = 0 then none
  else if ith l 0 = 1 then some (⟨ith l 0, ⟨#[]⟩, ⟨0, 0, 0, ⟨#[]⟩⟩⟩, l.drop 1)
  else match rKey (l.drop 1) with
    | none => none
    | some p => if ith l 0 = 4 then (match rVal p.2 with
        | none => none
        | some q => some (⟨ith l 0, p.1, q.1⟩, q.2))
      else some (⟨ith l 0, p.1, ⟨0, 0, 0, ⟨#[]⟩⟩⟩, p.2)
def rOp (l : List Int) : Option (Od × List Int) :=
  if l.length = 0 then none
  else if ith l 0 = 111 then
    match rSmall (l.drop 1) with
    | none => none
    | some a => match rIds a.2 with
      | none => none
      | some i => match rNum i.2 with
        | none => none
        | some t => match rAct t.2 with
          | none => none
          | some c => match rSmall c.2 with
            | none => none
            | some x => match rSmall x.2 with
              | none => none
              | some y => some (⟨a.1, i.1.1, i.1.2, t.1, c.1.k, c.1.key, c.1.v, x.1, y.1⟩, y.2)
  else none
/-- The operation that has just these bytes. -/
def decO (l : List Int) : Option Od := match rOp l with
  | none => none
  | some p => if p.2.length = 0 ∧ chkO p.1 = 0 then some p.1 else none
def rNext (l : List Int) : Option (Int × List Int) := if l.length = 0 then none else some (ith l 0, l.drop 1)
theorem but_trans {w1 w2 w3 : World} {r : Option Nat} (h : w1.grownBy w2 r) (k : w2.grownBy w3 r) : w1.grownBy w3 r :=
  ⟨k.os.trans h.os, k.tape.trans h.tape, k.output.trans h.output, Nat.le_trans h.size k.size, fun i hi hn => (k.block i (Nat.lt_of_lt_of_le hi h.size) hn).trans (h.block i hi hn)⟩
theorem but_of {w w' : World} {r : Option Nat} (h : Below w.heap.size w w') : w.grownBy w' r := ⟨h.os, h.tape, h.output, h.size, fun i hi _ => h.block i hi⟩
theorem but_cell (w : World) (g i : Nat) (v : Value) : w.grownBy (w.setCell ⟨g, i, none⟩ v) (some g) :=
  ⟨rfl, rfl, rfl, by simp [World.setCell], fun k _ hn => Below.heap_setCell _ _ _ _ (fun e => hn (by rw [e]))⟩
/-- A reader in block g: what it has left reads as l; has it failed? -/
structure St (W0 : World) (g : Nat) (w : World) (l : List Int) (fl : Bool) : Prop where
  b : Below W0.heap.size W0 w
  ge : W0.heap.size ≤ g
  row : ∃ a c, RdB W0 (.slice a l.length c) l ∧ w.heap[g]? = some (.cells #[.slice a l.length c, .bool fl] 122 (0, 0))
theorem St.kept {W0 w w' : World} {g : Nat} {l : List Int} {fl : Bool} (h : St W0 g w l fl) (k : Below w.heap.size w w') : St W0 g w' l fl := by
  obtain ⟨hb, hg, a, c, hr, hrow⟩ := h
  exact ⟨hb.trans (k.mono hb.size), hg, a, c, hr, rowB hrow k (Array.getElem?_eq_some_iff.1 hrow).1⟩
theorem St.fail {W0 w : World} {g : Nat} {l : List Int} {fl : Bool} (h : St W0 g w l fl) : St W0 g (w.setCell ⟨g, 1, none⟩ (.bool true)) l true := by
  obtain ⟨hb, hg, a, c, hr, hrow⟩ := h
  exact ⟨hb.setCell hg _, hg, a, c, hr, setCell_row hrow 1 _⟩
theorem St.put {W0 w : World} {g : Nat} {l l' : List Int} {fl : Bool} (h : St W0 g w l fl) (a' : Option Addr) (c' : Nat) (hr : RdB W0 (.slice a' l'.length c') l') : St W0 g (w.setCell ⟨g, 0, none⟩ (.slice a' l'.length c')) l' fl := by
  obtain ⟨hb, hg, a, c, _, hrow⟩ := h
  exact ⟨hb.setCell hg _, hg, a', c', hr, setCell_row hrow 0 _⟩
/-- What a part of the reader leaves: the reader behind what was read, or one that has failed. -/
def RdOut {α : Type} (W0 : World) (g : Nat) (w : World) (l : List Int) (fl : Bool) (r : Option (α × List Int)) (x : α) (w' : World) : Prop :=
  ∃ l' fl', St W0 g w' l' fl' ∧ w.grownBy w' (some g) ∧ l'.length ≤ l.length ∧ Bytes l' ∧ ((fl' = true ∧ r = none) ∨ (fl' = fl ∧ r = some (x, l')))
theorem restK {w : World} {a : Option Addr} {n c : Nat} {l : List Int} (h : RdB w (.slice a n c) l) (hn : l.length = n) (k : Nat) (hk : k ≤ n) :
    (c - k = 0 → RdB w (.slice a (n - k) (c - k)) (l.drop k)) ∧ (∀ b o, a = some ⟨b, o, none⟩ → RdB w (.slice (some ⟨b, o + k, none⟩) (n - k) (c - k)) (l.drop k)) := by
  have hd : (l.drop k).length = n - k := by simp [hn]
  rcases h with ⟨a', c', he, hc, rfl⟩ | ⟨b, o, c', he, h1, h2, h3, h4⟩
  · obtain ⟨rfl, rfl, rfl⟩ : a = a' ∧ n = 0 ∧ c = c' := by injection he with e1 e2 e3; exact ⟨e1, e2, e3⟩
    have hk0 : k = 0 := by omega
    subst hk0
    refine ⟨fun _ => .inl ⟨a, c, rfl, hc, rfl⟩, fun b o ha => .inl ⟨_, c, rfl, (fun h => by cases h), rfl⟩⟩
  · obtain ⟨rfl, _, rfl⟩ : a = some ⟨b, o, none⟩ ∧ n = l.length ∧ c = c' := by injection he with e1 e2 e3; exact ⟨e1, e2, e3⟩
    subst hn
    have hcell : ∀ i, i < (l.drop k).length → w.cell? ⟨b, o + k + i, none⟩ = some (.int .u8 (ith (l.drop k) i)) := fun i hi => by
      rw [hd] at hi
      rw [ith_drop, Nat.add_assoc]; exact h4 _ (by omega)
    refine ⟨fun hc0 => ?_, fun b' o' ha => ?_⟩
    · have e0 : l.length - k = 0 := by omega
      have e1 : l.drop k = [] := List.drop_eq_nil_of_le (by omega)
      rw [e0, e1]
      exact .inl ⟨_, _, rfl, (fun h => by cases h), rfl⟩
    · cases ha
      exact .inr ⟨b, o + k, c - k, by rw [hd], by rw [hd]; omega, by omega, h3, hcell⟩
set_option maxRecDepth 100000 in
theorem skip_bad {W0 w : World} {g : Nat} {l : List Int} {fl : Bool} (h : St W0 g w l fl) (u : Int) (x : Int) (hx : (x != 0) = true) :
    Calls Tryz.prog 156 #[.pointer (some ⟨g, 0, none⟩), .int .i64 u, .int .i64 x] w fun e w' => IsRet e ∧ St W0 g w' l true ∧ w.grownBy w' (some g) := by
  have hf := Lib.hid h.fail
  have hn := Lib.hid (but_cell w g 1 (.bool true))
  obtain ⟨hb, hg, a, c, hr, hrow⟩ := h
  have c1 : w.cell? ⟨g, 1, none⟩ = some (.bool fl) := cell_of_row _ _ _ _ _ _ hrow
  have f1 := frozen_of_row w g 1 _ _ hrow
  clear hrow hr
  go_enter Tryz.func156, Tryz.ntmps156
  go_wp2
  (try simp only [Exit.inBlock, Exit.then])
  refine bodyPost_ret (results_none rfl _ _ _) rfl ?_
  exact ⟨⟨_, rfl⟩, hf.out, hn.out⟩
set_option maxRecDepth 100000 in
theorem skip_ok {W0 w : World} {g : Nat} {l : List Int} {fl : Bool} (h : St W0 g w l fl) (u : Nat) (hu : u ≤ l.length) (hlm : l.length ≤ 1000000) :
    Calls Tryz.prog 156 #[.pointer (some ⟨g, 0, none⟩), .int .i64 (u : Int), .int .i64 0] w fun e w' => IsRet e ∧ St W0 g w' (l.drop u) fl ∧ w.grownBy w' (some g) := by
  have hp := Lib.hid (fun a' c' (hr : RdB W0 (.slice a' (l.drop u).length c') (l.drop u)) => (show St W0 g (w.setCell ⟨g, 0, none⟩ (.slice a' (l.drop u).length c')) (l.drop u) fl ∧ w.grownBy (w.setCell ⟨g, 0, none⟩ (.slice a' (l.drop u).length c')) (some g) from ⟨h.put a' c' hr, but_cell _ _ _ _⟩))
  rw [show (l.drop u).length = l.length - u from List.length_drop] at hp
  obtain ⟨hb, hg, a, c, hr, hrow⟩ := h
  have c0 : w.cell? ⟨g, 0, none⟩ = some (.slice a l.length c) := cell_of_row _ _ _ _ _ _ hrow
  have f0 := frozen_of_row w g 0 _ _ hrow
  have hq := Lib.hid (restK hr rfl u hu)
  by_cases h0 : l.length = 0
  · obtain rfl : u = 0 := by omega
    have hl0 : l = [] := List.eq_nil_of_length_eq_zero h0
    subst hl0
    have hp' := Lib.hid (fun a' c' (hz : a' = none → c' = 0) => hp.out a' c' (.inl ⟨a', c', rfl, hz, rfl⟩))
    have hz : a = none → c = 0 := by
      rcases hr with ⟨a', c', he, hc, _⟩ | ⟨b, o, c', he, _⟩
      · injection he with e1 e2 e3; subst e1 e3; exact hc
      · injection he with e1 e2 e3; subst e1; intro h; cases h
    rw [show ([] : List Int).length = 0 from rfl, show 0 - 0 = 0 from rfl] at hp'
    rw [show ([] : List Int).length = 0 from rfl] at c0
    clear hp hq hrow hr hb
    cases a with
    | none =>
      obtain rfl := hz rfl
      clear hz
      go_enter Tryz.func156, Tryz.ntmps156
      go_wp2
      go_end0
      exact ⟨⟨_, rfl⟩, hp'.out _ _ (fun _ => rfl)⟩
    | some A =>
      clear hz
      obtain ⟨b, o, q⟩ := A
      by_cases hc : c = 0
      · subst hc
        go_enter Tryz.func156, Tryz.ntmps156
        go_wp2
        go_end0
        exact ⟨⟨_, rfl⟩, hp'.out _ _ (fun h => by cases h)⟩
      · have hc1 : ¬ c - 0 = 0 := by omega
        have hc2 : (0 : Int) ≤ (c : Int) := by omega
        have hc3 : ¬ c ≤ 0 := by omega
        have hc4 : ¬ 0 = c := by omega
        go_enter Tryz.func156, Tryz.ntmps156
        go_wp2
        go_end0
        exact ⟨⟨_, rfl⟩, hp'.out _ _ (fun h => by cases h)⟩
  · rcases hr with ⟨a', c', he, hc, rfl⟩ | ⟨b, o, c', he, h1, h2, h3, h4⟩
    · simp at h0
    injection he with e1 e2 e3
    subst e1 e3
    clear e2
    have hq1 := Lib.hid (fun h => hp.out _ _ (hq.out.1 h))
    have hq2 := Lib.hid (hp.out _ _ (hq.out.2 b o rfl))
    clear hp hq hrow h3 h4 hb
    generalize l.drop u = l' at *
    generalize l.length = N at *
    have b1 : (0 : Int) ≤ (u : Int) := by omega
    have b2 : (u : Int) ≤ (N : Int) := by omega
    have b4 : (N : Int) ≤ (c : Int) := by omega
    have b5 : (u : Int) ≤ (c : Int) := by omega
    by_cases hc : c = u
    · subst hc
      have hcN : N = c := by omega
      subst hcN
      have hc0 : N - N = 0 := by omega
      have hq3 := Lib.hid (hq1.out hc0)
      clear h1 hu hq1 hq2
      rw [Nat.sub_self] at hq3
      go_enter Tryz.func156, Tryz.ntmps156
      go_wp2
      go_end0
      exact ⟨⟨_, rfl⟩, hq3.out⟩
    · have hcc2 : ¬ c - u = 0 := by omega
      have b6 : ¬ c ≤ u := by omega
      have b7 : ¬ u = c := by omega
      clear hq1
      go_enter Tryz.func156, Tryz.ntmps156
      go_wp2
      go_end0
      exact ⟨⟨_, rfl⟩, hq2.out⟩
end Go.Proofs.YtnknkiiikeefgaaGreatDoor.wir.val

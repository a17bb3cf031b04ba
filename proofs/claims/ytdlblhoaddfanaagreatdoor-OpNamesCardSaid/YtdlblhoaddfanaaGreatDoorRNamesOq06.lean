/- Texts that the row stands on, part 6. -/
import Derived.Test.YtdlblhoaddfanaaGreatDoorRNamesOq05
namespace Go.Proofs.YtdlblhoaddfanaaGreatDoor.wir.val
open Go.RowKit Go.YtdlblhoaddfanaaGreatDoor
set_option linter.unusedVariables false
def rNum (l : List Int) : Option (Nat × List Int) := match readF l with
  | none => none
  | some p => some (p.1, l.drop p.2)
def rSmall (l : List Int) : Option (Nat × List Int) := match rNum l with
  | none => none
  | some p => if 4294967295 < p.1 then none else some p
def rIds (l : List Int) : Option ((Nat × List Int) × List Int) := match readC l 4 32 with
  | none => none
  | some p => if riseF ((l.drop p.2).take (p.1 * 32)) p.1 = true then some ((p.1, (l.drop p.2).take (p.1 * 32)), l.drop (p.2 + p.1 * 32)) else none
def rKey (l : List Int) : Option (ByteArray × List Int) := match readC l 20 1 with
  | none => none
  | some p => some (toS ((l.drop p.2).take p.1), l.drop (p.2 + p.1))
def rVal (l : List Int) : Option (Va × List Int) := match decF l with
  | none => none
  | some p => some (p.1, l.drop p.2)
/-- An act: its kind, its key, its value. -/
structure Ac where
  k : Int
  key : ByteArray
  v : Va
def rAct (l : List Int) : Option (Ac × List Int) :=
  if l.length = 0 then none
  else if ith l 0 = 1 then some (⟨ith l 0, ⟨#[]⟩, ⟨0, 0, 0, ⟨#[]⟩⟩⟩, l.drop 1)
  else match rKey (l.drop 1) with
    | none => none
    | some p => if ith l 0 = 4 then (match rVal p.2 with
        | none => none
        | some q => some (⟨ith l 0, p.1, q.1⟩, q.2))
      else some (⟨ith l 0, p.1, ⟨0, 0, 0, ⟨#[]⟩⟩⟩, p.2)
def rOp (l : List Int) : Option (Od × List Int) :=
  if l.length = 0 then none
  else if ith l 0 = 111 then
    match rSmall (l.drop 1) with
    | none => none
    | some a => match rIds a.2 with
      | none => none
      | some i => match rNum i.2 with
        | none => none
        | some t => match rAct t.2 with
          | none => none
          | some c => match rSmall c.2 with
            | none => none
            | some x => match rSmall x.2 with
              | none => none
              | some y => some (⟨a.1, i.1.1, i.1.2, t.1, c.1.k, c.1.key, c.1.v, x.1, y.1⟩, y.2)
  else none
/-- The operation that has just these bytes. -/
def decO (l : List Int) : Option Od := match rOp l with
  | none => none
  | some p => if p.2.length = 0 ∧ chkO p.1 = 0 then some p.1 else none
def rNext (l : List Int) : Option (Int × List Int) := if l.length = 0 then none else some (ith l 0, l.drop 1)
theorem but_trans {w1 w2 w3 : World} {r : Option Nat} (h : w1.grownBy w2 r) (k : w2.grownBy w3 r) : w1.grownBy w3 r :=
  ⟨k.os.trans h.os, k.tape.trans h.tape, k.output.trans h.output, Nat.le_trans h.size k.size, fun i hi hn => (k.block i (Nat.lt_of_lt_of_le hi h.size) hn).trans (h.block i hi hn)⟩
theorem but_of {w w' : World} {r : Option Nat} (h : Below w.heap.size w w') : w.grownBy w' r := ⟨h.os, h.tape, h.output, h.size, fun i hi _ => h.block i hi⟩
theorem but_cell (w : World) (g i : Nat) (v : Value) : w.grownBy (w.setCell ⟨g, i, none⟩ v) (some g) :=
  ⟨rfl, rfl, rfl, by simp [World.setCell], fun k _ hn => Below.heap_setCell _ _ _ _ (fun e => hn (by rw [e]))⟩
/-- A reader in block g: what it has left reads as' l; has it failed? -/
structure St (W0 : World) (g : Nat) (w : World) (l : List Int) (fl : Bool) : Prop where
  b : Below W0.heap.size W0 w
  ge : W0.heap.size ≤ g
  row : ∃ a c, RdB W0 (.slice a l.length c) l ∧ w.heap[g]? = some (.cells #[.slice a l.length c, .bool fl] 104 (0, 0))
theorem St.kept {W0 w w' : World} {g : Nat} {l : List Int} {fl : Bool} (h : St W0 g w l fl) (k : Below w.heap.size w w') : St W0 g w' l fl := by
  obtain ⟨hb, hg, a, c, hr, hrow⟩ := h
  exact ⟨hb.trans (k.mono hb.size), hg, a, c, hr, rowB hrow k (Array.getElem?_eq_some_iff.1 hrow).1⟩
theorem St.fail {W0 w : World} {g : Nat} {l : List Int} {fl : Bool} (h : St W0 g w l fl) : St W0 g (w.setCell ⟨g, 1, none⟩ (.bool true)) l true := by
  obtain ⟨hb, hg, a, c, hr, hrow⟩ := h
  exact ⟨hb.setCell hg _, hg, a, c, hr, setCell_row hrow 1 _⟩
theorem St.put {W0 w : World} {g : Nat} {l l' : List Int} {fl : Bool} (h : St W0 g w l fl) (a' : Option Addr) (c' : Nat) (hr : RdB W0 (.slice a' l'.length c') l') : St W0 g (w.setCell ⟨g, 0, none⟩ (.slice a' l'.length c')) l' fl := by
  obtain ⟨hb, hg, a, c, _, hrow⟩ := h
  exact ⟨hb.setCell hg _, hg, a', c', hr, setCell_row hrow 0 _⟩
/-- What a part of the reader leaves: the reader behind what was read, or one that has failed. -/
def RdOut {α : Type} (W0 : World) (g : Nat) (w : World) (l : List Int) (fl : Bool) (r : Option (α × List Int)) (x : α) (w' : World) : Prop :=
  ∃ l' fl', St W0 g w' l' fl' ∧ w.grownBy w' (some g) ∧ l'.length ≤ l.length ∧ Bytes l' ∧ ((fl' = true ∧ r = none) ∨ (fl' = fl ∧ r = some (x, l')))
theorem restK {w : World} {a : Option Addr} {n c : Nat} {l : List Int} (h : RdB w (.slice a n c) l) (hn : l.length = n) (k : Nat) (hk : k ≤ n) :
    (c - k = 0 → RdB w (.slice a (n - k) (c - k)) (l.drop k)) ∧ (∀ b o, a = some ⟨b, o, none⟩ → RdB w (.slice (some ⟨b, o + k, none⟩) (n - k) (c - k)) (l.drop k)) := by
  have hd : (l.drop k).length = n - k := by simp [hn]
  rcases h with ⟨a', c', he, hc, rfl⟩ | ⟨b, o, c', he, h1, h2, h3, h4⟩
  · obtain ⟨rfl, rfl, rfl⟩ : a = a' ∧ n = 0 ∧ c = c' := by injection he with e1 e2 e3; exact ⟨e1, e2, e3⟩
    have hk0 : k = 0 := by omega
    subst hk0
    refine ⟨fun _ => .inl ⟨a, c, rfl, hc, rfl⟩, fun b o ha => .inl ⟨_, c, rfl, (fun h => by cases h), rfl⟩⟩
  · obtain ⟨rfl, _, rfl⟩ : a = some ⟨b, o, none⟩ ∧ n = l.length ∧ c = c' := by injection he with e1 e2 e3; exact ⟨e1, e2, e3⟩
    subst hn
    have hcell : ∀ i, i < (l.drop k).length → w.cell? ⟨b, o + k + i, none⟩ = some (.int .u8 (ith (l.drop k) i)) := fun i hi => by
      rw [hd] at hi
      rw [ith_drop, Nat.add_assoc]; exact h4 _ (by omega)
    refine ⟨fun hc0 => ?_, fun b' o' ha => ?_⟩
    · have e0 : l.length - k = 0 := by omega
      have e1 : l.drop k = [] := List.drop_eq_nil_of_le (by omega)
      rw [e0, e1]
      exact .inl ⟨_, _, rfl, (fun h => by cases h), rfl⟩
    · cases ha
      exact .inr ⟨b, o + k, c - k, by rw [hd], by rw [hd]; omega, by omega, h3, hcell⟩
set_option maxRecDepth 100000 in
theorem skip_bad {W0 w : World} {g : Nat} {l : List Int} {fl : Bool} (h : St W0 g w l fl) (u : Int) (x : Int) (hx : (x != 0) = true) :
    Calls Tryz.prog 142 #[.pointer (some ⟨g, 0, none⟩), .int .i64 u, .int .i64 x] w fun e w' => IsRet e ∧ St W0 g w' l true ∧ w.grownBy w' (some g) := by
  have hf := Lib.hid h.fail
  have hn := Lib.hid (but_cell w g 1 (.bool true))
  obtain ⟨hb, hg, a, c, hr, hrow⟩ := h
  have c1 : w.cell? ⟨g, 1, none⟩ = some (.bool fl) := cell_of_row _ _ _ _ _ _ hrow
  have f1 := frozen_of_row w g 1 _ _ hrow
  clear hrow hr
  go_enter Tryz.func142, Tryz.ntmps142
  go_wp2
  (try simp only [Exit.inBlock, Exit.then])
  refine bodyPost_ret (results_none rfl _ _ _) rfl ?_
  exact ⟨⟨_, rfl⟩, hf.out, hn.out⟩
set_option maxRecDepth 100000 in
theorem skip_ok {W0 w : World} {g : Nat} {l : List Int} {fl : Bool} (h : St W0 g w l fl) (u : Nat) (hu : u ≤ l.length) (hlm : l.length ≤ 1000000) :
    Calls Tryz.prog 142 #[.pointer (some ⟨g, 0, none⟩), .int .i64 (u : Int), .int .i64 0] w fun e w' => IsRet e ∧ St W0 g w' (l.drop u) fl ∧ w.grownBy w' (some g) := by
  have hp := Lib.hid (fun a' c' (hr : RdB W0 (.slice a' (l.drop u).length c') (l.drop u)) => (show St W0 g (w.setCell ⟨g, 0, none⟩ (.slice a' (l.drop u).length c')) (l.drop u) fl ∧ w.grownBy (w.setCell ⟨g, 0, none⟩ (.slice a' (l.drop u).length c')) (some g) from ⟨h.put a' c' hr, but_cell _ _ _ _⟩))
  rw [show (l.drop u).length = l.length - u from List.length_drop] at hp
  obtain ⟨hb, hg, a, c, hr, hrow⟩ := h
  have c0 : w.cell? ⟨g, 0, none⟩ = some (.slice a l.length c) := cell_of_row _ _ _ _ _ _ hrow
  have f0 := frozen_of_row w g 0 _ _ hrow
  have hq := Lib.hid (restK hr rfl u hu)
  by_cases h0 : l.length = 0
  · obtain rfl : u = 0 := by omega
    have hl0 : l = [] := List.eq_nil_of_length_eq_zero h0
    subst hl0
    have hp' := Lib.hid (fun a' c' (hz : a' = none → c' = 0) => hp.out a' c' (.inl ⟨a', c', rfl, hz, rfl⟩))
    have hz : a = none → c = 0 := by
      rcases hr with ⟨a', c', he, hc, _⟩ | ⟨b, o, c', he, _⟩
      · injection he with e1 e2 e3; subst e1 e3; exact hc
      · injection he with e1 e2 e3; subst e1; intro h; cases h
    rw [show ([] : List Int).length = 0 from rfl, show 0 - 0 = 0 from rfl] at hp'
    rw [show ([] : List Int).length = 0 from rfl] at c0
    clear hp hq hrow hr hb
    cases a with
    | none =>
      obtain rfl := hz rfl
      clear hz
      go_enter Tryz.func142, Tryz.ntmps142
      go_wp2
      go_end0
      exact ⟨⟨_, rfl⟩, hp'.out _ _ (fun _ => rfl)⟩
    | some A =>
      clear hz
      obtain ⟨b, o, q⟩ := A
      by_cases hc : c = 0
      · subst hc
        go_enter Tryz.func142, Tryz.ntmps142
        go_wp2
        go_end0
        exact ⟨⟨_, rfl⟩, hp'.out _ _ (fun h => by cases h)⟩
      · have hc1 : ¬ c - 0 = 0 := by omega
        have hc2 : (0 : Int) ≤ (c : Int) := by omega
        have hc3 : ¬ c ≤ 0 := by omega
        have hc4 : ¬ 0 = c := by omega
        go_enter Tryz.func142, Tryz.ntmps142
        go_wp2
        go_end0
        exact ⟨⟨_, rfl⟩, hp'.out _ _ (fun h => by cases h)⟩
  · rcases hr with ⟨a', c', he, hc, rfl⟩ | ⟨b, o, c', he, h1, h2, h3, h4⟩
    · simp at h0
    injection he with e1 e2 e3
    subst e1 e3
    clear e2
    have hq1 := Lib.hid (fun h => hp.out _ _ (hq.out.1 h))
    have hq2 := Lib.hid (hp.out _ _ (hq.out.2 b o rfl))
    clear hp hq hrow h3 h4 hb
    generalize l.drop u = l' at *
    generalize l.length = N at *
    have b1 : (0 : Int) ≤ (u : Int) := by omega
    have b2 : (u : Int) ≤ (N : Int) := by omega
    have b4 : (N : Int) ≤ (c : Int) := by omega
    have b5 : (u : Int) ≤ (c : Int) := by omega
    by_cases hc : c = u
    · subst hc
      have hcN : N = c := by omega
      subst hcN
      have hc0 : N - N = 0 := by omega
      have hq3 := Lib.hid (hq1.out hc0)
      clear h1 hu hq1 hq2
      rw [Nat.sub_self] at hq3
      go_enter Tryz.func142, Tryz.ntmps142
      go_wp2
      go_end0
      exact ⟨⟨_, rfl⟩, hq3.out⟩
    · have hcc2 : ¬ c - u = 0 := by omega
      have b6 : ¬ c ≤ u := by omega
      have b7 : ¬ u = c := by omega
      clear hq1
      go_enter Tryz.func142, Tryz.ntmps142
      go_wp2
      go_end0
      exact ⟨⟨_, rfl⟩, hq2.out⟩
end Go.Proofs.YtdlblhoaddfanaaGreatDoor.wir.val
namespace Go.Proofs.YtdlblhoaddfanaaGreatDoor.wir.val
open Go.RowKit Go.YtdlblhoaddfanaaGreatDoor
set_option linter.unusedVariables false
set_option maxRecDepth 100000 in
theorem next_any {W0 w : World} {g : Nat} {l : List Int} {fl : Bool} (h : St W0 g w l fl) (hl : Bytes l) (hlm : l.length ≤ 1000000) :
    Calls Tryz.prog 98 #[.pointer (some ⟨g, 0, none⟩)] w fun e w' => ∃ x : Int, e = .returned (.int .u8 x) ∧ (0 ≤ x ∧ x < 256) ∧ RdOut W0 g w l fl (rNext l) x w' := by
  have hf := Lib.hid h.fail
  have hp := Lib.hid (fun a' c' (hr : RdB W0 (.slice a' (l.drop 1).length c') (l.drop 1)) => (show St W0 g (w.setCell ⟨g, 0, none⟩ (.slice a' (l.drop 1).length c')) (l.drop 1) fl ∧ w.grownBy (w.setCell ⟨g, 0, none⟩ (.slice a' (l.drop 1).length c')) (some g) from ⟨h.put a' c' hr, but_cell _ _ _ _⟩))
  rw [show (l.drop 1).length = l.length - 1 from List.length_drop] at hp
  obtain ⟨hb, hg, a, c, hr, hrow⟩ := h
  have c0 : w.cell? ⟨g, 0, none⟩ = some (.slice a l.length c) := cell_of_row _ _ _ _ _ _ hrow
  have c1 : w.cell? ⟨g, 1, none⟩ = some (.bool fl) := cell_of_row _ _ _ _ _ _ hrow
  have f0 := frozen_of_row w g 0 _ _ hrow
  have f1 := frozen_of_row w g 1 _ _ hrow
  have hq := Lib.hid (fun hN => restK hr rfl 1 hN)
  by_cases h0 : l.length = 0
  · have hn : rNext l = none := if_pos h0
    have hfin := Lib.hid (show RdOut W0 g w l fl (rNext l) 0 (w.setCell ⟨g, 1, none⟩ (.bool true)) from ⟨l, true, hf.out, but_cell _ _ _ _, Nat.le_refl _, hl, .inl ⟨rfl, hn⟩⟩)
    clear hp hq hf hn hrow hr hb
    rw [h0] at c0
    go_enter Tryz.func98, Tryz.ntmps98
    go_wp2
    go_ret
    exact ⟨0, rfl, by decide, hfin.out⟩
  · have hn : rNext l = some (ith l 0, l.drop 1) := if_neg h0
    have hx := Lib.hid (hl 0)
    rcases hr with ⟨a', c', he, hc, rfl⟩ | ⟨b, o, c', he, h1, h2, h3, h4⟩
    · simp at h0
    injection he with e1 e2 e3
    subst e1 e3
    clear e2
    have hfin := Lib.hid (fun w' (hs : St W0 g w' (l.drop 1) fl ∧ w.grownBy w' (some g)) => (show RdOut W0 g w l fl (rNext l) (ith l 0) w' from ⟨l.drop 1, fl, hs.1, hs.2, by rw [List.length_drop]; omega, bytes_drop _ _ hl, .inr ⟨rfl, hn⟩⟩))
    have hq1 := Lib.hid (fun h => hp.out _ _ ((hq.out (by omega)).1 h))
    have hq2 := Lib.hid (hp.out _ _ ((hq.out (by omega)).2 b o rfl))
    have k0 : w.cell? ⟨b, o, none⟩ = some (.int .u8 (ith l 0)) := by
      have := h4 0 (by omega)
      rw [Nat.add_zero] at this
      exact (hb.cell (p := ⟨b, o, none⟩) h3).trans this
    clear hp hq hrow h3 h4 hb hn hf hl
    generalize l.drop 1 = l' at *
    generalize rNext l = RN at *
    generalize ith l 0 = X at *
    obtain ⟨N, hN⟩ : ∃ N, N = l.length := ⟨_, rfl⟩
    rw [← hN] at hq1 hq2 c0 h0 h1 hlm
    clear hN
    have i1 : (1 : Int) ≤ (N : Int) := by omega
    have i2 : (N : Int) ≤ (c : Int) := by omega
    have i3 : (0 : Int) < (N : Int) := by omega
    have i4 : 0 < N := by omega
    by_cases hc : c = 1
    · subst hc
      obtain rfl : N = 1 := by omega
      have hq3 := Lib.hid (hq1.out (by omega))
      rw [show 1 - 1 = 0 from rfl] at hq3
      clear hq1 hq2
      go_enter Tryz.func98, Tryz.ntmps98
      go_wp2
      go_ret
      exact ⟨X, rfl, hx.out, hfin.out _ hq3.out⟩
    · have hcc2 : ¬ c - 1 = 0 := by omega
      have b6 : ¬ c ≤ 1 := by omega
      have b7 : ¬ 1 = c := by omega
      have b8 : (1 : Int) ≤ (c : Int) := by omega
      clear hq1
      go_enter Tryz.func98, Tryz.ntmps98
      go_wp2
      go_ret
      exact ⟨X, rfl, hx.out, hfin.out _ hq2.out⟩
theorem St.rd {W0 w : World} {g : Nat} {l : List Int} {fl : Bool} (h : St W0 g w l fl) : ∃ a c, RdB w (.slice a l.length c) l ∧ w.cell? ⟨g, 0, none⟩ = some (.slice a l.length c) := by
  obtain ⟨hb, hg, a, c, hr, hrow⟩ := h
  exact ⟨a, c, hr.mono hb, cell_of_row _ _ _ _ _ _ hrow⟩
set_option maxRecDepth 100000 in
theorem number_rd {W0 w : World} {g : Nat} {l : List Int} {fl : Bool} (h : St W0 g w l fl) (hl : Bytes l) (hlm : l.length ≤ 1000000) :
    Calls Tryz.prog 101 #[.pointer (some ⟨g, 0, none⟩)] w fun e w' => ∃ n : Nat, e = .returned (.int .u64 (n : Int)) ∧ n < 18446744073709551616 ∧ RdOut W0 g w l fl (rNum l) n w' := by
  obtain ⟨a, c, hr, c0⟩ := h.rd
  have hN := Lib.hid (readNumber_any l _ w hr hl)
  cases hre : readF l with
  | none =>
    have hn : rNum l = none := by unfold rNum; rw [hre]
    obtain ⟨e1, e2, e3⟩ := rd_none hre
    rw [e1, e2, e3] at hN
    have hS := Lib.hid (skip_bad h 0 12 rfl)
    have hfin := Lib.hid (fun w' (hs : St W0 g w' l true) (hg : w.grownBy w' (some g)) => (show RdOut W0 g w l fl (rNum l) 0 w' from ⟨l, true, hs, hg, Nat.le_refl _, hl, .inl ⟨rfl, hn⟩⟩))
    clear h hl hr hn hre e1 e2 e3
    generalize rNum l = RN at *
    generalize l.length = N at *
    go_enter Tryz.func101, Tryz.ntmps101
    go_wp2_with (first
      | (go_at_call 143; (with_reducible refine (hN.out).mono ?_); rintro e w1 ⟨rfl, rfl⟩)
      | (go_at_call 142; (with_reducible refine (hS.out).mono ?_); rintro e w2 ⟨⟨z, rfl⟩, q1, q2⟩; have q1 := Lib.hid q1; have q2 := Lib.hid q2))
    go_ret
    exact ⟨0, rfl, by decide, hfin.out _ q1.out q2.out⟩
  | some p =>
    obtain ⟨n, u⟩ := p
    have hn : rNum l = some (n, l.drop u) := by unfold rNum; rw [hre]
    obtain ⟨e1, e2, e3⟩ := rd_some hre
    rw [e1, e2, e3] at hN
    obtain ⟨a1, a2, a3, a4⟩ := readF_some hl hre
    have hS := Lib.hid (skip_ok h u a3 hlm)
    have hfin := Lib.hid (fun w' (hs : St W0 g w' (l.drop u) fl) (hg : w.grownBy w' (some g)) => (show RdOut W0 g w l fl (rNum l) n w' from ⟨l.drop u, fl, hs, hg, by rw [List.length_drop]; omega, bytes_drop _ _ hl, .inr ⟨rfl, hn⟩⟩))
    have ha1 := Lib.hid a1
    clear h hl hr hn hre e1 e2 e3 a1 a2 a4
    generalize rNum l = RN at *
    generalize l.drop u = l' at *
    generalize l.length = N at *
    go_enter Tryz.func101, Tryz.ntmps101
    go_wp2_with (first
      | (go_at_call 143; (with_reducible refine (hN.out).mono ?_); rintro e w1 ⟨rfl, rfl⟩)
      | (go_at_call 142; (with_reducible refine (hS.out).mono ?_); rintro e w2 ⟨⟨z, rfl⟩, q1, q2⟩; have q1 := Lib.hid q1; have q2 := Lib.hid q2))
    go_ret
    exact ⟨n, rfl, ha1.out, hfin.out _ q1.out q2.out⟩
set_option maxRecDepth 100000 in
theorem small_rd {W0 w : World} {g : Nat} {l : List Int} {fl : Bool} (h : St W0 g w l fl) (hl : Bytes l) (hlm : l.length ≤ 1000000) :
    Calls Tryz.prog 99 #[.pointer (some ⟨g, 0, none⟩)] w fun e w' => ∃ n : Nat, e = .returned (.int .u32 (n : Int)) ∧ n < 4294967296 ∧ RdOut W0 g w l fl (rSmall l) n w' := by
  have hN := Lib.hid (number_rd h hl hlm)
  have hs1 : ∀ n l', rNum l = some (n, l') → ¬ 4294967295 < n → rSmall l = some (n, l') := fun n l' hn hl => by unfold rSmall; rw [hn]; simp only; rw [if_neg hl]
  have hs2 : ∀ n l', rNum l = some (n, l') → 4294967295 < n → rSmall l = none := fun n l' hn hl => by unfold rSmall; rw [hn]; simp only; rw [if_pos hl]
  have hs3 : rNum l = none → rSmall l = none := fun hn => by unfold rSmall; rw [hn]
  have hs1 := Lib.hid hs1; have hs2 := Lib.hid hs2; have hs3 := Lib.hid hs3
  clear h hl
  go_enter Tryz.func99, Tryz.ntmps99
  go_upto_region 2 with (go_at_call 101; (with_reducible refine (hN.out).mono ?_); rintro e w1 ⟨n, rfl, hn, l', fl', q1, q2, q3, q4, q5⟩; have q1 := Lib.hid q1; have q2 := Lib.hid q2; have q3 := Lib.hid q3; have q4 := Lib.hid q4; have q5 := Lib.hid q5; have hn := Lib.hid hn)
  by_cases hlt : 4294967295 < n
  · have hf := Lib.hid q1.out.fail
    have hb := Lib.hid (but_trans q2.out (but_cell w1 g 1 (.bool true)))
    have hnone : rSmall l = none := by
      rcases q5.out with ⟨_, h⟩ | ⟨_, h⟩
      · exact hs3.out h
      · exact hs2.out _ _ h hlt
    have hfin := Lib.hid (fun x => (show RdOut W0 g w l fl (rSmall l) x (w1.setCell ⟨g, 1, none⟩ (.bool true)) from ⟨l', true, hf.out, hb.out, q3.out, q4.out, .inl ⟨rfl, hnone⟩⟩))
    obtain ⟨_, _, _, _, _, hrow⟩ := q1.out
    have c1 : w1.cell? ⟨g, 1, none⟩ = some (.bool fl') := cell_of_row _ _ _ _ _ _ hrow
    have f1 := frozen_of_row w1 g 1 _ _ hrow
    have hi : (4294967295 : Int) < (n : Int) := by omega
    have hw : IntKind.u32.wrap (n : Int) = ((n % 4294967296 : Nat) : Int) := by
      rw [Int.natCast_emod]; rfl
    have hw' := Lib.hid hw
    clear hrow hnone hw
    go_wp2
    go_ret
    exact ⟨n % 4294967296, by rw [Int.natCast_emod]; rfl, Nat.mod_lt _ (by decide), hfin.out _⟩
  · have hi : ¬ (4294967295 : Int) < (n : Int) := by omega
    have hw : IntKind.u32.wrap (n : Int) = (n : Int) := IntWalk.u32_in _ (by omega)
    have hfin := Lib.hid (show RdOut W0 g w l fl (rSmall l) n w1 from ⟨l', fl', q1.out, q2.out, q3.out, q4.out, by
      rcases q5.out with ⟨h1, h⟩ | ⟨h1, h⟩
      · exact .inl ⟨h1, hs3.out h⟩
      · exact .inr ⟨h1, hs1.out _ _ h hlt⟩⟩)
    go_wp2
    go_ret
    exact ⟨n, rfl, by omega, hfin.out⟩
end Go.Proofs.YtdlblhoaddfanaaGreatDoor.wir.val
namespace Go.Proofs.YtdlblhoaddfanaaGreatDoor.wir.val
open Go.RowKit Go.YtdlblhoaddfanaaGreatDoor
set_option linter.unusedVariables false
theorem heldI_but {B g : Nat} {w w' : World} {v : Value} {n : Nat} {F : List Int} (h : HeldI B w v n F) (hg : g < B) (k : w.grownBy w' (some g)) : HeldI B w' v n F := fun wx h1 h2 =>
  h wx (fun i k1 k2 => (h1 i k1 (Nat.lt_of_lt_of_le k2 k.size)).trans (k.block i k2 (fun e => by have := Option.some.inj e; omega))) (Nat.le_trans k.size h2)
theorem butRow {w w' : World} {g k : Nat} {o : Obj} (h : w.grownBy w' (some g)) (hk : w.heap[k]? = some o) (hne : g ≠ k) : w'.heap[k]? = some o :=
  (h.block k (Array.getElem?_eq_some_iff.1 hk).1 (fun e => hne (Option.some.inj e).symm)).trans hk
theorem St.lt {W0 w : World} {g : Nat} {l : List Int} {fl : Bool} (h : St W0 g w l fl) : g < w.heap.size := by
  obtain ⟨_, _, _, _, _, hrow⟩ := h
  exact (Array.getElem?_eq_some_iff.1 hrow).1
theorem St.low {W0 w w' : World} {g B : Nat} {l : List Int} {fl : Bool} (h : St W0 g w l fl) (k : Below B w w') (hg : g < B) (hB : W0.heap.size ≤ B) : St W0 g w' l fl := by
  obtain ⟨hb, hg0, a, c, hr, hrow⟩ := h
  exact ⟨hb.trans (k.mono hB), hg0, a, c, hr, (k.block g hg).trans hrow⟩
theorem but_below {w w2 w9 : World} {r : Option Nat} (h : w.grownBy w2 r) (k : Below w.heap.size w2 w9) : w.grownBy w9 r :=
  ⟨k.os.trans h.os, k.tape.trans h.tape, k.output.trans h.output, Nat.le_trans h.size k.size, fun i hi hn => (k.block i hi).trans (h.block i hi hn)⟩
theorem RdOut.low {α : Type} {W0 w w2 w9 : World} {g : Nat} {l : List Int} {fl : Bool} {r : Option (α × List Int)} {x : α} (h : RdOut W0 g w l fl r x w2) (k : Below w.heap.size w2 w9) (hg : g < w.heap.size) (hB : W0.heap.size ≤ w.heap.size) : RdOut W0 g w l fl r x w9 := by
  obtain ⟨l', fl', q1, q2, q3, q4, q5⟩ := h
  exact ⟨l', fl', q1.low k hg hB, but_below q2 k, q3, q4, q5⟩
set_option maxHeartbeats 1000000 in
set_option maxRecDepth 100000 in
theorem ids_rd {W0 w : World} {g : Nat} {l : List Int} {fl : Bool} (h : St W0 g w l fl) (hl : Bytes l) (hlm : l.length ≤ 1000000) :
    Calls Tryz.prog 100 #[.pointer (some ⟨g, 0, none⟩)] w fun e w' => ∃ (a : Option Addr) (n c : Nat) (F : List Int), e = .returned (.slice a n c) ∧ HeldI w.heap.size w' (.slice a n c) n F ∧ Bytes F ∧ n ≤ 4 ∧ RdOut W0 g w l fl (rIds l) (n, F) w' := by
  obtain ⟨a, c, hr, c0⟩ := h.rd
  have hno : ∀ w1, Below w.heap.size w w1 → rIds l = none → Calls Tryz.prog 142 #[.pointer (some ⟨g, 0, none⟩), .int .i64 0, .int .i64 12] w1 fun e w' => IsRet e ∧ Hid (∃ (a : Option Addr) (n c : Nat) (F : List Int), Value.slice none 0 0 = .slice a n c ∧ HeldI w.heap.size w' (.slice a n c) n F ∧ Bytes F ∧ n ≤ 4 ∧ RdOut W0 g w l fl (rIds l) (n, F) w') := fun w1 hb1 hn =>
    (skip_bad (h.kept hb1) 0 12 rfl).mono fun e w' ⟨q0, q1, q2⟩ => ⟨q0, none, 0, 0, [], rfl, heldI_nil _ _, (fun i => by simp [ith]), by omega, l, true, q1, but_trans (but_of hb1) q2, Nat.le_refl _, hl, .inl ⟨rfl, hn⟩⟩
  cases hre : readC l 4 32 with
  | none =>
    have hn : rIds l = none := by unfold rIds; rw [hre]
    have hN := Lib.hid (readIDs_no l _ 4 (by omega) (by omega) w hr hl hlm hre)
    have hS := Lib.hid (hno w (Below.refl _ _) hn)
    clear hno h hl hr hn hre
    generalize rIds l = RN at *
    generalize l.length = N at *
    go_enter Tryz.func100, Tryz.ntmps100
    go_wp2_with (first
      | (go_at_call 141; (with_reducible refine (hN.out).mono ?_); rintro e w1 ⟨rfl, rfl⟩)
      | (go_at_call 142; (with_reducible refine (hS.out).mono ?_); rintro e w2 ⟨⟨z, rfl⟩, q1⟩; have q1 := Lib.hid q1))
    go_ret
    obtain ⟨a, n, c, F, h1, h2⟩ := q1.out.out
    exact ⟨a, n, c, F, by rw [← h1]; rfl, h2⟩
  | some p =>
    obtain ⟨n, u⟩ := p
    have hN := Lib.hid (readIDs_ok l _ 4 (by omega) (by omega) w hr hl hlm n u hre)
    obtain ⟨c1, c2, c3⟩ := readC_some hre
    obtain ⟨a1, a2, a3, a4⟩ := readF_some hl c1
    have hlen : ((l.drop u).take (n * 32)).length = 32 * n := by rw [List.length_take, List.length_drop]; omega
    cases hri : riseF ((l.drop u).take (n * 32)) n with
    | false =>
      have hn : rIds l = none := by unfold rIds; rw [hre]; simp only; rw [if_neg (by rw [hri]; decide)]
      have hS := Lib.hid (fun w1 hb1 => hno w1 hb1 hn)
      clear hno h hl hr hn hre c1 c2 c3 a1 a2 a3 a4 hlen
      generalize rIds l = RN at *
      generalize l.length = N at *
      go_enter Tryz.func100, Tryz.ntmps100
      go_wp2_with (first
        | (go_at_call 141; (with_reducible refine (hN.out).mono ?_); intro e w1 hpost; unfold readIDsPost at hpost; rw [hri, if_neg (by decide)] at hpost; obtain ⟨hb1, rfl⟩ := hpost; have hS1 := Lib.hid (hS.out w1 hb1); clear hb1)
        | (go_at_call 142; (with_reducible refine (hS1.out).mono ?_); rintro e w2 ⟨⟨z, rfl⟩, q1⟩; have q1 := Lib.hid q1))
      go_ret
      obtain ⟨a, n, c, F, h1, h2⟩ := q1.out.out
      exact ⟨a, n, c, F, by rw [← h1]; rfl, h2⟩
    | true =>
      have hn : rIds l = some ((n, (l.drop u).take (n * 32)), l.drop (u + n * 32)) := by unfold rIds; rw [hre]; simp only; rw [if_pos hri]
      have hS := Lib.hid (fun w1 (hb1 : Below w.heap.size w w1) (hrow : w1.heap[w.heap.size]? = some (.cells (u8s ((l.drop u).take (n * 32))) 24 (0, 0))) => (skip_ok (h.kept hb1) (u + n * 32) (by omega) hlm).mono (R' := fun e w' => IsRet e ∧ Hid (HeldI w.heap.size w' (.slice (some ⟨w.heap.size, 0, none⟩) n n) n ((l.drop u).take (n * 32)) ∧ Bytes ((l.drop u).take (n * 32)) ∧ n ≤ 4 ∧ RdOut W0 g w l fl (rIds l) (n, (l.drop u).take (n * 32)) w')) fun e w' ⟨q0, q1, q2⟩ => ⟨q0,
        heldI_but (heldI_row hrow n hlen (by omega) (Nat.le_refl _)) h.lt q2, bytes_take _ _ (bytes_drop _ _ hl), by omega, _, _, q1, but_trans (but_of hb1) q2, by rw [List.length_drop]; omega, bytes_drop _ _ hl, .inr ⟨rfl, hn⟩⟩)
      obtain ⟨V, hV⟩ : ∃ V, u + n * 32 = V := ⟨_, rfl⟩
      rw [hV] at hN hS
      clear hV hno h hl hr hn hre c1 c2 c3 a1 a2 a3 a4 hlen
      generalize rIds l = RN at *
      generalize l.length = N at *
      go_enter Tryz.func100, Tryz.ntmps100
      go_wp2_with (first
        | (go_at_call 141; (with_reducible refine (hN.out).mono ?_); intro e w1 hpost; unfold readIDsPost at hpost; rw [hri, if_pos rfl] at hpost; obtain ⟨hb1, rfl, hrow⟩ := hpost; have hS1 := Lib.hid (hS.out w1 hb1 hrow); clear hb1 hrow)
        | (go_at_call 142; (with_reducible refine (hS1.out).mono ?_); rintro e w2 ⟨⟨z, rfl⟩, q1⟩; have q1 := Lib.hid q1))
      go_ret
      exact ⟨_, n, n, _, rfl, q1.out.out⟩
set_option maxHeartbeats 1000000 in
set_option maxRecDepth 100000 in
theorem key_rd {W0 w : World} {g : Nat} {l : List Int} {fl : Bool} (h : St W0 g w l fl) (hl : Bytes l) (hlm : l.length ≤ 1000000) :
    Calls Tryz.prog 144 #[.pointer (some ⟨g, 0, none⟩)] w fun e w' => ∃ s : ByteArray, e = .returned (.string s) ∧ s.size ≤ 20 ∧ RdOut W0 g w l fl (rKey l) s w' := by
  obtain ⟨a, c, hr, c0⟩ := h.rd
  cases hre : readC l 20 1 with
  | none =>
    have hn : rKey l = none := by unfold rKey; rw [hre]
    have hN := Lib.hid (readBytes_no l _ 20 (by omega) (by omega) w hr hl hlm hre)
    have hS := Lib.hid ((skip_bad h 0 12 rfl).mono (R' := fun e w' => IsRet e ∧ Hid (RdOut W0 g w l fl (rKey l) (toS []) w')) fun e w' ⟨q0, q1, q2⟩ => ⟨q0, l, true, q1, q2, Nat.le_refl _, hl, .inl ⟨rfl, hn⟩⟩)
    have hkc := fun wx => run_toS (P := Tryz.prog) (w := wx) (v := .slice none 0 0) (l := []) (.inl ⟨none, 0, rfl, fun _ => rfl, rfl⟩) 79 9 5 Tryz.underlying79 Tryz.underlying5 Tryz.underlying9
    clear h hl hr hn hre
    have hsz := Lib.hid (show (toS []).size ≤ 20 by decide)
    generalize toS [] = s0 at *
    generalize rKey l = RN at *
    generalize l.length = N at *
    go_enter Tryz.func144, Tryz.ntmps144
    go_wp2_with (first
      | (go_at_call 175; (with_reducible refine (hN.out).mono ?_); rintro e w1 ⟨rfl, rfl⟩)
      | (go_at_call 142; (with_reducible refine (hS.out).mono ?_); rintro e w2 ⟨⟨z, rfl⟩, q1⟩; have q1 := Lib.hid q1))
    go_ret
    exact ⟨s0, rfl, hsz.out, q1.out.out⟩
  | some p =>
    obtain ⟨n, u⟩ := p
    have hN := Lib.hid (readBytes_ok l _ 20 (by omega) (by omega) w hr hl hlm n u hre)
    obtain ⟨c1, c2, c3⟩ := readC_some hre
    obtain ⟨a1, a2, a3, a4⟩ := readF_some hl c1
    rw [Nat.div_one] at c3
    have hlen : ((l.drop u).take n).length = n := by rw [List.length_take, List.length_drop]; omega
    have hn : rKey l = some (toS ((l.drop u).take n), l.drop (u + n)) := by unfold rKey; rw [hre]
    have hsz := Lib.hid (show (toS ((l.drop u).take n)).size ≤ 20 by rw [toS_size, hlen]; omega)
    have hS := Lib.hid (fun w1 (hb1 : Below w.heap.size w w1) (hrow : w1.heap[w.heap.size]? = some (.cells (u8s ((l.drop u).take n)) 5 (0, 0))) => (skip_ok (h.kept hb1) (u + n) (by omega) hlm).mono (R' := fun e w' => IsRet e ∧ w'.heap[w.heap.size]? = some (.cells (u8s ((l.drop u).take n)) 5 (0, 0)) ∧ Hid (RdOut W0 g w l fl (rKey l) (toS ((l.drop u).take n)) w')) fun e w' ⟨q0, q1, q2⟩ => ⟨q0,
      butRow q2 hrow (by have := h.lt; omega), _, _, q1, but_trans (but_of hb1) q2, by rw [List.length_drop]; omega, bytes_drop _ _ hl, .inr ⟨rfl, hn⟩⟩)
    have hkc := Lib.hid (fun (wx : World) (hrow : wx.heap[w.heap.size]? = some (.cells (u8s ((l.drop u).take n)) 5 (0, 0))) => run_toS (P := Tryz.prog) (rdB_row hrow n hlen (by unfold maxLen; omega)) 79 9 5 Tryz.underlying79 Tryz.underlying5 Tryz.underlying9)
    obtain ⟨V, hV⟩ : ∃ V, u + n = V := ⟨_, rfl⟩
    rw [hV] at hN hS
    clear hV h hl hr hn hre c1 c2 c3 a1 a2 a3 a4 hlen
    generalize toS ((l.drop u).take n) = s0 at *
    generalize (l.drop u).take n = R at *
    generalize rKey l = RN at *
    generalize l.length = N at *
    go_enter Tryz.func144, Tryz.ntmps144
    go_wp2_with (first
      | (go_at_call 175; (with_reducible refine (hN.out).mono ?_); rintro e w1 ⟨rfl, hrow, hb1⟩; have hS1 := Lib.hid (hS.out w1 hb1 hrow); clear hb1 hrow)
      | (go_at_call 142; (with_reducible refine (hS1.out).mono ?_); rintro e w2 ⟨⟨z, rfl⟩, q0, q1⟩; have q1 := Lib.hid q1; have hk2 := hkc.out w2 q0; clear q0))
    go_ret
    exact ⟨s0, rfl, hsz.out, q1.out.out⟩
set_option maxHeartbeats 1000000 in
set_option maxRecDepth 100000 in
theorem value_rd {W0 w : World} {g : Nat} {l : List Int} {fl : Bool} (h : St W0 g w l fl) (hl : Bytes l) (hlm : l.length ≤ 1000000) :
    Calls Tryz.prog 145 #[.pointer (some ⟨g, 0, none⟩)] w fun e w' => ∃ v : Va, e = .returned v.v ∧ v.fit ∧ RdOut W0 g w l fl (rVal l) v w' := by
  have hlt := Lib.hid h.lt
  have hB0 := below_a w (.cells #[.int .u8 0, .int .i64 0, .int .u64 0, .string ⟨#[]⟩] 29)
  have hrow := Lib.hid (heap_alloc_new w (.cells #[.int .u8 0, .int .i64 0, .int .u64 0, .string ⟨#[]⟩] 29))
  obtain ⟨W, hW⟩ : ∃ W, W = w.alloc (.cells #[.int .u8 0, .int .i64 0, .int .u64 0, .string ⟨#[]⟩] 29) := ⟨_, rfl⟩
  rw [← hW] at hrow hB0
  have hh := h.kept hB0
  obtain ⟨a, c, hr, c0⟩ := hh.rd
  have hWs : w.heap.size < W.heap.size := (Array.getElem?_eq_some_iff.1 hrow.out).1
  have hN := Lib.hid (decode_any l _ W hr hl hlm)
  obtain ⟨v, u, x, hd, hfit, hS⟩ : ∃ (v : Va) (u : Nat) (x : Int), decR l = .tuple #[vA v.k v.n v.b v.s, .int .i64 (u : Int), .int .i64 x] ∧ v.fit ∧ ∀ w1, Below W.heap.size W w1 → Calls Tryz.prog 142 #[.pointer (some ⟨g, 0, none⟩), .int .i64 (u : Int), .int .i64 x] w1 fun e w' => IsRet e ∧ w1.grownBy w' (some g) ∧ Hid (RdOut W0 g w l fl (rVal l) v w') := by
    cases hre : decF l with
    | none =>
      have hn : rVal l = none := by unfold rVal; rw [hre]
      refine ⟨⟨0, 0, 0, ⟨#[]⟩⟩, 0, 12, by unfold decR; rw [hre]; rfl, ⟨by decide, by decide, by decide, by decide⟩, fun w1 hb1 => (skip_bad (hh.kept hb1) _ 12 rfl).mono fun e w' ⟨q0, q1, q2⟩ => ⟨q0, q2, l, true, q1, but_trans (but_of (hB0.trans (hb1.mono hB0.size))) q2, Nat.le_refl _, hl, .inl ⟨rfl, hn⟩⟩⟩
    | some p =>
      obtain ⟨v, u⟩ := p
      obtain ⟨a1, a2, a3, a4, a5⟩ := decF_some hl hre
      have hn : rVal l = some (v, l.drop u) := by unfold rVal; rw [hre]
      refine ⟨v, u, 0, by unfold decR; rw [hre], a1, fun w1 hb1 => (skip_ok (hh.kept hb1) u a4 hlm).mono fun e w' ⟨q0, q1, q2⟩ => ⟨q0, q2, _, _, q1, but_trans (but_of (hB0.trans (hb1.mono hB0.size))) q2, by rw [List.length_drop]; omega, bytes_drop _ _ hl, .inr ⟨rfl, hn⟩⟩⟩
  rw [hd] at hN
  have hS := Lib.hid hS
  have hgs := Lib.hid h.ge
  have hb0s := Lib.hid h.b.size
  have hWs' := Lib.hid hWs
  have hfit := Lib.hid hfit
  clear hd hr hh h hl hB0 hWs
  generalize rVal l = RN at *
  generalize l.length = N at *
  obtain ⟨vk, vn, vb, vs⟩ := v
  dsimp only at *
  go_enter Tryz.func145, Tryz.ntmps145
  go_upto_region 1 with fail
  rw [← hW]
  clear hW
  go_upto_region 2 with (go_at_call 176; (with_reducible refine (hN.out).mono ?_); rintro e w1 ⟨rfl, hb1⟩; have hb1 := Lib.hid hb1)
  have hl1 := Lib.hid (heap_alloc_new w1 (.cells (vC vk vn vb vs) 29))
  have hb2 := Lib.hid (hb1.out.alloc hb1.out.size (.cells (vC vk vn vb vs) 29))
  have hS1 := Lib.hid (hS.out _ hb2.out)
  have hrow2 := Lib.hid (rowB hrow.out hb2.out hWs'.out)
  have hw1 := Lib.hid hb1.out.size
  generalize w1.heap.size = g3 at *
  generalize w1.alloc (.cells (vC vk vn vb vs) 29) = w2 at *
  have hg3 := Lib.hid (show g ≠ g3 by have := hlt.out; have := hw1.out; have := hWs'.out; omega)
  have hgw := Lib.hid (show g ≠ w.heap.size by have := hlt.out; omega)
  go_wp2_with (first
    | (go_at_call 142; (with_reducible refine (hS1.out).mono ?_); rintro e w3 ⟨⟨z, rfl⟩, q1, q2⟩; have hl3 := Lib.hid (butRow q1 hl1.out hg3.out); have hrow3 := Lib.hid (butRow q1 hrow2.out hgw.out); have q2 := Lib.hid q2; clear q1)
    | (refine wpList_load_row_g rfl 29 _ rfl g3 rfl 29 (vC vk vn vb vs) (0, 0) _ hl3.out Tryz.underlying29 rfl info_val ?_)
    | (refine storeOver _ w.heap.size _ rfl 29 _ _ rfl (vC vk vn vb vs) 29 hrow3.out rfl rfl info_val rfl (val_one _ _ _ _) ?_; intro w9 hr9 hb9; have hr9' := Lib.hid hr9; have hb9' := Lib.hid hb9; clear hr9 hb9))
  exact bodyPost_ret (results_cell_row rfl _ _ w.heap.size 29 _ _ _ rfl hr9'.out Tryz.underlying29 rfl info_val) rfl ⟨⟨vk, vn, vb, vs⟩, rfl, hfit.out, RdOut.low q2.out.out hb9'.out hlt.out hb0s.out⟩
end Go.Proofs.YtdlblhoaddfanaaGreatDoor.wir.val
namespace Go.Proofs.YtdlblhoaddfanaaGreatDoor.wir.val
open Go.RowKit Go.YtdlblhoaddfanaaGreatDoor
set_option linter.unusedVariables false
theorem fit_zero : Va.fit ⟨0, 0, 0, ⟨#[]⟩⟩ := ⟨by decide, by decide, by decide, by decide⟩
theorem nil_size : (ByteArray.mk #[]).size ≤ 20 := by decide
theorem rNext_some {l l1 : List Int} {x : Int} (h : rNext l = some (x, l1)) : ¬ l.length = 0 ∧ ith l 0 = x ∧ l.drop 1 = l1 := by
  unfold rNext at h
  by_cases h0 : l.length = 0
  · rw [if_pos h0] at h; cases h
  · rw [if_neg h0] at h
    obtain ⟨h1, h2⟩ := Prod.mk.inj (Option.some.inj h)
    exact ⟨h0, h1, h2⟩
theorem rNext_none {l : List Int} (h : rNext l = none) : l.length = 0 := by
  unfold rNext at h
  by_cases h0 : l.length = 0
  · exact h0
  · rw [if_neg h0] at h; cases h
/-- How a part of the reader ends. -/
abbrev Ends {α : Type} (fl : Bool) (r : Option (α × List Int)) (x : α) (l' : List Int) (fl' : Bool) : Prop := (fl' = true ∧ r = none) ∨ (fl' = fl ∧ r = some (x, l'))
theorem Ends.up {α : Type} {fl fl' : Bool} {r : Option (α × List Int)} {x : α} {l' : List Int} (h : Ends fl r x l' fl') (hf : fl = true) : fl' = true := by
  rcases h with h | h
  · exact h.1
  · exact h.1.trans hf
theorem St.other {W0 w : World} {g k : Nat} {l : List Int} {fl : Bool} (h : St W0 g w l fl) (hk : g ≠ k) (hW : W0.heap.size ≤ k) (i : Nat) (v : Value) : St W0 g (w.setCell ⟨k, i, none⟩ v) l fl := by
  obtain ⟨hb, hg0, a, c, hr, hrow⟩ := h
  exact ⟨hb.setCell hW _, hg0, a, c, hr, (setCell_rows k i v g hk).trans hrow⟩
theorem but_set {w w2 : World} {r : Option Nat} (h : w.grownBy w2 r) (k i : Nat) (v : Value) (hk : w.heap.size ≤ k) : w.grownBy (w2.setCell ⟨k, i, none⟩ v) r :=
  but_below h ((Below.refl _ _).setCell (p := ⟨k, i, none⟩) hk v)
theorem six_of {w : World} {g : Nat} {x0 x1 x2 x3 x4 x5 : Value} {T : TypeId} (h : w.heap[g]? = some (.cells #[x0, x1, x2, x3, x4, x5] T (0, 0))) :
    (w.cell? ⟨g, 0, none⟩ = some x0 ∧ w.cell? ⟨g, 1, none⟩ = some x1 ∧ w.cell? ⟨g, 2, none⟩ = some x2 ∧ w.cell? ⟨g, 3, none⟩ = some x3 ∧ w.cell? ⟨g, 4, none⟩ = some x4 ∧ w.cell? ⟨g, 5, none⟩ = some x5) ∧
    w.frozen? ⟨g, 0, none⟩ = false ∧ w.frozen? ⟨g, 1, none⟩ = false ∧ w.frozen? ⟨g, 2, none⟩ = false ∧ w.frozen? ⟨g, 3, none⟩ = false ∧ w.frozen? ⟨g, 4, none⟩ = false ∧ w.frozen? ⟨g, 5, none⟩ = false :=
  ⟨⟨cell_of_row _ _ _ _ _ _ h, cell_of_row _ _ _ _ _ _ h, cell_of_row _ _ _ _ _ _ h, cell_of_row _ _ _ _ _ _ h, cell_of_row _ _ _ _ _ _ h, cell_of_row _ _ _ _ _ _ h⟩, frozen_of_row _ _ _ _ _ h, frozen_of_row _ _ _ _ _ h, frozen_of_row _ _ _ _ _ h, frozen_of_row _ _ _ _ _ h, frozen_of_row _ _ _ _ _ h, frozen_of_row _ _ _ _ _ h⟩
theorem act_one (k n b : Int) (s t : ByteArray) (j : Int) : (#[Value.int .u8 k, .string s, .int .u8 j, .int .i64 n, .int .u64 b, .string t] : Array Value).all (·.oneCell') = true := by simp [Value.oneCell']
theorem act_ends1 {l l1 : List Int} {fl f1 : Bool} {x : Int} (q : Ends fl (rNext l) x l1 f1) (hx : x = 1) : Ends fl (rAct l) ⟨x, ⟨#[]⟩, ⟨0, 0, 0, ⟨#[]⟩⟩⟩ l1 f1 := by
  rcases q with ⟨h1, h2⟩ | ⟨h1, h2⟩
  · exact .inl ⟨h1, by unfold rAct; rw [if_pos (rNext_none h2)]⟩
  · obtain ⟨a1, a2, a3⟩ := rNext_some h2
    exact .inr ⟨h1, by unfold rAct; rw [if_neg a1, if_pos (a2.trans hx), a2, a3]⟩
theorem act_ends2 {l l1 l2 : List Int} {fl f1 f2 : Bool} {x : Int} {s : ByteArray} (q : Ends fl (rNext l) x l1 f1) (r : Ends f1 (rKey l1) s l2 f2) (hx : ¬ x = 1) (hx4 : ¬ x = 4) : Ends fl (rAct l) ⟨x, s, ⟨0, 0, 0, ⟨#[]⟩⟩⟩ l2 f2 := by
  rcases q with ⟨h1, h2⟩ | ⟨h1, h2⟩
  · exact .inl ⟨r.up h1, by unfold rAct; rw [if_pos (rNext_none h2)]⟩
  · obtain ⟨a1, a2, a3⟩ := rNext_some h2
    rcases r with ⟨r1, r2⟩ | ⟨r1, r2⟩
    · exact .inl ⟨r1, by unfold rAct; rw [if_neg a1, a2, a3, if_neg hx, r2]⟩
    · exact .inr ⟨r1.trans h1, by unfold rAct; rw [if_neg a1, a2, a3, if_neg hx, r2]; simp only; rw [if_neg hx4]⟩
theorem act_ends3 {l l1 l2 l3 : List Int} {fl f1 f2 f3 : Bool} {x : Int} {s : ByteArray} {v : Va} (q : Ends fl (rNext l) x l1 f1) (r : Ends f1 (rKey l1) s l2 f2) (t : Ends f2 (rVal l2) v l3 f3) (hx : ¬ x = 1) (hx4 : x = 4) : Ends fl (rAct l) ⟨x, s, v⟩ l3 f3 := by
  rcases q with ⟨h1, h2⟩ | ⟨h1, h2⟩
  · exact .inl ⟨t.up (r.up h1), by unfold rAct; rw [if_pos (rNext_none h2)]⟩
  · obtain ⟨a1, a2, a3⟩ := rNext_some h2
    rcases r with ⟨r1, r2⟩ | ⟨r1, r2⟩
    · exact .inl ⟨t.up r1, by unfold rAct; rw [if_neg a1, a2, a3, if_neg hx, r2]⟩
    · rcases t with ⟨t1, t2⟩ | ⟨t1, t2⟩
      · exact .inl ⟨t1, by unfold rAct; rw [if_neg a1, a2, a3, if_neg hx, r2]; simp only; rw [if_pos hx4, t2]⟩
      · exact .inr ⟨t1.trans (r1.trans h1), by unfold rAct; rw [if_neg a1, a2, a3, if_neg hx, r2]; simp only; rw [if_pos hx4, t2]⟩
set_option maxHeartbeats 2000000 in
set_option maxRecDepth 100000 in
theorem act_rd {W0 w : World} {g : Nat} {l : List Int} {fl : Bool} (h : St W0 g w l fl) (hl : Bytes l) (hlm : l.length ≤ 1000000) :
    Calls Tryz.prog 102 #[.pointer (some ⟨g, 0, none⟩)] w fun e w' => ∃ c : Ac, e = .returned (aA c.k c.key c.v) ∧ (0 ≤ c.k ∧ c.k < 256) ∧ c.key.size ≤ 20 ∧ c.v.fit ∧ RdOut W0 g w l fl (rAct l) c w' := by
  have hlt := Lib.hid h.lt
  have hB0 := below_a w (.cells (aC 0 ⟨#[]⟩ ⟨0, 0, 0, ⟨#[]⟩⟩) 31)
  have hrow := Lib.hid (heap_alloc_new w (.cells (aC 0 ⟨#[]⟩ ⟨0, 0, 0, ⟨#[]⟩⟩) 31))
  obtain ⟨W, hW⟩ : ∃ W, W = w.alloc (.cells (aC 0 ⟨#[]⟩ ⟨0, 0, 0, ⟨#[]⟩⟩) 31) := ⟨_, rfl⟩
  rw [← hW] at hrow hB0
  have hX := Lib.hid (next_any (h.kept hB0) hl hlm)
  have hWs := Lib.hid (show w.heap.size < W.heap.size from (Array.getElem?_eq_some_iff.1 hrow.out).1)
  have hbs := Lib.hid h.b.size
  have hg0 := Lib.hid (but_of (r := some g) hB0)
  have hll := Lib.hid hlm
  clear h hl hB0 hlm
  go_enter Tryz.func102, Tryz.ntmps102
  go_upto_region 1 with fail
  change Code.wp _ _ _ _ (w.alloc (.cells (aC 0 ⟨#[]⟩ ⟨0, 0, 0, ⟨#[]⟩⟩) 31))
  rw [← hW]
  clear hW
  go_upto_region 2 with (go_at_call 98; (with_reducible refine (hX.out).mono ?_); rintro e w1 ⟨x, rfl, hx, l1, f1, q1, q2, q3, q4, q5⟩; have hx := Lib.hid hx; have q1 := Lib.hid q1; have q2 := Lib.hid q2; have q3 := Lib.hid q3; have q4 := Lib.hid q4; have q5 := Lib.hid q5)
  have hrow1 := Lib.hid (butRow q2.out hrow.out (by have := hlt.out; omega))
  have hl1 := Lib.hid (heap_alloc_new w1 (.cells (aC x ⟨#[]⟩ ⟨0, 0, 0, ⟨#[]⟩⟩) 31))
  have hb2 := below_a w1 (.cells (aC x ⟨#[]⟩ ⟨0, 0, 0, ⟨#[]⟩⟩) 31)
  have s2 := Lib.hid (q1.out.kept hb2)
  have g2 := Lib.hid (but_trans (but_trans hg0.out q2.out) (but_of (r := some g) hb2))
  have hrow2 := Lib.hid (rowB hrow1.out hb2 (Array.getElem?_eq_some_iff.1 hrow1.out).1)
  have hg3 := Lib.hid (show w.heap.size < w1.heap.size from Nat.lt_of_lt_of_le hWs.out q2.out.size)
  clear hb2 q1 q2 hrow1 hrow hX hg0
  change Code.wp _ _ _ _ (w1.alloc (.cells (aC x ⟨#[]⟩ ⟨0, 0, 0, ⟨#[]⟩⟩) 31))
  generalize w1.heap.size = g3 at *
  generalize w1.alloc (.cells (aC x ⟨#[]⟩ ⟨0, 0, 0, ⟨#[]⟩⟩) 31) = w2 at *
  have hgg3 := Lib.hid (show g ≠ g3 by have := hlt.out; have := hg3.out; omega)
  have hgw := Lib.hid (show g ≠ w.heap.size by have := hlt.out; omega)
  have hWg3 := Lib.hid (show W0.heap.size ≤ g3 by have := hbs.out; have := hg3.out; omega)
  obtain ⟨k0, k1, k2, k3, k4, k5⟩ := (six_of hl1.out).1
  by_cases hk1 : x = 1
  · have t1 : (x != 1) = false := by rw [hk1]; rfl
    have t4 : (x == 4) = false := by rw [hk1]; rfl
    have hE := Lib.hid (act_ends1 q5.out hk1)
    have hR := Lib.hid (show RdOut W0 g w l fl (rAct l) ⟨x, ⟨#[]⟩, ⟨0, 0, 0, ⟨#[]⟩⟩⟩ w2 from ⟨l1, f1, s2.out, g2.out, q3.out, q4.out, hE.out⟩)
    clear q5 hk1 hE
    go_wp2_with (first
      | (refine wpList_load_row_g rfl 31 _ rfl g3 rfl 31 (aC x ⟨#[]⟩ ⟨0, 0, 0, ⟨#[]⟩⟩) (0, 0) _ hl1.out Tryz.underlying31 rfl info_act ?_)
      | (refine storeOver _ w.heap.size _ rfl 31 _ _ rfl (aC x ⟨#[]⟩ ⟨0, 0, 0, ⟨#[]⟩⟩) 31 hrow2.out rfl rfl info_act rfl (act_one _ _ _ _ _ _) ?_; intro w9 hr9 hb9; have hr9' := Lib.hid hr9; have hb9' := Lib.hid hb9; clear hr9 hb9))
    exact bodyPost_ret (results_cell_row rfl _ _ w.heap.size 31 _ _ _ rfl hr9'.out Tryz.underlying31 rfl info_act) rfl ⟨⟨x, ⟨#[]⟩, ⟨0, 0, 0, ⟨#[]⟩⟩⟩, rfl, hx.out, nil_size, fit_zero, RdOut.low hR.out hb9'.out hlt.out hbs.out⟩
  · have t1 : (x != 1) = true := by simpa using hk1
    have hK := Lib.hid (key_rd s2.out q4.out (by have := hll.out; have := q3.out; omega))
    have hk1 := Lib.hid hk1
    go_upto_region 4 with (go_at_call 144; (with_reducible refine (hK.out).mono ?_); rintro e w3 ⟨s, rfl, hs, l2, f2, p1, p2, p3, p4, p5⟩; have hs := Lib.hid hs; have p1 := Lib.hid p1; have p2 := Lib.hid p2; have p3 := Lib.hid p3; have p4 := Lib.hid p4; have p5 := Lib.hid p5; have hl3 := Lib.hid (butRow p2.out hl1.out hgg3.out); clear k0 k1 k2 k3 k4 k5; obtain ⟨⟨k0, k1, k2, k3, k4, k5⟩, y0, y1, y2, y3, y4, y5⟩ := six_of hl3.out)
    have hrow4 := Lib.hid ((setCell_rows g3 1 (.string s) w.heap.size (by have := hg3.out; omega)).trans (butRow p2.out hrow2.out hgw.out))
    have hl4 := Lib.hid (show (w3.setCell ⟨g3, 1, none⟩ (.string s)).heap[g3]? = some (.cells (aC x s ⟨0, 0, 0, ⟨#[]⟩⟩) 31 (0, 0)) from setCell_row hl3.out 1 _)
    have s4 := Lib.hid (p1.out.other hgg3.out hWg3.out 1 (.string s))
    have g4 := Lib.hid (but_set (but_trans g2.out p2.out) g3 1 (.string s) (Nat.le_of_lt hg3.out))
    clear p1 p2 hl3 k0 k1 k2 k3 k4 k5 y0 y1 y2 y3 y4 y5 hl1 hrow2 s2 g2 hK
    generalize w3.setCell ⟨g3, 1, none⟩ (.string s) = w4 at *
    obtain ⟨k0, k1, k2, k3, k4, k5⟩ := (six_of hl4.out).1
    by_cases hk4 : x = 4
    · have t4 : (x == 4) = true := by rw [hk4]; rfl
      have hV := Lib.hid (value_rd s4.out p4.out (by have := hll.out; have := q3.out; have := p3.out; omega))
      go_upto_region 6 with (go_at_call 145; (with_reducible refine (hV.out).mono ?_); rintro e w5 ⟨⟨vk, vn, vb, vs⟩, rfl, hv, l3, f3, r1, r2, r3, r4, r5⟩; dsimp only at *; have hv := Lib.hid hv; have r1 := Lib.hid r1; have r2 := Lib.hid r2; have r3 := Lib.hid r3; have r4 := Lib.hid r4; have r5 := Lib.hid r5; have hl5 := Lib.hid (butRow r2.out hl4.out hgg3.out); clear k0 k1 k2 k3 k4 k5; obtain ⟨⟨k0, k1, k2, k3, k4, k5⟩, y0, y1, y2, y3, y4, y5⟩ := six_of hl5.out)
      have hne := Lib.hid (show w.heap.size ≠ g3 by have := hg3.out; omega)
      have hle := Lib.hid (Nat.le_of_lt hg3.out)
      have hl6 := Lib.hid (show ((((w5.setCell ⟨g3, 2, none⟩ (.int .u8 vk)).setCell ⟨g3, 3, none⟩ (.int .i64 vn)).setCell ⟨g3, 4, none⟩ (.int .u64 (vb : Int))).setCell ⟨g3, 5, none⟩ (.string vs)).heap[g3]? = some (.cells (aC x s ⟨vk, vn, vb, vs⟩) 31 (0, 0)) from setCell_row (setCell_row (setCell_row (setCell_row hl5.out 2 _) 3 _) 4 _) 5 _)
      have s6 := Lib.hid ((((r1.out.other hgg3.out hWg3.out 2 (.int .u8 vk)).other hgg3.out hWg3.out 3 (.int .i64 vn)).other hgg3.out hWg3.out 4 (.int .u64 (vb : Int))).other hgg3.out hWg3.out 5 (.string vs))
      have g6 := Lib.hid (but_set (but_set (but_set (but_set (but_trans g4.out r2.out) g3 2 (.int .u8 vk) hle.out) g3 3 (.int .i64 vn) hle.out) g3 4 (.int .u64 (vb : Int)) hle.out) g3 5 (.string vs) hle.out)
      have hrow6 := Lib.hid ((setCell_rows (w := ((w5.setCell ⟨g3, 2, none⟩ (.int .u8 vk)).setCell ⟨g3, 3, none⟩ (.int .i64 vn)).setCell ⟨g3, 4, none⟩ (.int .u64 (vb : Int))) g3 5 (.string vs) w.heap.size hne.out).trans ((setCell_rows (w := (w5.setCell ⟨g3, 2, none⟩ (.int .u8 vk)).setCell ⟨g3, 3, none⟩ (.int .i64 vn)) g3 4 (.int .u64 (vb : Int)) w.heap.size hne.out).trans ((setCell_rows (w := w5.setCell ⟨g3, 2, none⟩ (.int .u8 vk)) g3 3 (.int .i64 vn) w.heap.size hne.out).trans ((setCell_rows (w := w5) g3 2 (.int .u8 vk) w.heap.size hne.out).trans (butRow r2.out hrow4.out hgw.out)))))
      clear r1 r2 hl5 k0 k1 k2 k3 k4 k5 y0 y1 y2 y3 y4 y5 hl4 hrow4 s4 g4 hV
      generalize (((w5.setCell ⟨g3, 2, none⟩ (.int .u8 vk)).setCell ⟨g3, 3, none⟩ (.int .i64 vn)).setCell ⟨g3, 4, none⟩ (.int .u64 (vb : Int))).setCell ⟨g3, 5, none⟩ (.string vs) = w6 at *
      have hE := Lib.hid (act_ends3 q5.out p5.out r5.out hk1.out hk4)
      have hR := Lib.hid (show RdOut W0 g w l fl (rAct l) ⟨x, s, ⟨vk, vn, vb, vs⟩⟩ w6 from ⟨l3, f3, s6.out, g6.out, by have := q3.out; have := p3.out; have := r3.out; omega, r4.out, hE.out⟩)
      clear q5 p5 r5 hE
      go_wp2_with (first
        | (refine wpList_load_row_g rfl 31 _ rfl g3 rfl 31 (aC x s ⟨vk, vn, vb, vs⟩) (0, 0) _ hl6.out Tryz.underlying31 rfl info_act ?_)
        | (refine storeOver _ w.heap.size _ rfl 31 _ _ rfl (aC x s ⟨vk, vn, vb, vs⟩) 31 hrow6.out rfl rfl info_act rfl (act_one _ _ _ _ _ _) ?_; intro w9 hr9 hb9; have hr9' := Lib.hid hr9; have hb9' := Lib.hid hb9; clear hr9 hb9))
      exact bodyPost_ret (results_cell_row rfl _ _ w.heap.size 31 _ _ _ rfl hr9'.out Tryz.underlying31 rfl info_act) rfl ⟨⟨x, s, ⟨vk, vn, vb, vs⟩⟩, rfl, hx.out, hs.out, hv.out, RdOut.low hR.out hb9'.out hlt.out hbs.out⟩
    · have t4 : (x == 4) = false := by simpa using hk4
      have hE := Lib.hid (act_ends2 q5.out p5.out hk1.out hk4)
      have hR := Lib.hid (show RdOut W0 g w l fl (rAct l) ⟨x, s, ⟨0, 0, 0, ⟨#[]⟩⟩⟩ w4 from ⟨l2, f2, s4.out, g4.out, by have := q3.out; have := p3.out; omega, p4.out, hE.out⟩)
      clear q5 p5 hk4 hE
      go_wp2_with (first
        | (refine wpList_load_row_g rfl 31 _ rfl g3 rfl 31 (aC x s ⟨0, 0, 0, ⟨#[]⟩⟩) (0, 0) _ hl4.out Tryz.underlying31 rfl info_act ?_)
        | (refine storeOver _ w.heap.size _ rfl 31 _ _ rfl (aC x s ⟨0, 0, 0, ⟨#[]⟩⟩) 31 hrow4.out rfl rfl info_act rfl (act_one _ _ _ _ _ _) ?_; intro w9 hr9 hb9; have hr9' := Lib.hid hr9; have hb9' := Lib.hid hb9; clear hr9 hb9))
      exact bodyPost_ret (results_cell_row rfl _ _ w.heap.size 31 _ _ _ rfl hr9'.out Tryz.underlying31 rfl info_act) rfl ⟨⟨x, s, ⟨0, 0, 0, ⟨#[]⟩⟩⟩, rfl, hx.out, hs.out, fit_zero, RdOut.low hR.out hb9'.out hlt.out hbs.out⟩
end Go.Proofs.YtdlblhoaddfanaaGreatDoor.wir.val
namespace Go.Proofs.YtdlblhoaddfanaaGreatDoor.wir.val
open Go.RowKit Go.YtdlblhoaddfanaaGreatDoor
set_option linter.unusedVariables false
theorem eleven_of {w : World} {g : Nat} {x0 x1 x2 x3 x4 x5 x6 x7 x8 x9 x10 : Value} {T : TypeId} (h : w.heap[g]? = some (.cells #[x0, x1, x2, x3, x4, x5, x6, x7, x8, x9, x10] T (0, 0))) :
    (w.cell? ⟨g, 0, none⟩ = some x0 ∧ w.cell? ⟨g, 1, none⟩ = some x1 ∧ w.cell? ⟨g, 2, none⟩ = some x2 ∧ w.cell? ⟨g, 3, none⟩ = some x3 ∧ w.cell? ⟨g, 4, none⟩ = some x4 ∧ w.cell? ⟨g, 5, none⟩ = some x5 ∧ w.cell? ⟨g, 6, none⟩ = some x6 ∧ w.cell? ⟨g, 7, none⟩ = some x7 ∧ w.cell? ⟨g, 8, none⟩ = some x8 ∧ w.cell? ⟨g, 9, none⟩ = some x9 ∧ w.cell? ⟨g, 10, none⟩ = some x10) ∧
    w.frozen? ⟨g, 0, none⟩ = false ∧ w.frozen? ⟨g, 1, none⟩ = false ∧ w.frozen? ⟨g, 2, none⟩ = false ∧ w.frozen? ⟨g, 3, none⟩ = false ∧ w.frozen? ⟨g, 4, none⟩ = false ∧ w.frozen? ⟨g, 5, none⟩ = false ∧ w.frozen? ⟨g, 6, none⟩ = false ∧ w.frozen? ⟨g, 7, none⟩ = false ∧ w.frozen? ⟨g, 8, none⟩ = false ∧ w.frozen? ⟨g, 9, none⟩ = false ∧ w.frozen? ⟨g, 10, none⟩ = false :=
  ⟨⟨cell_of_row _ _ _ _ _ _ h, cell_of_row _ _ _ _ _ _ h, cell_of_row _ _ _ _ _ _ h, cell_of_row _ _ _ _ _ _ h, cell_of_row _ _ _ _ _ _ h, cell_of_row _ _ _ _ _ _ h, cell_of_row _ _ _ _ _ _ h, cell_of_row _ _ _ _ _ _ h, cell_of_row _ _ _ _ _ _ h, cell_of_row _ _ _ _ _ _ h, cell_of_row _ _ _ _ _ _ h⟩, frozen_of_row _ _ _ _ _ h, frozen_of_row _ _ _ _ _ h, frozen_of_row _ _ _ _ _ h, frozen_of_row _ _ _ _ _ h, frozen_of_row _ _ _ _ _ h, frozen_of_row _ _ _ _ _ h, frozen_of_row _ _ _ _ _ h, frozen_of_row _ _ _ _ _ h, frozen_of_row _ _ _ _ _ h, frozen_of_row _ _ _ _ _ h, frozen_of_row _ _ _ _ _ h⟩
theorem heldI_set {B k i : Nat} {w : World} {v x : Value} {n : Nat} {F : List Int} (h : HeldI B w v n F) (hk : k < B) : HeldI B (w.setCell ⟨k, i, none⟩ x) v n F :=
  heldI_but h hk (but_cell w k i x)
theorem heldI_setRow {B k : Nat} {w : World} {v : Value} {n : Nat} {F : List Int} (h : HeldI B w v n F) (hk : k < B) (cs : Array Value) : HeldI B (w.setRow k cs) v n F := fun wx h1 h2 =>
  have hs : w.heap.size ≤ (w.setRow k cs).heap.size := (below_setRow' (B := 0) (g := k) (Below.refl 0 w) (Nat.zero_le _) cs).size
  h wx (fun i k1 k2 => (h1 i k1 (Nat.lt_of_lt_of_le k2 hs)).trans (setRow_other w k i cs (by omega))) (Nat.le_trans hs h2)
theorem rOp_first {l : List Int} (h : rNext l = none) : rOp l = none := by unfold rOp; rw [if_pos (rNext_none h)]
theorem rOp_mark {l l1 : List Int} {x : Int} (h : rNext l = some (x, l1)) (hx : ¬ x = 111) : rOp l = none := by
  obtain ⟨a1, a2, a3⟩ := rNext_some h
  unfold rOp; rw [if_neg a1, if_neg (by rw [a2]; exact hx)]
theorem rOp_go {l l1 : List Int} {x : Int} (h : rNext l = some (x, l1)) (hx : x = 111) : rOp l = (match rSmall l1 with
    | none => none
    | some a => match rIds a.2 with
      | none => none
      | some i => match rNum i.2 with
        | none => none
        | some t => match rAct t.2 with
          | none => none
          | some c => match rSmall c.2 with
            | none => none
            | some x => match rSmall x.2 with
              | none => none
              | some y => some (⟨a.1, i.1.1, i.1.2, t.1, c.1.k, c.1.key, c.1.v, x.1, y.1⟩, y.2)) := by
  obtain ⟨a1, a2, a3⟩ := rNext_some h
  unfold rOp; rw [if_neg a1, if_pos (by rw [a2]; exact hx), a3]
  all_goals rfl
theorem op_ends {l l1 l2 l3 l4 l5 l6 l7 F : List Int} {fl f1 f1' f2 f3 f4 f5 f6 f7 : Bool} {x : Int} {au n st e s : Nat} {c : Ac} (q1 : Ends fl (rNext l) x l1 f1) (hx : f1' = if x = 111 then f1 else true)
    (q2 : Ends f1' (rSmall l1) au l2 f2) (q3 : Ends f2 (rIds l2) (n, F) l3 f3) (q4 : Ends f3 (rNum l3) st l4 f4) (q5 : Ends f4 (rAct l4) c l5 f5) (q6 : Ends f5 (rSmall l5) e l6 f6) (q7 : Ends f6 (rSmall l6) s l7 f7) :
    Ends fl (rOp l) (⟨au, n, F, st, c.k, c.key, c.v, e, s⟩ : Od) l7 f7 := by
  have up : f1' = true → f7 = true := fun h => q7.up (q6.up (q5.up (q4.up (q3.up (q2.up h)))))
  rcases q1 with ⟨h1, h2⟩ | ⟨h1, h2⟩
  · refine .inl ⟨up ?_, rOp_first h2⟩
    rw [hx]; split
    · exact h1
    · rfl
  by_cases h111 : x = 111
  · rw [if_pos h111] at hx
    have hg := rOp_go h2 h111
    rcases q2 with ⟨a1, a2⟩ | ⟨a1, a2⟩
    · exact .inl ⟨q7.up (q6.up (q5.up (q4.up (q3.up a1)))), by rw [hg, a2]⟩
    rcases q3 with ⟨b1, b2⟩ | ⟨b1, b2⟩
    · exact .inl ⟨q7.up (q6.up (q5.up (q4.up b1))), by rw [hg, a2]; simp only [b2]⟩
    rcases q4 with ⟨c1, c2⟩ | ⟨c1, c2⟩
    · exact .inl ⟨q7.up (q6.up (q5.up c1)), by rw [hg, a2]; simp only [b2, c2]⟩
    rcases q5 with ⟨d1, d2⟩ | ⟨d1, d2⟩
    · exact .inl ⟨q7.up (q6.up d1), by rw [hg, a2]; simp only [b2, c2, d2]⟩
    rcases q6 with ⟨e1, e2⟩ | ⟨e1, e2⟩
    · exact .inl ⟨q7.up e1, by rw [hg, a2]; simp only [b2, c2, d2, e2]⟩
    rcases q7 with ⟨g1, g2⟩ | ⟨g1, g2⟩
    · exact .inl ⟨g1, by rw [hg, a2]; simp only [b2, c2, d2, e2, g2]⟩
    · exact .inr ⟨by rw [g1, e1, d1, c1, b1, a1, hx, h1], by rw [hg, a2]; simp only [b2, c2, d2, e2, g2]⟩
  · exact .inl ⟨up (by rw [hx, if_neg h111]), rOp_mark h2 h111⟩
set_option maxHeartbeats 4000000 in
set_option maxRecDepth 100000 in
theorem operation_rd {W0 w : World} {g : Nat} {l : List Int} {fl : Bool} (h : St W0 g w l fl) (hl : Bytes l) (hlm : l.length ≤ 1000000) :
    Calls Tryz.prog 70 #[.pointer (some ⟨g, 0, none⟩)] w fun e w' => ∃ (o : Od) (a : Option Addr) (c : Nat), e = .returned (.agg (o.c (.slice a o.n c))) ∧ o.Fit ∧ o.n ≤ 4 ∧ HeldI w.heap.size w' (.slice a o.n c) o.n o.F ∧ RdOut W0 g w l fl (rOp l) o w' := by
  have hlt := Lib.hid h.lt
  have hB0 := below_a w (.cells #[.int .u32 0, .slice none 0 0, .int .u64 0, .int .u8 0, .string ⟨#[]⟩, .int .u8 0, .int .i64 0, .int .u64 0, .string ⟨#[]⟩, .int .u32 0, .int .u32 0] 35)
  have hrow := Lib.hid (heap_alloc_new w (.cells #[.int .u32 0, .slice none 0 0, .int .u64 0, .int .u8 0, .string ⟨#[]⟩, .int .u8 0, .int .i64 0, .int .u64 0, .string ⟨#[]⟩, .int .u32 0, .int .u32 0] 35))
  obtain ⟨W, hW⟩ : ∃ W, W = w.alloc (.cells #[.int .u32 0, .slice none 0 0, .int .u64 0, .int .u8 0, .string ⟨#[]⟩, .int .u8 0, .int .i64 0, .int .u64 0, .string ⟨#[]⟩, .int .u32 0, .int .u32 0] 35) := ⟨_, rfl⟩
  rw [← hW] at hrow hB0
  have hX := Lib.hid (next_any (h.kept hB0) hl hlm)
  have hWs := Lib.hid (show w.heap.size < W.heap.size from (Array.getElem?_eq_some_iff.1 hrow.out).1)
  have hbs := Lib.hid h.b.size
  have hg0 := Lib.hid (but_of (r := some g) hB0)
  have hll := Lib.hid hlm
  clear h hl hB0 hlm
  go_enter Tryz.func70, Tryz.ntmps70
  go_upto_region 1 with fail
  rw [← hW]
  clear hW
  go_upto_if 6 with (go_at_call 98; (with_reducible refine (hX.out).mono ?_); rintro e w1 ⟨x, rfl, hx, l1, f1, q1, q2, q3, q4, q5⟩; have hx := Lib.hid hx; have q1 := Lib.hid q1; have q2 := Lib.hid q2; have q3 := Lib.hid q3; have q4 := Lib.hid q4; have q5 := Lib.hid q5; have hrow1 := Lib.hid (butRow q2.out hrow.out (by have := hlt.out; omega)))
  by_cases hx1 : x = 111
  · have t1 : (x != 111) = false := by rw [hx1]; rfl
    obtain ⟨f1x, hfx0⟩ : ∃ f, f = f1 := ⟨_, rfl⟩
    have hfx := Lib.hid (show f1x = if x = 111 then f1 else true by rw [if_pos hx1]; exact hfx0)
    rw [← hfx0] at q1
    clear hfx0
    go_upto_region 4 with fail
    have hl := Lib.hid (heap_alloc_new w1 (.cells #[.int .u32 0, .slice none 0 0, .int .u64 0, .int .u8 0, .string ⟨#[]⟩, .int .u8 0, .int .i64 0, .int .u64 0, .string ⟨#[]⟩, .int .u32 0, .int .u32 0] 35))
    have hbz := below_a w1 (.cells #[.int .u32 0, .slice none 0 0, .int .u64 0, .int .u8 0, .string ⟨#[]⟩, .int .u8 0, .int .i64 0, .int .u64 0, .string ⟨#[]⟩, .int .u32 0, .int .u32 0] 35)
    have ss := Lib.hid (q1.out.kept hbz)
    have gg := Lib.hid (but_trans (but_trans hg0.out q2.out) (but_of (r := some g) hbz))
    have hr := Lib.hid (rowB hrow1.out hbz (Array.getElem?_eq_some_iff.1 hrow1.out).1)
    have hg3 := Lib.hid (show w.heap.size < w1.heap.size from Nat.lt_of_lt_of_le hWs.out q2.out.size)
    have hWz := Lib.hid (show w.heap.size ≤ w1.heap.size from Nat.le_of_lt hg3.out)
    clear hbz q1 q2 hrow1 hrow hX hg0
    generalize w1.heap.size = g3 at *
    generalize w1.alloc (.cells #[.int .u32 0, .slice none 0 0, .int .u64 0, .int .u8 0, .string ⟨#[]⟩, .int .u8 0, .int .i64 0, .int .u64 0, .string ⟨#[]⟩, .int .u32 0, .int .u32 0] 35) = wy at *
    have hgg3 := Lib.hid (show g ≠ g3 by have := hlt.out; have := hg3.out; omega)
    have hgw := Lib.hid (show g ≠ w.heap.size by have := hlt.out; omega)
    have hWg3 := Lib.hid (show W0.heap.size ≤ g3 by have := hbs.out; have := hg3.out; omega)
    have hne := Lib.hid (show w.heap.size ≠ g3 by have := hg3.out; omega)
    have hle := Lib.hid (Nat.le_of_lt hg3.out)
    have hM := Lib.hid (small_rd ss.out q4.out (by have := hll.out; have := q3.out; omega))
    go_upto_region 5 with (go_at_call 99; (with_reducible refine (hM.out).mono ?_); rintro e wz ⟨au, rfl, hau, l2, f2, ra, rb, z1c, z1d, z1e⟩; have hau := Lib.hid hau; have ra := Lib.hid ra; have rb := Lib.hid rb; have z1c := Lib.hid z1c; have z1d := Lib.hid z1d; have z1e := Lib.hid z1e; replace hl := Lib.hid (butRow rb.out hl.out hgg3.out); obtain ⟨⟨k0, k1, k2, k3, k4, k5, k6, k7, k8, k9, k10⟩, y0, y1, y2, y3, y4, y5, y6, y7, y8, y9, y10⟩ := eleven_of hl.out)
    have hlx := Lib.hid (show (wz.setCell ⟨g3, 0, none⟩ (.int .u32 (au : Int))).heap[g3]? = some (.cells #[.int .u32 (au : Int), .slice none 0 0, .int .u64 0, .int .u8 0, .string ⟨#[]⟩, .int .u8 0, .int .i64 0, .int .u64 0, .string ⟨#[]⟩, .int .u32 0, .int .u32 0] 35 (0, 0)) from (setCell_row hl.out 0 (.int .u32 (au : Int))))
    have sx := Lib.hid (ra.out.other hgg3.out hWg3.out 0 (.int .u32 (au : Int)))
    have gx := Lib.hid (but_set (but_trans gg.out rb.out) g3 0 (.int .u32 (au : Int)) hle.out)
    have rx := Lib.hid ((setCell_rows (w := wz) g3 0 (.int .u32 (au : Int)) w.heap.size hne.out).trans (butRow rb.out hr.out hgw.out))
    clear hl ss gg hr ra rb hM k0 y0 k1 y1 k2 y2 k3 y3 k4 y4 k5 y5 k6 y6 k7 y7 k8 y8 k9 y9 k10 y10
    have hl := hlx; have ss := sx; have gg := gx; have hr := rx; clear hlx sx gx rx
    generalize (wz.setCell ⟨g3, 0, none⟩ (.int .u32 (au : Int))) = wy1 at *
    have hlo := hl
    have hM := Lib.hid (ids_rd ss.out z1d.out (by have := hll.out; have := q3.out; have := z1c.out; omega))
    go_upto_region 6 with (go_at_call 100; (with_reducible refine (hM.out).mono ?_); rintro e wz ⟨ia, n, ic, F, rfl, hI, hFb, hn4, l3, f3, ra, rb, z2c, z2d, z2e⟩; have hI := Lib.hid hI; have hFb := Lib.hid hFb; have hn4 := Lib.hid hn4; have ra := Lib.hid ra; have rb := Lib.hid rb; have z2c := Lib.hid z2c; have z2d := Lib.hid z2d; have z2e := Lib.hid z2e; replace hl := Lib.hid (butRow rb.out hl.out hgg3.out); obtain ⟨⟨k0, k1, k2, k3, k4, k5, k6, k7, k8, k9, k10⟩, y0, y1, y2, y3, y4, y5, y6, y7, y8, y9, y10⟩ := eleven_of hl.out)
    have hgI := Lib.hid (show g < wy1.heap.size from ss.out.lt)
    have hg3I := Lib.hid (show g3 < wy1.heap.size from (Array.getElem?_eq_some_iff.1 hlo.out).1)
    have hWI := Lib.hid (show w.heap.size < wy1.heap.size from Nat.lt_trans hg3.out hg3I.out)
    have hlx := Lib.hid (show (wz.setCell ⟨g3, 1, none⟩ (.slice ia n ic)).heap[g3]? = some (.cells #[.int .u32 (au : Int), .slice ia n ic, .int .u64 0, .int .u8 0, .string ⟨#[]⟩, .int .u8 0, .int .i64 0, .int .u64 0, .string ⟨#[]⟩, .int .u32 0, .int .u32 0] 35 (0, 0)) from (setCell_row hl.out 1 (.slice ia n ic)))
    have sx := Lib.hid (ra.out.other hgg3.out hWg3.out 1 (.slice ia n ic))
    have gx := Lib.hid (but_set (but_trans gg.out rb.out) g3 1 (.slice ia n ic) hle.out)
    have rx := Lib.hid ((setCell_rows (w := wz) g3 1 (.slice ia n ic) w.heap.size hne.out).trans (butRow rb.out hr.out hgw.out))
    replace hI := Lib.hid (heldI_set (k := g3) (i := 1) (x := .slice ia n ic) hI.out hg3I.out)
    clear hl ss gg hr ra rb hM k0 y0 k1 y1 k2 y2 k3 y3 k4 y4 k5 y5 k6 y6 k7 y7 k8 y8 k9 y9 k10 y10
    have hl := hlx; have ss := sx; have gg := gx; have hr := rx; clear hlx sx gx rx
    generalize (wz.setCell ⟨g3, 1, none⟩ (.slice ia n ic)) = wy2 at *
    have hM := Lib.hid (number_rd ss.out z2d.out (by have := hll.out; have := q3.out; have := z1c.out; have := z2c.out; omega))
    go_upto_region 7 with (go_at_call 101; (with_reducible refine (hM.out).mono ?_); rintro e wz ⟨st, rfl, hst, l4, f4, ra, rb, z3c, z3d, z3e⟩; have hst := Lib.hid hst; have ra := Lib.hid ra; have rb := Lib.hid rb; have z3c := Lib.hid z3c; have z3d := Lib.hid z3d; have z3e := Lib.hid z3e; replace hl := Lib.hid (butRow rb.out hl.out hgg3.out); obtain ⟨⟨k0, k1, k2, k3, k4, k5, k6, k7, k8, k9, k10⟩, y0, y1, y2, y3, y4, y5, y6, y7, y8, y9, y10⟩ := eleven_of hl.out)
    replace hI := Lib.hid (heldI_but hI.out hgI.out rb.out)
    have hlx := Lib.hid (show (wz.setCell ⟨g3, 2, none⟩ (.int .u64 (st : Int))).heap[g3]? = some (.cells #[.int .u32 (au : Int), .slice ia n ic, .int .u64 (st : Int), .int .u8 0, .string ⟨#[]⟩, .int .u8 0, .int .i64 0, .int .u64 0, .string ⟨#[]⟩, .int .u32 0, .int .u32 0] 35 (0, 0)) from (setCell_row hl.out 2 (.int .u64 (st : Int))))
    have sx := Lib.hid (ra.out.other hgg3.out hWg3.out 2 (.int .u64 (st : Int)))
    have gx := Lib.hid (but_set (but_trans gg.out rb.out) g3 2 (.int .u64 (st : Int)) hle.out)
    have rx := Lib.hid ((setCell_rows (w := wz) g3 2 (.int .u64 (st : Int)) w.heap.size hne.out).trans (butRow rb.out hr.out hgw.out))
    replace hI := Lib.hid (heldI_set (k := g3) (i := 2) (x := .int .u64 (st : Int)) hI.out hg3I.out)
    clear hl ss gg hr ra rb hM k0 y0 k1 y1 k2 y2 k3 y3 k4 y4 k5 y5 k6 y6 k7 y7 k8 y8 k9 y9 k10 y10
    have hl := hlx; have ss := sx; have gg := gx; have hr := rx; clear hlx sx gx rx
    generalize (wz.setCell ⟨g3, 2, none⟩ (.int .u64 (st : Int))) = wy3 at *
    have hM := Lib.hid (act_rd ss.out z3d.out (by have := hll.out; have := q3.out; have := z1c.out; have := z2c.out; have := z3c.out; omega))
    go_upto_region 8 with (go_at_call 102; (with_reducible refine (hM.out).mono ?_); rintro e wz ⟨⟨ck, ckey, vk, vn, vb, vs⟩, rfl, hck, hckey, hcv, l5, f5, ra, rb, z4c, z4d, z4e⟩; dsimp only at *; have hck := Lib.hid hck; have hckey := Lib.hid hckey; have hcv := Lib.hid hcv; have ra := Lib.hid ra; have rb := Lib.hid rb; have z4c := Lib.hid z4c; have z4d := Lib.hid z4d; have z4e := Lib.hid z4e; replace hl := Lib.hid (butRow rb.out hl.out hgg3.out); obtain ⟨⟨k0, k1, k2, k3, k4, k5, k6, k7, k8, k9, k10⟩, y0, y1, y2, y3, y4, y5, y6, y7, y8, y9, y10⟩ := eleven_of hl.out)
    replace hI := Lib.hid (heldI_but hI.out hgI.out rb.out)
    have hlx := Lib.hid (show ((((((wz.setCell ⟨g3, 3, none⟩ (.int .u8 ck)).setCell ⟨g3, 4, none⟩ (.string ckey)).setCell ⟨g3, 5, none⟩ (.int .u8 vk)).setCell ⟨g3, 6, none⟩ (.int .i64 vn)).setCell ⟨g3, 7, none⟩ (.int .u64 (vb : Int))).setCell ⟨g3, 8, none⟩ (.string vs)).heap[g3]? = some (.cells #[.int .u32 (au : Int), .slice ia n ic, .int .u64 (st : Int), .int .u8 ck, .string ckey, .int .u8 vk, .int .i64 vn, .int .u64 (vb : Int), .string vs, .int .u32 0, .int .u32 0] 35 (0, 0)) from (setCell_row (setCell_row (setCell_row (setCell_row (setCell_row (setCell_row hl.out 3 (.int .u8 ck)) 4 (.string ckey)) 5 (.int .u8 vk)) 6 (.int .i64 vn)) 7 (.int .u64 (vb : Int))) 8 (.string vs)))
    have sx := Lib.hid ((((((ra.out.other hgg3.out hWg3.out 3 (.int .u8 ck)).other hgg3.out hWg3.out 4 (.string ckey)).other hgg3.out hWg3.out 5 (.int .u8 vk)).other hgg3.out hWg3.out 6 (.int .i64 vn)).other hgg3.out hWg3.out 7 (.int .u64 (vb : Int))).other hgg3.out hWg3.out 8 (.string vs))
    have gx := Lib.hid (but_set (but_set (but_set (but_set (but_set (but_set (but_trans gg.out rb.out) g3 3 (.int .u8 ck) hle.out) g3 4 (.string ckey) hle.out) g3 5 (.int .u8 vk) hle.out) g3 6 (.int .i64 vn) hle.out) g3 7 (.int .u64 (vb : Int)) hle.out) g3 8 (.string vs) hle.out)
    have rx := Lib.hid ((setCell_rows (w := (((((wz.setCell ⟨g3, 3, none⟩ (.int .u8 ck)).setCell ⟨g3, 4, none⟩ (.string ckey)).setCell ⟨g3, 5, none⟩ (.int .u8 vk)).setCell ⟨g3, 6, none⟩ (.int .i64 vn)).setCell ⟨g3, 7, none⟩ (.int .u64 (vb : Int)))) g3 8 (.string vs) w.heap.size hne.out).trans ((setCell_rows (w := ((((wz.setCell ⟨g3, 3, none⟩ (.int .u8 ck)).setCell ⟨g3, 4, none⟩ (.string ckey)).setCell ⟨g3, 5, none⟩ (.int .u8 vk)).setCell ⟨g3, 6, none⟩ (.int .i64 vn))) g3 7 (.int .u64 (vb : Int)) w.heap.size hne.out).trans ((setCell_rows (w := (((wz.setCell ⟨g3, 3, none⟩ (.int .u8 ck)).setCell ⟨g3, 4, none⟩ (.string ckey)).setCell ⟨g3, 5, none⟩ (.int .u8 vk))) g3 6 (.int .i64 vn) w.heap.size hne.out).trans ((setCell_rows (w := ((wz.setCell ⟨g3, 3, none⟩ (.int .u8 ck)).setCell ⟨g3, 4, none⟩ (.string ckey))) g3 5 (.int .u8 vk) w.heap.size hne.out).trans ((setCell_rows (w := (wz.setCell ⟨g3, 3, none⟩ (.int .u8 ck))) g3 4 (.string ckey) w.heap.size hne.out).trans ((setCell_rows (w := wz) g3 3 (.int .u8 ck) w.heap.size hne.out).trans (butRow rb.out hr.out hgw.out)))))))
    replace hI := Lib.hid (heldI_set (k := g3) (i := 8) (x := .string vs) (heldI_set (k := g3) (i := 7) (x := .int .u64 (vb : Int)) (heldI_set (k := g3) (i := 6) (x := .int .i64 vn) (heldI_set (k := g3) (i := 5) (x := .int .u8 vk) (heldI_set (k := g3) (i := 4) (x := .string ckey) (heldI_set (k := g3) (i := 3) (x := .int .u8 ck) hI.out hg3I.out) hg3I.out) hg3I.out) hg3I.out) hg3I.out) hg3I.out)
    clear hl ss gg hr ra rb hM k0 y0 k1 y1 k2 y2 k3 y3 k4 y4 k5 y5 k6 y6 k7 y7 k8 y8 k9 y9 k10 y10
    have hl := hlx; have ss := sx; have gg := gx; have hr := rx; clear hlx sx gx rx
    generalize ((((((wz.setCell ⟨g3, 3, none⟩ (.int .u8 ck)).setCell ⟨g3, 4, none⟩ (.string ckey)).setCell ⟨g3, 5, none⟩ (.int .u8 vk)).setCell ⟨g3, 6, none⟩ (.int .i64 vn)).setCell ⟨g3, 7, none⟩ (.int .u64 (vb : Int))).setCell ⟨g3, 8, none⟩ (.string vs)) = wy4 at *
    have hM := Lib.hid (small_rd ss.out z4d.out (by have := hll.out; have := q3.out; have := z1c.out; have := z2c.out; have := z3c.out; have := z4c.out; omega))
    go_upto_region 9 with (go_at_call 99; (with_reducible refine (hM.out).mono ?_); rintro e wz ⟨ee, rfl, hee, l6, f6, ra, rb, z5c, z5d, z5e⟩; have hee := Lib.hid hee; have ra := Lib.hid ra; have rb := Lib.hid rb; have z5c := Lib.hid z5c; have z5d := Lib.hid z5d; have z5e := Lib.hid z5e; replace hl := Lib.hid (butRow rb.out hl.out hgg3.out); obtain ⟨⟨k0, k1, k2, k3, k4, k5, k6, k7, k8, k9, k10⟩, y0, y1, y2, y3, y4, y5, y6, y7, y8, y9, y10⟩ := eleven_of hl.out)
    replace hI := Lib.hid (heldI_but hI.out hgI.out rb.out)
    have hlx := Lib.hid (show (wz.setCell ⟨g3, 9, none⟩ (.int .u32 (ee : Int))).heap[g3]? = some (.cells #[.int .u32 (au : Int), .slice ia n ic, .int .u64 (st : Int), .int .u8 ck, .string ckey, .int .u8 vk, .int .i64 vn, .int .u64 (vb : Int), .string vs, .int .u32 (ee : Int), .int .u32 0] 35 (0, 0)) from (setCell_row hl.out 9 (.int .u32 (ee : Int))))
    have sx := Lib.hid (ra.out.other hgg3.out hWg3.out 9 (.int .u32 (ee : Int)))
    have gx := Lib.hid (but_set (but_trans gg.out rb.out) g3 9 (.int .u32 (ee : Int)) hle.out)
    have rx := Lib.hid ((setCell_rows (w := wz) g3 9 (.int .u32 (ee : Int)) w.heap.size hne.out).trans (butRow rb.out hr.out hgw.out))
    replace hI := Lib.hid (heldI_set (k := g3) (i := 9) (x := .int .u32 (ee : Int)) hI.out hg3I.out)
    clear hl ss gg hr ra rb hM k0 y0 k1 y1 k2 y2 k3 y3 k4 y4 k5 y5 k6 y6 k7 y7 k8 y8 k9 y9 k10 y10
    have hl := hlx; have ss := sx; have gg := gx; have hr := rx; clear hlx sx gx rx
    generalize (wz.setCell ⟨g3, 9, none⟩ (.int .u32 (ee : Int))) = wy5 at *
    have hM := Lib.hid (small_rd ss.out z5d.out (by have := hll.out; have := q3.out; have := z1c.out; have := z2c.out; have := z3c.out; have := z4c.out; have := z5c.out; omega))
    go_upto_region 10 with (go_at_call 99; (with_reducible refine (hM.out).mono ?_); rintro e wz ⟨es, rfl, hes, l7, f7, ra, rb, z6c, z6d, z6e⟩; have hes := Lib.hid hes; have ra := Lib.hid ra; have rb := Lib.hid rb; have z6c := Lib.hid z6c; have z6d := Lib.hid z6d; have z6e := Lib.hid z6e; replace hl := Lib.hid (butRow rb.out hl.out hgg3.out); obtain ⟨⟨k0, k1, k2, k3, k4, k5, k6, k7, k8, k9, k10⟩, y0, y1, y2, y3, y4, y5, y6, y7, y8, y9, y10⟩ := eleven_of hl.out)
    replace hI := Lib.hid (heldI_but hI.out hgI.out rb.out)
    have hlx := Lib.hid (show (wz.setCell ⟨g3, 10, none⟩ (.int .u32 (es : Int))).heap[g3]? = some (.cells #[.int .u32 (au : Int), .slice ia n ic, .int .u64 (st : Int), .int .u8 ck, .string ckey, .int .u8 vk, .int .i64 vn, .int .u64 (vb : Int), .string vs, .int .u32 (ee : Int), .int .u32 (es : Int)] 35 (0, 0)) from (setCell_row hl.out 10 (.int .u32 (es : Int))))
    have sx := Lib.hid (ra.out.other hgg3.out hWg3.out 10 (.int .u32 (es : Int)))
    have gx := Lib.hid (but_set (but_trans gg.out rb.out) g3 10 (.int .u32 (es : Int)) hle.out)
    have rx := Lib.hid ((setCell_rows (w := wz) g3 10 (.int .u32 (es : Int)) w.heap.size hne.out).trans (butRow rb.out hr.out hgw.out))
    replace hI := Lib.hid (heldI_set (k := g3) (i := 10) (x := .int .u32 (es : Int)) hI.out hg3I.out)
    clear hl ss gg hr ra rb hM k0 y0 k1 y1 k2 y2 k3 y3 k4 y4 k5 y5 k6 y6 k7 y7 k8 y8 k9 y9 k10 y10
    have hl := hlx; have ss := sx; have gg := gx; have hr := rx; clear hlx sx gx rx
    generalize (wz.setCell ⟨g3, 10, none⟩ (.int .u32 (es : Int))) = wy6 at *
    have hE := Lib.hid (op_ends (c := ⟨ck, ckey, vk, vn, vb, vs⟩) q5.out hfx.out z1e.out z2e.out z3e.out z4e.out z5e.out z6e.out)
    have hR := Lib.hid (show RdOut W0 g w l fl (rOp l) (⟨au, n, F, st, ck, ckey, ⟨vk, vn, vb, vs⟩, ee, es⟩ : Od) wy6 from ⟨l7, f7, ss.out, gg.out, by have := q3.out; have := z1c.out; have := z2c.out; have := z3c.out; have := z4c.out; have := z5c.out; have := z6c.out; omega, z6d.out, hE.out⟩)
    clear q5 z1e z2e z3e z4e z5e z6e hE ss gg
    go_wp2_with (first
      | (refine wpList_load_row_g rfl 35 _ rfl g3 rfl 35 ((⟨au, n, F, st, ck, ckey, ⟨vk, vn, vb, vs⟩, ee, es⟩ : Od).c (.slice ia n ic)) (0, 0) _ hl.out Tryz.underlying35 rfl info_op ?_)
      | (refine wpList_store_row rfl 35 _ _ rfl w.heap.size ((⟨au, n, F, st, ck, ckey, ⟨vk, vn, vb, vs⟩, ee, es⟩ : Od).c (.slice ia n ic)) rfl rfl 35 _ hr.out info_op rfl (op_one ⟨au, n, F, st, ck, ckey, ⟨vk, vn, vb, vs⟩, ee, es⟩ ia n ic) ?_; have hr9 := Lib.hid (setRow_heap _ _ _ ((⟨au, n, F, st, ck, ckey, ⟨vk, vn, vb, vs⟩, ee, es⟩ : Od).c (.slice ia n ic)) _ _ hr.out); have hb9 := Lib.hid (below_setRow' (B := w.heap.size) (g := w.heap.size) (Below.refl _ wy6) (Nat.le_refl _) ((⟨au, n, F, st, ck, ckey, ⟨vk, vn, vb, vs⟩, ee, es⟩ : Od).c (.slice ia n ic)))))
    exact bodyPost_ret (results_cell_row rfl _ _ w.heap.size 35 _ _ _ rfl hr9.out Tryz.underlying35 rfl info_op) rfl ⟨⟨au, n, F, st, ck, ckey, ⟨vk, vn, vb, vs⟩, ee, es⟩, ia, ic, rfl, ⟨hau.out, hFb.out, Nat.le_trans hn4.out (by decide), hst.out, hck.out, Nat.le_trans hckey.out (by decide), hcv.out, hee.out, hes.out⟩, hn4.out, heldI_lower (heldI_setRow hI.out hWI.out _) (Nat.le_of_lt hWI.out), RdOut.low hR.out hb9.out hlt.out hbs.out⟩
  · have t1 : (x != 111) = true := by simpa using hx1
    obtain ⟨f1x, hfx0⟩ : ∃ f, f = true := ⟨_, rfl⟩
    have hfx := Lib.hid (show f1x = if x = 111 then f1 else true by rw [if_neg hx1]; exact hfx0)
    obtain ⟨_, _, a1, c1, _, hrg⟩ := q1.out
    have u1 : w1.cell? ⟨g, 1, none⟩ = some (.bool f1) := cell_of_row _ _ _ _ _ _ hrg
    have y1 := frozen_of_row w1 g 1 _ _ hrg
    clear hrg
    go_upto_region 3 with fail
    replace q1 := Lib.hid q1.out.fail
    replace q2 := Lib.hid (but_trans q2.out (but_cell w1 g 1 (.bool true)))
    replace hrow1 := Lib.hid ((setCell_rows (w := w1) g 1 (.bool true) w.heap.size (by have := hlt.out; omega)).trans hrow1.out)
    clear u1 y1
    obtain ⟨w0y, hw0⟩ : ∃ w0y, w0y = w1.setCell ⟨g, 1, none⟩ (.bool true) := ⟨_, rfl⟩
    rw [← hw0] at q1 q2 hrow1 ⊢
    rw [← hfx0] at q1
    clear hfx0 hw0
    go_upto_region 4 with fail
    have hl := Lib.hid (heap_alloc_new w0y (.cells #[.int .u32 0, .slice none 0 0, .int .u64 0, .int .u8 0, .string ⟨#[]⟩, .int .u8 0, .int .i64 0, .int .u64 0, .string ⟨#[]⟩, .int .u32 0, .int .u32 0] 35))
    have hbz := below_a w0y (.cells #[.int .u32 0, .slice none 0 0, .int .u64 0, .int .u8 0, .string ⟨#[]⟩, .int .u8 0, .int .i64 0, .int .u64 0, .string ⟨#[]⟩, .int .u32 0, .int .u32 0] 35)
    have ss := Lib.hid (q1.out.kept hbz)
    have gg := Lib.hid (but_trans (but_trans hg0.out q2.out) (but_of (r := some g) hbz))
    have hr := Lib.hid (rowB hrow1.out hbz (Array.getElem?_eq_some_iff.1 hrow1.out).1)
    have hg3 := Lib.hid (show w.heap.size < w0y.heap.size from Nat.lt_of_lt_of_le hWs.out q2.out.size)
    have hWz := Lib.hid (show w.heap.size ≤ w0y.heap.size from Nat.le_of_lt hg3.out)
    clear hbz q1 q2 hrow1 hrow hX hg0
    generalize w0y.heap.size = g3 at *
    generalize w0y.alloc (.cells #[.int .u32 0, .slice none 0 0, .int .u64 0, .int .u8 0, .string ⟨#[]⟩, .int .u8 0, .int .i64 0, .int .u64 0, .string ⟨#[]⟩, .int .u32 0, .int .u32 0] 35) = wy at *
    have hgg3 := Lib.hid (show g ≠ g3 by have := hlt.out; have := hg3.out; omega)
    have hgw := Lib.hid (show g ≠ w.heap.size by have := hlt.out; omega)
    have hWg3 := Lib.hid (show W0.heap.size ≤ g3 by have := hbs.out; have := hg3.out; omega)
    have hne := Lib.hid (show w.heap.size ≠ g3 by have := hg3.out; omega)
    have hle := Lib.hid (Nat.le_of_lt hg3.out)
    have hM := Lib.hid (small_rd ss.out q4.out (by have := hll.out; have := q3.out; omega))
    go_upto_region 5 with (go_at_call 99; (with_reducible refine (hM.out).mono ?_); rintro e wz ⟨au, rfl, hau, l2, f2, ra, rb, z1c, z1d, z1e⟩; have hau := Lib.hid hau; have ra := Lib.hid ra; have rb := Lib.hid rb; have z1c := Lib.hid z1c; have z1d := Lib.hid z1d; have z1e := Lib.hid z1e; replace hl := Lib.hid (butRow rb.out hl.out hgg3.out); obtain ⟨⟨k0, k1, k2, k3, k4, k5, k6, k7, k8, k9, k10⟩, y0, y1, y2, y3, y4, y5, y6, y7, y8, y9, y10⟩ := eleven_of hl.out)
    have hlx := Lib.hid (show (wz.setCell ⟨g3, 0, none⟩ (.int .u32 (au : Int))).heap[g3]? = some (.cells #[.int .u32 (au : Int), .slice none 0 0, .int .u64 0, .int .u8 0, .string ⟨#[]⟩, .int .u8 0, .int .i64 0, .int .u64 0, .string ⟨#[]⟩, .int .u32 0, .int .u32 0] 35 (0, 0)) from (setCell_row hl.out 0 (.int .u32 (au : Int))))
    have sx := Lib.hid (ra.out.other hgg3.out hWg3.out 0 (.int .u32 (au : Int)))
    have gx := Lib.hid (but_set (but_trans gg.out rb.out) g3 0 (.int .u32 (au : Int)) hle.out)
    have rx := Lib.hid ((setCell_rows (w := wz) g3 0 (.int .u32 (au : Int)) w.heap.size hne.out).trans (butRow rb.out hr.out hgw.out))
    clear hl ss gg hr ra rb hM k0 y0 k1 y1 k2 y2 k3 y3 k4 y4 k5 y5 k6 y6 k7 y7 k8 y8 k9 y9 k10 y10
    have hl := hlx; have ss := sx; have gg := gx; have hr := rx; clear hlx sx gx rx
    generalize (wz.setCell ⟨g3, 0, none⟩ (.int .u32 (au : Int))) = wy1 at *
    have hlo := hl
    have hM := Lib.hid (ids_rd ss.out z1d.out (by have := hll.out; have := q3.out; have := z1c.out; omega))
    go_upto_region 6 with (go_at_call 100; (with_reducible refine (hM.out).mono ?_); rintro e wz ⟨ia, n, ic, F, rfl, hI, hFb, hn4, l3, f3, ra, rb, z2c, z2d, z2e⟩; have hI := Lib.hid hI; have hFb := Lib.hid hFb; have hn4 := Lib.hid hn4; have ra := Lib.hid ra; have rb := Lib.hid rb; have z2c := Lib.hid z2c; have z2d := Lib.hid z2d; have z2e := Lib.hid z2e; replace hl := Lib.hid (butRow rb.out hl.out hgg3.out); obtain ⟨⟨k0, k1, k2, k3, k4, k5, k6, k7, k8, k9, k10⟩, y0, y1, y2, y3, y4, y5, y6, y7, y8, y9, y10⟩ := eleven_of hl.out)
    have hgI := Lib.hid (show g < wy1.heap.size from ss.out.lt)
    have hg3I := Lib.hid (show g3 < wy1.heap.size from (Array.getElem?_eq_some_iff.1 hlo.out).1)
    have hWI := Lib.hid (show w.heap.size < wy1.heap.size from Nat.lt_trans hg3.out hg3I.out)
    have hlx := Lib.hid (show (wz.setCell ⟨g3, 1, none⟩ (.slice ia n ic)).heap[g3]? = some (.cells #[.int .u32 (au : Int), .slice ia n ic, .int .u64 0, .int .u8 0, .string ⟨#[]⟩, .int .u8 0, .int .i64 0, .int .u64 0, .string ⟨#[]⟩, .int .u32 0, .int .u32 0] 35 (0, 0)) from (setCell_row hl.out 1 (.slice ia n ic)))
    have sx := Lib.hid (ra.out.other hgg3.out hWg3.out 1 (.slice ia n ic))
    have gx := Lib.hid (but_set (but_trans gg.out rb.out) g3 1 (.slice ia n ic) hle.out)
    have rx := Lib.hid ((setCell_rows (w := wz) g3 1 (.slice ia n ic) w.heap.size hne.out).trans (butRow rb.out hr.out hgw.out))
    replace hI := Lib.hid (heldI_set (k := g3) (i := 1) (x := .slice ia n ic) hI.out hg3I.out)
    clear hl ss gg hr ra rb hM k0 y0 k1 y1 k2 y2 k3 y3 k4 y4 k5 y5 k6 y6 k7 y7 k8 y8 k9 y9 k10 y10
    have hl := hlx; have ss := sx; have gg := gx; have hr := rx; clear hlx sx gx rx
    generalize (wz.setCell ⟨g3, 1, none⟩ (.slice ia n ic)) = wy2 at *
    have hM := Lib.hid (number_rd ss.out z2d.out (by have := hll.out; have := q3.out; have := z1c.out; have := z2c.out; omega))
    go_upto_region 7 with (go_at_call 101; (with_reducible refine (hM.out).mono ?_); rintro e wz ⟨st, rfl, hst, l4, f4, ra, rb, z3c, z3d, z3e⟩; have hst := Lib.hid hst; have ra := Lib.hid ra; have rb := Lib.hid rb; have z3c := Lib.hid z3c; have z3d := Lib.hid z3d; have z3e := Lib.hid z3e; replace hl := Lib.hid (butRow rb.out hl.out hgg3.out); obtain ⟨⟨k0, k1, k2, k3, k4, k5, k6, k7, k8, k9, k10⟩, y0, y1, y2, y3, y4, y5, y6, y7, y8, y9, y10⟩ := eleven_of hl.out)
    replace hI := Lib.hid (heldI_but hI.out hgI.out rb.out)
    have hlx := Lib.hid (show (wz.setCell ⟨g3, 2, none⟩ (.int .u64 (st : Int))).heap[g3]? = some (.cells #[.int .u32 (au : Int), .slice ia n ic, .int .u64 (st : Int), .int .u8 0, .string ⟨#[]⟩, .int .u8 0, .int .i64 0, .int .u64 0, .string ⟨#[]⟩, .int .u32 0, .int .u32 0] 35 (0, 0)) from (setCell_row hl.out 2 (.int .u64 (st : Int))))
    have sx := Lib.hid (ra.out.other hgg3.out hWg3.out 2 (.int .u64 (st : Int)))
    have gx := Lib.hid (but_set (but_trans gg.out rb.out) g3 2 (.int .u64 (st : Int)) hle.out)
    have rx := Lib.hid ((setCell_rows (w := wz) g3 2 (.int .u64 (st : Int)) w.heap.size hne.out).trans (butRow rb.out hr.out hgw.out))
    replace hI := Lib.hid (heldI_set (k := g3) (i := 2) (x := .int .u64 (st : Int)) hI.out hg3I.out)
    clear hl ss gg hr ra rb hM k0 y0 k1 y1 k2 y2 k3 y3 k4 y4 k5 y5 k6 y6 k7 y7 k8 y8 k9 y9 k10 y10
    have hl := hlx; have ss := sx; have gg := gx; have hr := rx; clear hlx sx gx rx
    generalize (wz.setCell ⟨g3, 2, none⟩ (.int .u64 (st : Int))) = wy3 at *
    have hM := Lib.hid (act_rd ss.out z3d.out (by have := hll.out; have := q3.out; have := z1c.out; have := z2c.out; have := z3c.out; omega))
    go_upto_region 8 with (go_at_call 102; (with_reducible refine (hM.out).mono ?_); rintro e wz ⟨⟨ck, ckey, vk, vn, vb, vs⟩, rfl, hck, hckey, hcv, l5, f5, ra, rb, z4c, z4d, z4e⟩; dsimp only at *; have hck := Lib.hid hck; have hckey := Lib.hid hckey; have hcv := Lib.hid hcv; have ra := Lib.hid ra; have rb := Lib.hid rb; have z4c := Lib.hid z4c; have z4d := Lib.hid z4d; have z4e := Lib.hid z4e; replace hl := Lib.hid (butRow rb.out hl.out hgg3.out); obtain ⟨⟨k0, k1, k2, k3, k4, k5, k6, k7, k8, k9, k10⟩, y0, y1, y2, y3, y4, y5, y6, y7, y8, y9, y10⟩ := eleven_of hl.out)
    replace hI := Lib.hid (heldI_but hI.out hgI.out rb.out)
    have hlx := Lib.hid (show ((((((wz.setCell ⟨g3, 3, none⟩ (.int .u8 ck)).setCell ⟨g3, 4, none⟩ (.string ckey)).setCell ⟨g3, 5, none⟩ (.int .u8 vk)).setCell ⟨g3, 6, none⟩ (.int .i64 vn)).setCell ⟨g3, 7, none⟩ (.int .u64 (vb : Int))).setCell ⟨g3, 8, none⟩ (.string vs)).heap[g3]? = some (.cells #[.int .u32 (au : Int), .slice ia n ic, .int .u64 (st : Int), .int .u8 ck, .string ckey, .int .u8 vk, .int .i64 vn, .int .u64 (vb : Int), .string vs, .int .u32 0, .int .u32 0] 35 (0, 0)) from (setCell_row (setCell_row (setCell_row (setCell_row (setCell_row (setCell_row hl.out 3 (.int .u8 ck)) 4 (.string ckey)) 5 (.int .u8 vk)) 6 (.int .i64 vn)) 7 (.int .u64 (vb : Int))) 8 (.string vs)))
    have sx := Lib.hid ((((((ra.out.other hgg3.out hWg3.out 3 (.int .u8 ck)).other hgg3.out hWg3.out 4 (.string ckey)).other hgg3.out hWg3.out 5 (.int .u8 vk)).other hgg3.out hWg3.out 6 (.int .i64 vn)).other hgg3.out hWg3.out 7 (.int .u64 (vb : Int))).other hgg3.out hWg3.out 8 (.string vs))
    have gx := Lib.hid (but_set (but_set (but_set (but_set (but_set (but_set (but_trans gg.out rb.out) g3 3 (.int .u8 ck) hle.out) g3 4 (.string ckey) hle.out) g3 5 (.int .u8 vk) hle.out) g3 6 (.int .i64 vn) hle.out) g3 7 (.int .u64 (vb : Int)) hle.out) g3 8 (.string vs) hle.out)
    have rx := Lib.hid ((setCell_rows (w := (((((wz.setCell ⟨g3, 3, none⟩ (.int .u8 ck)).setCell ⟨g3, 4, none⟩ (.string ckey)).setCell ⟨g3, 5, none⟩ (.int .u8 vk)).setCell ⟨g3, 6, none⟩ (.int .i64 vn)).setCell ⟨g3, 7, none⟩ (.int .u64 (vb : Int)))) g3 8 (.string vs) w.heap.size hne.out).trans ((setCell_rows (w := ((((wz.setCell ⟨g3, 3, none⟩ (.int .u8 ck)).setCell ⟨g3, 4, none⟩ (.string ckey)).setCell ⟨g3, 5, none⟩ (.int .u8 vk)).setCell ⟨g3, 6, none⟩ (.int .i64 vn))) g3 7 (.int .u64 (vb : Int)) w.heap.size hne.out).trans ((setCell_rows (w := (((wz.setCell ⟨g3, 3, none⟩ (.int .u8 ck)).setCell ⟨g3, 4, none⟩ (.string ckey)).setCell ⟨g3, 5, none⟩ (.int .u8 vk))) g3 6 (.int .i64 vn) w.heap.size hne.out).trans ((setCell_rows (w := ((wz.setCell ⟨g3, 3, none⟩ (.int .u8 ck)).setCell ⟨g3, 4, none⟩ (.string ckey))) g3 5 (.int .u8 vk) w.heap.size hne.out).trans ((setCell_rows (w := (wz.setCell ⟨g3, 3, none⟩ (.int .u8 ck))) g3 4 (.string ckey) w.heap.size hne.out).trans ((setCell_rows (w := wz) g3 3 (.int .u8 ck) w.heap.size hne.out).trans (butRow rb.out hr.out hgw.out)))))))
    replace hI := Lib.hid (heldI_set (k := g3) (i := 8) (x := .string vs) (heldI_set (k := g3) (i := 7) (x := .int .u64 (vb : Int)) (heldI_set (k := g3) (i := 6) (x := .int .i64 vn) (heldI_set (k := g3) (i := 5) (x := .int .u8 vk) (heldI_set (k := g3) (i := 4) (x := .string ckey) (heldI_set (k := g3) (i := 3) (x := .int .u8 ck) hI.out hg3I.out) hg3I.out) hg3I.out) hg3I.out) hg3I.out) hg3I.out)
    clear hl ss gg hr ra rb hM k0 y0 k1 y1 k2 y2 k3 y3 k4 y4 k5 y5 k6 y6 k7 y7 k8 y8 k9 y9 k10 y10
    have hl := hlx; have ss := sx; have gg := gx; have hr := rx; clear hlx sx gx rx
    generalize ((((((wz.setCell ⟨g3, 3, none⟩ (.int .u8 ck)).setCell ⟨g3, 4, none⟩ (.string ckey)).setCell ⟨g3, 5, none⟩ (.int .u8 vk)).setCell ⟨g3, 6, none⟩ (.int .i64 vn)).setCell ⟨g3, 7, none⟩ (.int .u64 (vb : Int))).setCell ⟨g3, 8, none⟩ (.string vs)) = wy4 at *
    have hM := Lib.hid (small_rd ss.out z4d.out (by have := hll.out; have := q3.out; have := z1c.out; have := z2c.out; have := z3c.out; have := z4c.out; omega))
    go_upto_region 9 with (go_at_call 99; (with_reducible refine (hM.out).mono ?_); rintro e wz ⟨ee, rfl, hee, l6, f6, ra, rb, z5c, z5d, z5e⟩; have hee := Lib.hid hee; have ra := Lib.hid ra; have rb := Lib.hid rb; have z5c := Lib.hid z5c; have z5d := Lib.hid z5d; have z5e := Lib.hid z5e; replace hl := Lib.hid (butRow rb.out hl.out hgg3.out); obtain ⟨⟨k0, k1, k2, k3, k4, k5, k6, k7, k8, k9, k10⟩, y0, y1, y2, y3, y4, y5, y6, y7, y8, y9, y10⟩ := eleven_of hl.out)
    replace hI := Lib.hid (heldI_but hI.out hgI.out rb.out)
    have hlx := Lib.hid (show (wz.setCell ⟨g3, 9, none⟩ (.int .u32 (ee : Int))).heap[g3]? = some (.cells #[.int .u32 (au : Int), .slice ia n ic, .int .u64 (st : Int), .int .u8 ck, .string ckey, .int .u8 vk, .int .i64 vn, .int .u64 (vb : Int), .string vs, .int .u32 (ee : Int), .int .u32 0] 35 (0, 0)) from (setCell_row hl.out 9 (.int .u32 (ee : Int))))
    have sx := Lib.hid (ra.out.other hgg3.out hWg3.out 9 (.int .u32 (ee : Int)))
    have gx := Lib.hid (but_set (but_trans gg.out rb.out) g3 9 (.int .u32 (ee : Int)) hle.out)
    have rx := Lib.hid ((setCell_rows (w := wz) g3 9 (.int .u32 (ee : Int)) w.heap.size hne.out).trans (butRow rb.out hr.out hgw.out))
    replace hI := Lib.hid (heldI_set (k := g3) (i := 9) (x := .int .u32 (ee : Int)) hI.out hg3I.out)
    clear hl ss gg hr ra rb hM k0 y0 k1 y1 k2 y2 k3 y3 k4 y4 k5 y5 k6 y6 k7 y7 k8 y8 k9 y9 k10 y10
    have hl := hlx; have ss := sx; have gg := gx; have hr := rx; clear hlx sx gx rx
    generalize (wz.setCell ⟨g3, 9, none⟩ (.int .u32 (ee : Int))) = wy5 at *
    have hM := Lib.hid (small_rd ss.out z5d.out (by have := hll.out; have := q3.out; have := z1c.out; have := z2c.out; have := z3c.out; have := z4c.out; have := z5c.out; omega))
    go_upto_region 10 with (go_at_call 99; (with_reducible refine (hM.out).mono ?_); rintro e wz ⟨es, rfl, hes, l7, f7, ra, rb, z6c, z6d, z6e⟩; have hes := Lib.hid hes; have ra := Lib.hid ra; have rb := Lib.hid rb; have z6c := Lib.hid z6c; have z6d := Lib.hid z6d; have z6e := Lib.hid z6e; replace hl := Lib.hid (butRow rb.out hl.out hgg3.out); obtain ⟨⟨k0, k1, k2, k3, k4, k5, k6, k7, k8, k9, k10⟩, y0, y1, y2, y3, y4, y5, y6, y7, y8, y9, y10⟩ := eleven_of hl.out)
    replace hI := Lib.hid (heldI_but hI.out hgI.out rb.out)
    have hlx := Lib.hid (show (wz.setCell ⟨g3, 10, none⟩ (.int .u32 (es : Int))).heap[g3]? = some (.cells #[.int .u32 (au : Int), .slice ia n ic, .int .u64 (st : Int), .int .u8 ck, .string ckey, .int .u8 vk, .int .i64 vn, .int .u64 (vb : Int), .string vs, .int .u32 (ee : Int), .int .u32 (es : Int)] 35 (0, 0)) from (setCell_row hl.out 10 (.int .u32 (es : Int))))
    have sx := Lib.hid (ra.out.other hgg3.out hWg3.out 10 (.int .u32 (es : Int)))
    have gx := Lib.hid (but_set (but_trans gg.out rb.out) g3 10 (.int .u32 (es : Int)) hle.out)
    have rx := Lib.hid ((setCell_rows (w := wz) g3 10 (.int .u32 (es : Int)) w.heap.size hne.out).trans (butRow rb.out hr.out hgw.out))
    replace hI := Lib.hid (heldI_set (k := g3) (i := 10) (x := .int .u32 (es : Int)) hI.out hg3I.out)
    clear hl ss gg hr ra rb hM k0 y0 k1 y1 k2 y2 k3 y3 k4 y4 k5 y5 k6 y6 k7 y7 k8 y8 k9 y9 k10 y10
    have hl := hlx; have ss := sx; have gg := gx; have hr := rx; clear hlx sx gx rx
    generalize (wz.setCell ⟨g3, 10, none⟩ (.int .u32 (es : Int))) = wy6 at *
    have hE := Lib.hid (op_ends (c := ⟨ck, ckey, vk, vn, vb, vs⟩) q5.out hfx.out z1e.out z2e.out z3e.out z4e.out z5e.out z6e.out)
    have hR := Lib.hid (show RdOut W0 g w l fl (rOp l) (⟨au, n, F, st, ck, ckey, ⟨vk, vn, vb, vs⟩, ee, es⟩ : Od) wy6 from ⟨l7, f7, ss.out, gg.out, by have := q3.out; have := z1c.out; have := z2c.out; have := z3c.out; have := z4c.out; have := z5c.out; have := z6c.out; omega, z6d.out, hE.out⟩)
    clear q5 z1e z2e z3e z4e z5e z6e hE ss gg
    go_wp2_with (first
      | (refine wpList_load_row_g rfl 35 _ rfl g3 rfl 35 ((⟨au, n, F, st, ck, ckey, ⟨vk, vn, vb, vs⟩, ee, es⟩ : Od).c (.slice ia n ic)) (0, 0) _ hl.out Tryz.underlying35 rfl info_op ?_)
      | (refine wpList_store_row rfl 35 _ _ rfl w.heap.size ((⟨au, n, F, st, ck, ckey, ⟨vk, vn, vb, vs⟩, ee, es⟩ : Od).c (.slice ia n ic)) rfl rfl 35 _ hr.out info_op rfl (op_one ⟨au, n, F, st, ck, ckey, ⟨vk, vn, vb, vs⟩, ee, es⟩ ia n ic) ?_; have hr9 := Lib.hid (setRow_heap _ _ _ ((⟨au, n, F, st, ck, ckey, ⟨vk, vn, vb, vs⟩, ee, es⟩ : Od).c (.slice ia n ic)) _ _ hr.out); have hb9 := Lib.hid (below_setRow' (B := w.heap.size) (g := w.heap.size) (Below.refl _ wy6) (Nat.le_refl _) ((⟨au, n, F, st, ck, ckey, ⟨vk, vn, vb, vs⟩, ee, es⟩ : Od).c (.slice ia n ic)))))
    exact bodyPost_ret (results_cell_row rfl _ _ w.heap.size 35 _ _ _ rfl hr9.out Tryz.underlying35 rfl info_op) rfl ⟨⟨au, n, F, st, ck, ckey, ⟨vk, vn, vb, vs⟩, ee, es⟩, ia, ic, rfl, ⟨hau.out, hFb.out, Nat.le_trans hn4.out (by decide), hst.out, hck.out, Nat.le_trans hckey.out (by decide), hcv.out, hee.out, hes.out⟩, hn4.out, heldI_lower (heldI_setRow hI.out hWI.out _) (Nat.le_of_lt hWI.out), RdOut.low hR.out hb9.out hlt.out hbs.out⟩
end Go.Proofs.YtdlblhoaddfanaaGreatDoor.wir.val
namespace Go.Proofs.YtdlblhoaddfanaaGreatDoor.wir.val
open Go.RowKit Go.YtdlblhoaddfanaaGreatDoor
set_option linter.unusedVariables false
theorem size_nil {s : ByteArray} (h : s.size = 0) : s = ⟨#[]⟩ := by
  cases s with | mk a => simp only [ByteArray.mk.injEq]; exact Array.eq_empty_of_size_eq_zero h
theorem zeroV_eq {v : Va} (h : zeroV v = true) : v = ⟨0, 0, 0, ⟨#[]⟩⟩ := by
  unfold zeroV eqB at h
  simp only [Bool.and_eq_true, decide_eq_true_eq] at h
  obtain ⟨h1, h2, h3, h4⟩ := h
  obtain ⟨k, n, b, s⟩ := v
  simp only at h1 h2 h3 h4
  rw [h1, h2, h3, h4]
theorem keyB_size {s : ByteArray} (h : keyB s = true) : s.size ≤ 20 := by
  unfold keyB at h
  simp only [Bool.and_eq_true, decide_eq_true_eq] at h
  exact h.2.1
end Go.Proofs.YtdlblhoaddfanaaGreatDoor.wir.val
namespace Go.Proofs.YtdlblhoaddfanaaGreatDoor.wir.val
open Go.RowKit Go.YtdlblhoaddfanaaGreatDoor
set_option linter.unusedVariables false
end Go.Proofs.YtdlblhoaddfanaaGreatDoor.wir.val
namespace Go.Proofs.YtdlblhoaddfanaaGreatDoor.wir.val
open Go.RowKit Go.YtdlblhoaddfanaaGreatDoor
set_option linter.unusedVariables false
end Go.Proofs.YtdlblhoaddfanaaGreatDoor.wir.val
namespace Go.Proofs.YtdlblhoaddfanaaGreatDoor.wir.val
open Go.RowKit Go.YtdlblhoaddfanaaGreatDoor
set_option linter.unusedVariables false
theorem rNum_back {l m : List Int} (hl : Bytes l) {n : Nat} (h : rNum l = some (n, m)) : l = numB n ++ m ∧ n < 18446744073709551616 := by
  unfold rNum at h
  cases h1 : readF l with
  | none => rw [h1] at h; cases h
  | some p =>
    obtain ⟨a, u⟩ := p
    rw [h1] at h
    obtain ⟨e1, e2⟩ := Prod.mk.inj (Option.some.inj h)
    subst e1 e2
    obtain ⟨a1, a2, a3, a4⟩ := readF_some hl h1
    exact ⟨by rw [← a4, List.take_append_drop], a1⟩
theorem rNum_enc {n : Nat} (h : n < 18446744073709551616) (m : List Int) : rNum (numB n ++ m) = some (n, m) := by
  unfold rNum
  rw [readF_num n h m]
  simp only
  rw [List.drop_left' (numB_length n)]
theorem rSmall_back {l m : List Int} (hl : Bytes l) {n : Nat} (h : rSmall l = some (n, m)) : l = numB n ++ m ∧ n < 4294967296 := by
  unfold rSmall at h
  cases h1 : rNum l with
  | none => rw [h1] at h; cases h
  | some p =>
    rw [h1] at h
    simp only at h
    by_cases h2 : 4294967295 < p.1
    · rw [if_pos h2] at h; cases h
    · rw [if_neg h2] at h
      obtain rfl := Option.some.inj h
      exact ⟨(rNum_back hl h1).1, by simp only at h2; omega⟩
theorem rSmall_enc {n : Nat} (h : n < 4294967296) (m : List Int) : rSmall (numB n ++ m) = some (n, m) := by
  unfold rSmall
  rw [rNum_enc (Nat.lt_trans h (by decide)) m]
  simp only
  rw [if_neg (by omega)]
theorem rIds_back {l m F : List Int} (hl : Bytes l) {n : Nat} (h : rIds l = some ((n, F), m)) : l = (numB n ++ F) ++ m ∧ n ≤ 4 ∧ F.length = 32 * n ∧ riseF F n = true := by
  unfold rIds at h
  cases h1 : readC l 4 32 with
  | none => rw [h1] at h; cases h
  | some p =>
    obtain ⟨a, u⟩ := p
    rw [h1] at h
    simp only at h
    by_cases h2 : riseF ((l.drop u).take (a * 32)) a = true
    · rw [if_pos h2] at h
      obtain ⟨e1, e2⟩ := Prod.mk.inj (Option.some.inj h)
      obtain ⟨e3, e4⟩ := Prod.mk.inj e1
      subst e2 e3 e4
      obtain ⟨c1, c2, c3⟩ := readC_some h1
      obtain ⟨a1, a2, a3, a4⟩ := readF_some hl c1
      have hlen : ((l.drop u).take (a * 32)).length = 32 * a := by rw [List.length_take, List.length_drop]; omega
      refine ⟨?_, by omega, hlen, h2⟩
      rw [← a4, ← List.take_add, List.take_append_drop]
    · rw [if_neg h2] at h; cases h
theorem rIds_enc {n : Nat} {F : List Int} (hn : n ≤ 4) (hF : F.length = 32 * n) (hR : riseF F n = true) (m : List Int) : rIds ((numB n ++ F) ++ m) = some ((n, F), m) := by
  have hc : readC ((numB n ++ F) ++ m) 4 32 = some (n, numL n) := by
    have h := readF_num n (by omega) (F ++ m)
    rw [← List.append_assoc] at h
    unfold readC
    rw [h]
    have h2 : ((n : Nat) : Int) ≤ 4 ∧ n ≤ (((numB n ++ F) ++ m).length - numL n) / 32 := by
      refine ⟨by omega, ?_⟩
      rw [List.length_append, List.length_append, numB_length]; omega
    simp only [h2, and_self, if_true]
  unfold rIds
  rw [hc]
  simp only
  rw [list_part F m n hF, if_pos hR, List.drop_left' (by rw [List.length_append, numB_length, hF]; omega)]
theorem rKey_back {l m : List Int} (hl : Bytes l) {s : ByteArray} (h : rKey l = some (s, m)) : l = textB (sI s) ++ m ∧ s.size ≤ 20 := by
  unfold rKey at h
  cases h1 : readC l 20 1 with
  | none => rw [h1] at h; cases h
  | some p =>
    obtain ⟨n, u⟩ := p
    rw [h1] at h
    obtain ⟨e1, e2⟩ := Prod.mk.inj (Option.some.inj h)
    subst e1 e2
    obtain ⟨h1, h2, h3⟩ := readC_some h1
    obtain ⟨a1, a2, a3, a4⟩ := readF_some hl h1
    rw [Nat.div_one] at h3
    have hlen : ((l.drop u).take n).length = n := by rw [List.length_take, List.length_drop]; omega
    refine ⟨?_, by rw [toS_size, hlen]; omega⟩
    rw [sI_toS _ (bytes_take _ _ (bytes_drop _ _ hl)), textB, hlen, ← a4, ← List.take_add, List.take_append_drop]
theorem rKey_enc {s : ByteArray} (hs : s.size ≤ 20) (m : List Int) : rKey (textB (sI s) ++ m) = some (s, m) := by
  have e : textB (sI s) = numB s.size ++ sI s := by unfold textB; rw [sI_length]
  have hC : readC (textB (sI s) ++ m) 20 1 = some (s.size, numL s.size) := by
    rw [e]
    unfold readC
    rw [List.append_assoc, readF_num _ (by omega)]
    simp only
    rw [if_pos]
    refine ⟨by omega, ?_⟩
    rw [Nat.div_one, List.length_append, List.length_append, numB_length, sI_length]; omega
  unfold rKey
  rw [hC]
  simp only
  have h1 : (textB (sI s) ++ m).drop (numL s.size + s.size) = m := List.drop_left' (by rw [e, List.length_append, numB_length, sI_length])
  have h2 : ((textB (sI s) ++ m).drop (numL s.size)).take s.size = sI s := by rw [e, List.append_assoc, List.drop_left' (numB_length _), List.take_left' (sI_length s)]
  rw [h1, h2, toS_sI]
theorem rVal_back {l m : List Int} (hl : Bytes l) {v : Va} (h : rVal l = some (v, m)) : l = encB v.k v.n v.b v.s ++ m ∧ v.fit ∧ v.ok = true := by
  unfold rVal at h
  cases h1 : decF l with
  | none => rw [h1] at h; cases h
  | some p =>
    obtain ⟨a, u⟩ := p
    rw [h1] at h
    obtain ⟨e1, e2⟩ := Prod.mk.inj (Option.some.inj h)
    subst e1 e2
    obtain ⟨a1, a2, a3, a4, a5⟩ := decF_some hl h1
    exact ⟨by rw [a5, List.take_append_drop], a1, a2⟩
theorem rVal_enc {v : Va} (fv : v.fit) (hv : v.ok = true) (m : List Int) : rVal (encB v.k v.n v.b v.s ++ m) = some (v, m) := by
  unfold rVal
  rw [decF_enc _ _ _ _ fv hv m]
  simp only
  rw [List.drop_left' rfl]
def Ac.B (c : Ac) : List Int := ([c.k] ++ (if c.k = 1 then [] else textB (sI c.key))) ++ (if c.k = 4 then encB c.v.k c.v.n c.v.b c.v.s else [])
theorem cons_of {l : List Int} (h : ¬ l.length = 0) : l = [ith l 0] ++ l.drop 1 := by
  cases l with
  | nil => simp at h
  | cons x l => simp [ith]
theorem rAct_back {l m : List Int} (hl : Bytes l) {c : Ac} (h : rAct l = some (c, m)) : l = c.B ++ m ∧ (0 ≤ c.k ∧ c.k < 256) ∧ c.key.size ≤ 20 ∧ c.v.fit := by
  unfold rAct at h
  by_cases h0 : l.length = 0
  · rw [if_pos h0] at h; cases h
  rw [if_neg h0] at h
  by_cases h1 : ith l 0 = 1
  · rw [if_pos h1] at h
    obtain ⟨e1, e2⟩ := Prod.mk.inj (Option.some.inj h)
    subst e1 e2
    refine ⟨?_, hl 0, Nat.zero_le _, fit_zero⟩
    unfold Ac.B
    simp only
    rw [if_pos h1, if_neg (by omega), List.append_nil, List.append_nil]
    exact cons_of h0
  · rw [if_neg h1] at h
    cases h2 : rKey (l.drop 1) with
    | none => rw [h2] at h; cases h
    | some p =>
      obtain ⟨s, r⟩ := p
      rw [h2] at h
      simp only at h
      obtain ⟨k1, k2⟩ := rKey_back (bytes_drop _ _ hl) h2
      by_cases h4 : ith l 0 = 4
      · rw [if_pos h4] at h
        cases h5 : rVal r with
        | none => rw [h5] at h; cases h
        | some q =>
          obtain ⟨v, r2⟩ := q
          rw [h5] at h
          obtain ⟨e1, e2⟩ := Prod.mk.inj (Option.some.inj h)
          subst e1 e2
          have hr : Bytes r := by
            have hb := bytes_drop l 1 hl
            rw [k1] at hb
            have := bytes_drop _ (textB (sI s)).length hb
            rwa [List.drop_left' rfl] at this
          obtain ⟨v1, v2, v3⟩ := rVal_back hr h5
          refine ⟨?_, hl 0, k2, v2⟩
          unfold Ac.B
          simp only
          rw [if_neg h1, if_pos h4, List.append_assoc, List.append_assoc, ← v1, ← k1]
          exact cons_of h0
      · rw [if_neg h4] at h
        obtain ⟨e1, e2⟩ := Prod.mk.inj (Option.some.inj h)
        subst e1 e2
        refine ⟨?_, hl 0, k2, fit_zero⟩
        unfold Ac.B
        simp only
        rw [if_neg h1, if_neg h4, List.append_nil, List.append_assoc, ← k1]
        exact cons_of h0
theorem rAct_enc {c : Ac} (fv : c.v.fit) (hA : actB c.k c.key c.v = true) (m : List Int) : rAct (c.B ++ m) = some (c, m) := by
  obtain ⟨k, key, v⟩ := c
  simp only at fv hA
  unfold Ac.B
  simp only
  unfold actB at hA
  unfold rAct
  rw [List.append_assoc, List.append_assoc, List.singleton_append, if_neg (by simp), ith_cons_zero, List.drop_one, List.tail_cons]
  by_cases k1 : k = 1
  · rw [if_pos k1, Bool.and_eq_true, decide_eq_true_eq] at hA
    rw [if_pos k1, if_pos k1, if_neg (by omega), zeroV_eq hA.2, size_nil hA.1]
    rfl
  · rw [if_neg k1] at hA
    rw [if_neg k1, if_neg k1]
    by_cases k2 : k = 2 ∨ k = 3
    · rw [if_pos k2, Bool.and_eq_true] at hA
      have k4 : ¬ k = 4 := by omega
      rw [rKey_enc (keyB_size hA.1)]
      simp only
      rw [if_neg k4, if_neg k4, zeroV_eq hA.2]
      rfl
    · rw [if_neg k2] at hA
      by_cases k4 : k = 4
      · rw [if_pos k4, Bool.and_eq_true] at hA
        rw [rKey_enc (keyB_size hA.1)]
        simp only
        rw [if_pos k4, if_pos k4, rVal_enc fv hA.2]
      · rw [if_neg k4] at hA
        cases hA
theorem bytes_tail {a m : List Int} (h : Bytes (a ++ m)) : Bytes m := by
  have := bytes_drop _ a.length h
  rwa [List.drop_left' rfl] at this
theorem bytes_head {a m : List Int} (h : Bytes (a ++ m)) : Bytes a := by
  have := bytes_take _ a.length h
  rwa [List.take_left' rfl] at this
theorem encO_parts (o : Od) (m : List Int) : encO o ++ m = [111] ++ (numB o.au ++ ((numB o.n ++ o.F) ++ (numB o.st ++ ((Ac.B ⟨o.k, o.key, o.v⟩) ++ (numB o.e ++ (numB o.s ++ m)))))) := by
  unfold encO msgB Ac.B
  simp only [List.append_assoc]
theorem rOp_back {l m : List Int} (hl : Bytes l) {o : Od} (h : rOp l = some (o, m)) : l = encO o ++ m ∧ o.Fit ∧ o.n ≤ 4 ∧ o.F.length = 32 * o.n ∧ riseF o.F o.n = true := by
  unfold rOp at h
  by_cases h0 : l.length = 0
  · rw [if_pos h0] at h; cases h
  rw [if_neg h0] at h
  by_cases h1 : ith l 0 = 111
  · rw [if_pos h1] at h
    have e0 := cons_of h0
    rw [h1] at e0
    have hl1 := bytes_drop l 1 hl
    generalize l.drop 1 = l1 at *
    cases g1 : rSmall l1 with
    | none => rw [g1] at h; cases h
    | some a =>
    obtain ⟨au, l2⟩ := a
    rw [g1] at h
    obtain ⟨e1, b1⟩ := rSmall_back hl1 g1
    rw [e1] at hl1
    have hl2 := bytes_tail hl1
    cases g2 : rIds l2 with
    | none => simp only [g2] at h; cases h
    | some a =>
    obtain ⟨⟨n, F⟩, l3⟩ := a
    simp only [g2] at h
    obtain ⟨e2, b2, b3, b4⟩ := rIds_back hl2 g2
    rw [e2] at hl2
    have hl3 := bytes_tail hl2
    have hF := bytes_tail (bytes_head hl2)
    cases g3 : rNum l3 with
    | none => simp only [g3] at h; cases h
    | some a =>
    obtain ⟨st, l4⟩ := a
    simp only [g3] at h
    obtain ⟨e3, b5⟩ := rNum_back hl3 g3
    rw [e3] at hl3
    have hl4 := bytes_tail hl3
    cases g4 : rAct l4 with
    | none => simp only [g4] at h; cases h
    | some a =>
    obtain ⟨c, l5⟩ := a
    simp only [g4] at h
    obtain ⟨e4, b6, b7, b8⟩ := rAct_back hl4 g4
    rw [e4] at hl4
    have hl5 := bytes_tail hl4
    cases g5 : rSmall l5 with
    | none => simp only [g5] at h; cases h
    | some a =>
    obtain ⟨x, l6⟩ := a
    simp only [g5] at h
    obtain ⟨e5, b9⟩ := rSmall_back hl5 g5
    rw [e5] at hl5
    have hl6 := bytes_tail hl5
    cases g6 : rSmall l6 with
    | none => simp only [g6] at h; cases h
    | some a =>
    obtain ⟨y, l7⟩ := a
    simp only [g6] at h
    obtain ⟨e6, b10⟩ := rSmall_back hl6 g6
    obtain ⟨r1, r2⟩ := Prod.mk.inj (Option.some.inj h)
    subst r1 r2
    refine ⟨?_, ⟨b1, hF, Nat.le_trans b2 (by decide), b5, b6, Nat.le_trans b7 (by decide), b8, b9, b10⟩, b2, b3, b4⟩
    rw [encO_parts]
    simp only
    rw [← e6, ← e5, ← e4, ← e3, ← e2, ← e1]
    exact e0
  · rw [if_neg h1] at h; cases h
theorem rOp_enc {o : Od} (fo : o.Fit) (hn : o.n ≤ 4) (hF : o.F.length = 32 * o.n) (hR : riseF o.F o.n = true) (hA : actB o.k o.key o.v = true) (m : List Int) : rOp (encO o ++ m) = some (o, m) := by
  rw [encO_parts]
  unfold rOp
  rw [if_neg (by simp), List.singleton_append, ith_cons_zero, if_pos rfl, List.drop_one, List.tail_cons, rSmall_enc fo.au]
  simp only
  rw [rIds_enc hn hF hR]
  simp only
  rw [rNum_enc fo.st]
  simp only
  rw [rAct_enc (c := ⟨o.k, o.key, o.v⟩) fo.v hA]
  simp only
  rw [rSmall_enc fo.e]
  simp only
  rw [rSmall_enc fo.s]
theorem decO_back {l : List Int} (hl : Bytes l) {o : Od} (h : decO l = some o) : encO o = l ∧ o.Fit ∧ chkO o = 0 ∧ o.F.length = 32 * o.n := by
  unfold decO at h
  cases h1 : rOp l with
  | none => rw [h1] at h; cases h
  | some p =>
    obtain ⟨p, m⟩ := p
    rw [h1] at h
    simp only at h
    by_cases h2 : m.length = 0 ∧ chkO p = 0
    · rw [if_pos h2] at h
      obtain rfl := Option.some.inj h
      obtain ⟨a1, a2, a3, a4, a5⟩ := rOp_back hl h1
      rw [List.eq_nil_of_length_eq_zero h2.1, List.append_nil] at a1
      exact ⟨a1.symm, a2, h2.2, a4⟩
    · rw [if_neg h2] at h; cases h
theorem decO_enc {o : Od} (fo : o.Fit) (hF : o.F.length = 32 * o.n) (h : chkO o = 0) : decO (encO o) = some o := by
  obtain ⟨h1, h2, h3⟩ := chk_zero h
  have := rOp_enc fo h1 hF h2 h3 []
  rw [List.append_nil] at this
  unfold decO
  rw [this]
  simp only
  rw [if_pos ⟨rfl, h⟩]
end Go.Proofs.YtdlblhoaddfanaaGreatDoor.wir.val

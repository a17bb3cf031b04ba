/- Texts that the row stands on, part 4. -/
import Derived.Test.YtfaojjleapenaabGreatDoorRNamesJq03
import Derived.Lib.SlBytesConst
namespace Go.Proofs.YtfaojjleapenaabGreatDoor.wir.val
open Go.RowKit Go.YtfaojjleapenaabGreatDoor
set_option linter.unusedVariables false
def rNum (l : List Int) : Option (Nat × List Int) := match readF l with
  | none => none
  | some p => some (p.1, l.drop p.2)
def rSmall (l : List Int) : Option (Nat × List Int) := match rNum l with
  | none => none
  | some p => if 4294967295 < p.1 then none else some p
def rIds (l : List Int) : Option ((Nat × List Int) × List Int) := match readC l 4 32 with
  | none => none
  | some p => if riseF ((l.drop p.2).take (p.1 * 32)) p.1 = true then some ((p.1, (l.drop p.2).take (p.1 * 32)), l.drop (p.2 + p.1 * 32)) else none
def rKey (l : List Int) : Option (ByteArray × List Int) := match readC l 20 1 with
  | none => none
  | some p => some (toS ((l.drop p.2).take p.1), l.drop (p.2 + p.1))
def rVal (l : List Int) : Option (Va × List Int) := match decF l with
  | none => none
  | some p => some (p.1, l.drop p.2)
/-- An act: its kind, its key, its value. -/
structure Ac where
  k : Int
  key : ByteArray
  v : Va
def rAct (l : List Int) : Option (Ac × List Int) :=
  if l.length = 0 then none
  else if ith l 0 = 1 then some (⟨ith l 0, ⟨#[]⟩, ⟨0, 0, 0, ⟨#[]⟩⟩⟩, l.drop 1)
  else match rKey (l.drop 1) with
    | none => none
    | some p => if ith l 0 = 4 then (match rVal p.2 with
        | none => none
        | some q => some (⟨ith l 0, p.1, q.1⟩, q.2))
      else some (⟨ith l 0, p.1, ⟨0, 0, 0, ⟨#[]⟩⟩⟩, p.2)
def rOp (l : List Int) : Option (Od × List Int) :=
  if l.length = 0 then none
  else if ith l 0 = 111 then
    match rSmall (l.drop 1) with
    | none => none
    | some a => match rIds a.2 with
      | none => none
      | some i => match rNum i.2 with
        | none => none
        | some t => match rAct t.2 with
          | none => none
          | some c => match rSmall c.2 with
            | none => none
            | some x => match rSmall x.2 with
              | none => none
              | some y => some (⟨a.1, i.1.1, i.1.2, t.1, c.1.k, c.1.key, c.1.v, x.1, y.1⟩, y.2)
  else none
/-- The operation that has just these bytes. -/
def decO (l : List Int) : Option Od := match rOp l with
  | none => none
  | some p => if p.2.length = 0 ∧ chkO p.1 = 0 then some p.1 else none
def rNext (l : List Int) : Option (Int × List Int) := if l.length = 0 then none else some (ith l 0, l.drop 1)
theorem but_trans {w1 w2 w3 : World} {r : Option Nat} (h : w1.grownBy w2 r) (k : w2.grownBy w3 r) : w1.grownBy w3 r :=
  ⟨k.os.trans h.os, k.tape.trans h.tape, k.output.trans h.output, Nat.le_trans h.size k.size, fun i hi hn => (k.block i (Nat.lt_of_lt_of_le hi h.size) hn).trans (h.block i hi hn)⟩
theorem but_of {w w' : World} {r : Option Nat} (h : Below w.heap.size w w') : w.grownBy w' r := ⟨h.os, h.tape, h.output, h.size, fun i hi _ => h.block i hi⟩
theorem but_cell (w : World) (g i : Nat) (v : Value) : w.grownBy (w.setCell ⟨g, i, none⟩ v) (some g) :=
  ⟨rfl, rfl, rfl, by simp [World.setCell], fun k _ hn => Below.heap_setCell _ _ _ _ (fun e => hn (by rw [e]))⟩
/-- A reader in block g: what it has left reads as' l; has it failed? -/
structure St (W0 : World) (g : Nat) (w : World) (l : List Int) (fl : Bool) : Prop where
  b : Below W0.heap.size W0 w
  ge : W0.heap.size ≤ g
  row : ∃ a c, RdB W0 (.slice a l.length c) l ∧ w.heap[g]? = some (.cells #[.slice a l.length c, .bool fl] 73 (0, 0))
theorem St.kept {W0 w w' : World} {g : Nat} {l : List Int} {fl : Bool} (h : St W0 g w l fl) (k : Below w.heap.size w w') : St W0 g w' l fl := by
  obtain ⟨hb, hg, a, c, hr, hrow⟩ := h
  exact ⟨hb.trans (k.mono hb.size), hg, a, c, hr, rowB hrow k (Array.getElem?_eq_some_iff.1 hrow).1⟩
theorem St.fail {W0 w : World} {g : Nat} {l : List Int} {fl : Bool} (h : St W0 g w l fl) : St W0 g (w.setCell ⟨g, 1, none⟩ (.bool true)) l true := by
  obtain ⟨hb, hg, a, c, hr, hrow⟩ := h
  exact ⟨hb.setCell hg _, hg, a, c, hr, setCell_row hrow 1 _⟩
theorem St.put {W0 w : World} {g : Nat} {l l' : List Int} {fl : Bool} (h : St W0 g w l fl) (a' : Option Addr) (c' : Nat) (hr : RdB W0 (.slice a' l'.length c') l') : St W0 g (w.setCell ⟨g, 0, none⟩ (.slice a' l'.length c')) l' fl := by
  obtain ⟨hb, hg, a, c, _, hrow⟩ := h
  exact ⟨hb.setCell hg _, hg, a', c', hr, setCell_row hrow 0 _⟩
/-- What a part of the reader leaves: the reader behind what was read, or one that has failed. -/
def RdOut {α : Type} (W0 : World) (g : Nat) (w : World) (l : List Int) (fl : Bool) (r : Option (α × List Int)) (x : α) (w' : World) : Prop :=
  ∃ l' fl', St W0 g w' l' fl' ∧ w.grownBy w' (some g) ∧ l'.length ≤ l.length ∧ Bytes l' ∧ ((fl' = true ∧ r = none) ∨ (fl' = fl ∧ r = some (x, l')))
theorem restK {w : World} {a : Option Addr} {n c : Nat} {l : List Int} (h : RdB w (.slice a n c) l) (hn : l.length = n) (k : Nat) (hk : k ≤ n) :
    (c - k = 0 → RdB w (.slice a (n - k) (c - k)) (l.drop k)) ∧ (∀ b o, a = some ⟨b, o, none⟩ → RdB w (.slice (some ⟨b, o + k, none⟩) (n - k) (c - k)) (l.drop k)) := by
  have hd : (l.drop k).length = n - k := by simp [hn]
  rcases h with ⟨a', c', he, hc, rfl⟩ | ⟨b, o, c', he, h1, h2, h3, h4⟩
  · obtain ⟨rfl, rfl, rfl⟩ : a = a' ∧ n = 0 ∧ c = c' := by injection he with e1 e2 e3; exact ⟨e1, e2, e3⟩
    have hk0 : k = 0 := by omega
    subst hk0
    refine ⟨fun _ => .inl ⟨a, c, rfl, hc, rfl⟩, fun b o ha => .inl ⟨_, c, rfl, (fun h => by cases h), rfl⟩⟩
  · obtain ⟨rfl, _, rfl⟩ : a = some ⟨b, o, none⟩ ∧ n = l.length ∧ c = c' := by injection he with e1 e2 e3; exact ⟨e1, e2, e3⟩
    subst hn
    have hcell : ∀ i, i < (l.drop k).length → w.cell? ⟨b, o + k + i, none⟩ = some (.int .u8 (ith (l.drop k) i)) := fun i hi => by
      rw [hd] at hi
      rw [ith_drop, Nat.add_assoc]; exact h4 _ (by omega)
    refine ⟨fun hc0 => ?_, fun b' o' ha => ?_⟩
    · have e0 : l.length - k = 0 := by omega
      have e1 : l.drop k = [] := List.drop_eq_nil_of_le (by omega)
      rw [e0, e1]
      exact .inl ⟨_, _, rfl, (fun h => by cases h), rfl⟩
    · cases ha
      exact .inr ⟨b, o + k, c - k, by rw [hd], by rw [hd]; omega, by omega, h3, hcell⟩
set_option maxRecDepth 100000 in
theorem skip_bad {W0 w : World} {g : Nat} {l : List Int} {fl : Bool} (h : St W0 g w l fl) (u : Int) (x : Int) (hx : (x != 0) = true) :
    Calls Tryz.prog 96 #[.pointer (some ⟨g, 0, none⟩), .int .i64 u, .int .i64 x] w fun e w' => IsRet e ∧ St W0 g w' l true ∧ w.grownBy w' (some g) := by
  have hf := Lib.hid h.fail
  have hn := Lib.hid (but_cell w g 1 (.bool true))
  obtain ⟨hb, hg, a, c, hr, hrow⟩ := h
  have c1 : w.cell? ⟨g, 1, none⟩ = some (.bool fl) := cell_of_row _ _ _ _ _ _ hrow
  have f1 := frozen_of_row w g 1 _ _ hrow
  clear hrow hr
  go_enter Tryz.func96, Tryz.ntmps96
  go_wp2
  (try simp only [Exit.inBlock, Exit.then])
  refine bodyPost_ret (results_none rfl _ _ _) rfl ?_
  exact ⟨⟨_, rfl⟩, hf.out, hn.out⟩
set_option maxRecDepth 100000 in
theorem skip_ok {W0 w : World} {g : Nat} {l : List Int} {fl : Bool} (h : St W0 g w l fl) (u : Nat) (hu : u ≤ l.length) (hlm : l.length ≤ 1000000) :
    Calls Tryz.prog 96 #[.pointer (some ⟨g, 0, none⟩), .int .i64 (u : Int), .int .i64 0] w fun e w' => IsRet e ∧ St W0 g w' (l.drop u) fl ∧ w.grownBy w' (some g) := by
  have hp := Lib.hid (fun a' c' (hr : RdB W0 (.slice a' (l.drop u).length c') (l.drop u)) => (show St W0 g (w.setCell ⟨g, 0, none⟩ (.slice a' (l.drop u).length c')) (l.drop u) fl ∧ w.grownBy (w.setCell ⟨g, 0, none⟩ (.slice a' (l.drop u).length c')) (some g) from ⟨h.put a' c' hr, but_cell _ _ _ _⟩))
  rw [show (l.drop u).length = l.length - u from List.length_drop] at hp
  obtain ⟨hb, hg, a, c, hr, hrow⟩ := h
  have c0 : w.cell? ⟨g, 0, none⟩ = some (.slice a l.length c) := cell_of_row _ _ _ _ _ _ hrow
  have f0 := frozen_of_row w g 0 _ _ hrow
  have hq := Lib.hid (restK hr rfl u hu)
  by_cases h0 : l.length = 0
  · obtain rfl : u = 0 := by omega
    have hl0 : l = [] := List.eq_nil_of_length_eq_zero h0
    subst hl0
    have hp' := Lib.hid (fun a' c' (hz : a' = none → c' = 0) => hp.out a' c' (.inl ⟨a', c', rfl, hz, rfl⟩))
    have hz : a = none → c = 0 := by
      rcases hr with ⟨a', c', he, hc, _⟩ | ⟨b, o, c', he, _⟩
      · injection he with e1 e2 e3; subst e1 e3; exact hc
      · injection he with e1 e2 e3; subst e1; intro h; cases h
    rw [show ([] : List Int).length = 0 from rfl, show 0 - 0 = 0 from rfl] at hp'
    rw [show ([] : List Int).length = 0 from rfl] at c0
    clear hp hq hrow hr hb
    cases a with
    | none =>
      obtain rfl := hz rfl
      clear hz
      go_enter Tryz.func96, Tryz.ntmps96
      go_wp2
      go_end0
      exact ⟨⟨_, rfl⟩, hp'.out _ _ (fun _ => rfl)⟩
    | some A =>
      clear hz
      obtain ⟨b, o, q⟩ := A
      by_cases hc : c = 0
      · subst hc
        go_enter Tryz.func96, Tryz.ntmps96
        go_wp2
        go_end0
        exact ⟨⟨_, rfl⟩, hp'.out _ _ (fun h => by cases h)⟩
      · have hc1 : ¬ c - 0 = 0 := by omega
        have hc2 : (0 : Int) ≤ (c : Int) := by omega
        have hc3 : ¬ c ≤ 0 := by omega
        have hc4 : ¬ 0 = c := by omega
        go_enter Tryz.func96, Tryz.ntmps96
        go_wp2
        go_end0
        exact ⟨⟨_, rfl⟩, hp'.out _ _ (fun h => by cases h)⟩
  · rcases hr with ⟨a', c', he, hc, rfl⟩ | ⟨b, o, c', he, h1, h2, h3, h4⟩
    · simp at h0
    injection he with e1 e2 e3
    subst e1 e3
    clear e2
    have hq1 := Lib.hid (fun h => hp.out _ _ (hq.out.1 h))
    have hq2 := Lib.hid (hp.out _ _ (hq.out.2 b o rfl))
    clear hp hq hrow h3 h4 hb
    generalize l.drop u = l' at *
    generalize l.length = N at *
    have b1 : (0 : Int) ≤ (u : Int) := by omega
    have b2 : (u : Int) ≤ (N : Int) := by omega
    have b4 : (N : Int) ≤ (c : Int) := by omega
    have b5 : (u : Int) ≤ (c : Int) := by omega
    by_cases hc : c = u
    · subst hc
      have hcN : N = c := by omega
      subst hcN
      have hc0 : N - N = 0 := by omega
      have hq3 := Lib.hid (hq1.out hc0)
      clear h1 hu hq1 hq2
      rw [Nat.sub_self] at hq3
      go_enter Tryz.func96, Tryz.ntmps96
      go_wp2
      go_end0
      exact ⟨⟨_, rfl⟩, hq3.out⟩
    · have hcc2 : ¬ c - u = 0 := by omega
      have b6 : ¬ c ≤ u := by omega
      have b7 : ¬ u = c := by omega
      clear hq1
      go_enter Tryz.func96, Tryz.ntmps96
      go_wp2
      go_end0
      exact ⟨⟨_, rfl⟩, hq2.out⟩
end Go.Proofs.YtfaojjleapenaabGreatDoor.wir.val
namespace Go.Proofs.YtfaojjleapenaabGreatDoor.wir.val
open Go.RowKit Go.YtfaojjleapenaabGreatDoor
set_option linter.unusedVariables false
set_option maxRecDepth 100000 in
theorem next_any {W0 w : World} {g : Nat} {l : List Int} {fl : Bool} (h : St W0 g w l fl) (hl : Bytes l) (hlm : l.length ≤ 1000000) :
    Calls Tryz.prog 65 #[.pointer (some ⟨g, 0, none⟩)] w fun e w' => ∃ x : Int, e = .returned (.int .u8 x) ∧ (0 ≤ x ∧ x < 256) ∧ RdOut W0 g w l fl (rNext l) x w' := by
  have hf := Lib.hid h.fail
  have hp := Lib.hid (fun a' c' (hr : RdB W0 (.slice a' (l.drop 1).length c') (l.drop 1)) => (show St W0 g (w.setCell ⟨g, 0, none⟩ (.slice a' (l.drop 1).length c')) (l.drop 1) fl ∧ w.grownBy (w.setCell ⟨g, 0, none⟩ (.slice a' (l.drop 1).length c')) (some g) from ⟨h.put a' c' hr, but_cell _ _ _ _⟩))
  rw [show (l.drop 1).length = l.length - 1 from List.length_drop] at hp
  obtain ⟨hb, hg, a, c, hr, hrow⟩ := h
  have c0 : w.cell? ⟨g, 0, none⟩ = some (.slice a l.length c) := cell_of_row _ _ _ _ _ _ hrow
  have c1 : w.cell? ⟨g, 1, none⟩ = some (.bool fl) := cell_of_row _ _ _ _ _ _ hrow
  have f0 := frozen_of_row w g 0 _ _ hrow
  have f1 := frozen_of_row w g 1 _ _ hrow
  have hq := Lib.hid (fun hN => restK hr rfl 1 hN)
  by_cases h0 : l.length = 0
  · have hn : rNext l = none := if_pos h0
    have hfin := Lib.hid (show RdOut W0 g w l fl (rNext l) 0 (w.setCell ⟨g, 1, none⟩ (.bool true)) from ⟨l, true, hf.out, but_cell _ _ _ _, Nat.le_refl _, hl, .inl ⟨rfl, hn⟩⟩)
    clear hp hq hf hn hrow hr hb
    rw [h0] at c0
    go_enter Tryz.func65, Tryz.ntmps65
    go_wp2
    go_ret
    exact ⟨0, rfl, by decide, hfin.out⟩
  · have hn : rNext l = some (ith l 0, l.drop 1) := if_neg h0
    have hx := Lib.hid (hl 0)
    rcases hr with ⟨a', c', he, hc, rfl⟩ | ⟨b, o, c', he, h1, h2, h3, h4⟩
    · simp at h0
    injection he with e1 e2 e3
    subst e1 e3
    clear e2
    have hfin := Lib.hid (fun w' (hs : St W0 g w' (l.drop 1) fl ∧ w.grownBy w' (some g)) => (show RdOut W0 g w l fl (rNext l) (ith l 0) w' from ⟨l.drop 1, fl, hs.1, hs.2, by rw [List.length_drop]; omega, bytes_drop _ _ hl, .inr ⟨rfl, hn⟩⟩))
    have hq1 := Lib.hid (fun h => hp.out _ _ ((hq.out (by omega)).1 h))
    have hq2 := Lib.hid (hp.out _ _ ((hq.out (by omega)).2 b o rfl))
    have k0 : w.cell? ⟨b, o, none⟩ = some (.int .u8 (ith l 0)) := by
      have := h4 0 (by omega)
      rw [Nat.add_zero] at this
      exact (hb.cell (p := ⟨b, o, none⟩) h3).trans this
    clear hp hq hrow h3 h4 hb hn hf hl
    generalize l.drop 1 = l' at *
    generalize rNext l = RN at *
    generalize ith l 0 = X at *
    obtain ⟨N, hN⟩ : ∃ N, N = l.length := ⟨_, rfl⟩
    rw [← hN] at hq1 hq2 c0 h0 h1 hlm
    clear hN
    have i1 : (1 : Int) ≤ (N : Int) := by omega
    have i2 : (N : Int) ≤ (c : Int) := by omega
    have i3 : (0 : Int) < (N : Int) := by omega
    have i4 : 0 < N := by omega
    by_cases hc : c = 1
    · subst hc
      obtain rfl : N = 1 := by omega
      have hq3 := Lib.hid (hq1.out (by omega))
      rw [show 1 - 1 = 0 from rfl] at hq3
      clear hq1 hq2
      go_enter Tryz.func65, Tryz.ntmps65
      go_wp2
      go_ret
      exact ⟨X, rfl, hx.out, hfin.out _ hq3.out⟩
    · have hcc2 : ¬ c - 1 = 0 := by omega
      have b6 : ¬ c ≤ 1 := by omega
      have b7 : ¬ 1 = c := by omega
      have b8 : (1 : Int) ≤ (c : Int) := by omega
      clear hq1
      go_enter Tryz.func65, Tryz.ntmps65
      go_wp2
      go_ret
      exact ⟨X, rfl, hx.out, hfin.out _ hq2.out⟩
theorem St.rd {W0 w : World} {g : Nat} {l : List Int} {fl : Bool} (h : St W0 g w l fl) : ∃ a c, RdB w (.slice a l.length c) l ∧ w.cell? ⟨g, 0, none⟩ = some (.slice a l.length c) := by
  obtain ⟨hb, hg, a, c, hr, hrow⟩ := h
  exact ⟨a, c, hr.mono hb, cell_of_row _ _ _ _ _ _ hrow⟩
set_option maxRecDepth 100000 in
theorem number_rd {W0 w : World} {g : Nat} {l : List Int} {fl : Bool} (h : St W0 g w l fl) (hl : Bytes l) (hlm : l.length ≤ 1000000) :
    Calls Tryz.prog 68 #[.pointer (some ⟨g, 0, none⟩)] w fun e w' => ∃ n : Nat, e = .returned (.int .u64 (n : Int)) ∧ n < 18446744073709551616 ∧ RdOut W0 g w l fl (rNum l) n w' := by
  obtain ⟨a, c, hr, c0⟩ := h.rd
  have hN := Lib.hid (readNumber_any l _ w hr hl)
  cases hre : readF l with
  | none =>
    have hn : rNum l = none := by unfold rNum; rw [hre]
    obtain ⟨e1, e2, e3⟩ := rd_none hre
    rw [e1, e2, e3] at hN
    have hS := Lib.hid (skip_bad h 0 12 rfl)
    have hfin := Lib.hid (fun w' (hs : St W0 g w' l true) (hg : w.grownBy w' (some g)) => (show RdOut W0 g w l fl (rNum l) 0 w' from ⟨l, true, hs, hg, Nat.le_refl _, hl, .inl ⟨rfl, hn⟩⟩))
    clear h hl hr hn hre e1 e2 e3
    generalize rNum l = RN at *
    generalize l.length = N at *
    go_enter Tryz.func68, Tryz.ntmps68
    go_wp2_with (first
      | (go_at_call 46; (with_reducible refine (hN.out).mono ?_); rintro e w1 ⟨rfl, rfl⟩)
      | (go_at_call 96; (with_reducible refine (hS.out).mono ?_); rintro e w2 ⟨⟨z, rfl⟩, q1, q2⟩; have q1 := Lib.hid q1; have q2 := Lib.hid q2))
    go_ret
    exact ⟨0, rfl, by decide, hfin.out _ q1.out q2.out⟩
  | some p =>
    obtain ⟨n, u⟩ := p
    have hn : rNum l = some (n, l.drop u) := by unfold rNum; rw [hre]
    obtain ⟨e1, e2, e3⟩ := rd_some hre
    rw [e1, e2, e3] at hN
    obtain ⟨a1, a2, a3, a4⟩ := readF_some hl hre
    have hS := Lib.hid (skip_ok h u a3 hlm)
    have hfin := Lib.hid (fun w' (hs : St W0 g w' (l.drop u) fl) (hg : w.grownBy w' (some g)) => (show RdOut W0 g w l fl (rNum l) n w' from ⟨l.drop u, fl, hs, hg, by rw [List.length_drop]; omega, bytes_drop _ _ hl, .inr ⟨rfl, hn⟩⟩))
    have ha1 := Lib.hid a1
    clear h hl hr hn hre e1 e2 e3 a1 a2 a4
    generalize rNum l = RN at *
    generalize l.drop u = l' at *
    generalize l.length = N at *
    go_enter Tryz.func68, Tryz.ntmps68
    go_wp2_with (first
      | (go_at_call 46; (with_reducible refine (hN.out).mono ?_); rintro e w1 ⟨rfl, rfl⟩)
      | (go_at_call 96; (with_reducible refine (hS.out).mono ?_); rintro e w2 ⟨⟨z, rfl⟩, q1, q2⟩; have q1 := Lib.hid q1; have q2 := Lib.hid q2))
    go_ret
    exact ⟨n, rfl, ha1.out, hfin.out _ q1.out q2.out⟩
set_option maxRecDepth 100000 in
theorem small_rd {W0 w : World} {g : Nat} {l : List Int} {fl : Bool} (h : St W0 g w l fl) (hl : Bytes l) (hlm : l.length ≤ 1000000) :
    Calls Tryz.prog 66 #[.pointer (some ⟨g, 0, none⟩)] w fun e w' => ∃ n : Nat, e = .returned (.int .u32 (n : Int)) ∧ n < 4294967296 ∧ RdOut W0 g w l fl (rSmall l) n w' := by
  have hN := Lib.hid (number_rd h hl hlm)
  have hs1 : ∀ n l', rNum l = some (n, l') → ¬ 4294967295 < n → rSmall l = some (n, l') := fun n l' hn hl => by unfold rSmall; rw [hn]; simp only; rw [if_neg hl]
  have hs2 : ∀ n l', rNum l = some (n, l') → 4294967295 < n → rSmall l = none := fun n l' hn hl => by unfold rSmall; rw [hn]; simp only; rw [if_pos hl]
  have hs3 : rNum l = none → rSmall l = none := fun hn => by unfold rSmall; rw [hn]
  have hs1 := Lib.hid hs1; have hs2 := Lib.hid hs2; have hs3 := Lib.hid hs3
  clear h hl
  go_enter Tryz.func66, Tryz.ntmps66
  go_upto_region 2 with (go_at_call 68; (with_reducible refine (hN.out).mono ?_); rintro e w1 ⟨n, rfl, hn, l', fl', q1, q2, q3, q4, q5⟩; have q1 := Lib.hid q1; have q2 := Lib.hid q2; have q3 := Lib.hid q3; have q4 := Lib.hid q4; have q5 := Lib.hid q5; have hn := Lib.hid hn)
  by_cases hlt : 4294967295 < n
  · have hf := Lib.hid q1.out.fail
    have hb := Lib.hid (but_trans q2.out (but_cell w1 g 1 (.bool true)))
    have hnone : rSmall l = none := by
      rcases q5.out with ⟨_, h⟩ | ⟨_, h⟩
      · exact hs3.out h
      · exact hs2.out _ _ h hlt
    have hfin := Lib.hid (fun x => (show RdOut W0 g w l fl (rSmall l) x (w1.setCell ⟨g, 1, none⟩ (.bool true)) from ⟨l', true, hf.out, hb.out, q3.out, q4.out, .inl ⟨rfl, hnone⟩⟩))
    obtain ⟨_, _, _, _, _, hrow⟩ := q1.out
    have c1 : w1.cell? ⟨g, 1, none⟩ = some (.bool fl') := cell_of_row _ _ _ _ _ _ hrow
    have f1 := frozen_of_row w1 g 1 _ _ hrow
    have hi : (4294967295 : Int) < (n : Int) := by omega
    have hw : IntKind.u32.wrap (n : Int) = ((n % 4294967296 : Nat) : Int) := by
      rw [Int.natCast_emod]; rfl
    have hw' := Lib.hid hw
    clear hrow hnone hw
    go_wp2
    go_ret
    exact ⟨n % 4294967296, by rw [Int.natCast_emod]; rfl, Nat.mod_lt _ (by decide), hfin.out _⟩
  · have hi : ¬ (4294967295 : Int) < (n : Int) := by omega
    have hw : IntKind.u32.wrap (n : Int) = (n : Int) := IntWalk.u32_in _ (by omega)
    have hfin := Lib.hid (show RdOut W0 g w l fl (rSmall l) n w1 from ⟨l', fl', q1.out, q2.out, q3.out, q4.out, by
      rcases q5.out with ⟨h1, h⟩ | ⟨h1, h⟩
      · exact .inl ⟨h1, hs3.out h⟩
      · exact .inr ⟨h1, hs1.out _ _ h hlt⟩⟩)
    go_wp2
    go_ret
    exact ⟨n, rfl, by omega, hfin.out⟩
end Go.Proofs.YtfaojjleapenaabGreatDoor.wir.val
namespace Go.Proofs.YtfaojjleapenaabGreatDoor.wir.val
open Go.RowKit Go.YtfaojjleapenaabGreatDoor
set_option linter.unusedVariables false
theorem heldI_but {B g : Nat} {w w' : World} {v : Value} {n : Nat} {F : List Int} (h : HeldI B w v n F) (hg : g < B) (k : w.grownBy w' (some g)) : HeldI B w' v n F := fun wx h1 h2 =>
  h wx (fun i k1 k2 => (h1 i k1 (Nat.lt_of_lt_of_le k2 k.size)).trans (k.block i k2 (fun e => by have := Option.some.inj e; omega))) (Nat.le_trans k.size h2)
theorem butRow {w w' : World} {g k : Nat} {o : Obj} (h : w.grownBy w' (some g)) (hk : w.heap[k]? = some o) (hne : g ≠ k) : w'.heap[k]? = some o :=
  (h.block k (Array.getElem?_eq_some_iff.1 hk).1 (fun e => hne (Option.some.inj e).symm)).trans hk
theorem St.lt {W0 w : World} {g : Nat} {l : List Int} {fl : Bool} (h : St W0 g w l fl) : g < w.heap.size := by
  obtain ⟨_, _, _, _, _, hrow⟩ := h
  exact (Array.getElem?_eq_some_iff.1 hrow).1
theorem St.low {W0 w w' : World} {g B : Nat} {l : List Int} {fl : Bool} (h : St W0 g w l fl) (k : Below B w w') (hg : g < B) (hB : W0.heap.size ≤ B) : St W0 g w' l fl := by
  obtain ⟨hb, hg0, a, c, hr, hrow⟩ := h
  exact ⟨hb.trans (k.mono hB), hg0, a, c, hr, (k.block g hg).trans hrow⟩
theorem but_below {w w2 w9 : World} {r : Option Nat} (h : w.grownBy w2 r) (k : Below w.heap.size w2 w9) : w.grownBy w9 r :=
  ⟨k.os.trans h.os, k.tape.trans h.tape, k.output.trans h.output, Nat.le_trans h.size k.size, fun i hi hn => (k.block i hi).trans (h.block i hi hn)⟩
theorem RdOut.low {α : Type} {W0 w w2 w9 : World} {g : Nat} {l : List Int} {fl : Bool} {r : Option (α × List Int)} {x : α} (h : RdOut W0 g w l fl r x w2) (k : Below w.heap.size w2 w9) (hg : g < w.heap.size) (hB : W0.heap.size ≤ w.heap.size) : RdOut W0 g w l fl r x w9 := by
  obtain ⟨l', fl', q1, q2, q3, q4, q5⟩ := h
  exact ⟨l', fl', q1.low k hg hB, but_below q2 k, q3, q4, q5⟩
set_option maxHeartbeats 1000000 in
set_option maxRecDepth 100000 in
theorem ids_rd {W0 w : World} {g : Nat} {l : List Int} {fl : Bool} (h : St W0 g w l fl) (hl : Bytes l) (hlm : l.length ≤ 1000000) :
    Calls Tryz.prog 67 #[.pointer (some ⟨g, 0, none⟩)] w fun e w' => ∃ (a : Option Addr) (n c : Nat) (F : List Int), e = .returned (.slice a n c) ∧ HeldI w.heap.size w' (.slice a n c) n F ∧ Bytes F ∧ n ≤ 4 ∧ RdOut W0 g w l fl (rIds l) (n, F) w' := by
  obtain ⟨a, c, hr, c0⟩ := h.rd
  have hno : ∀ w1, Below w.heap.size w w1 → rIds l = none → Calls Tryz.prog 96 #[.pointer (some ⟨g, 0, none⟩), .int .i64 0, .int .i64 12] w1 fun e w' => IsRet e ∧ Hid (∃ (a : Option Addr) (n c : Nat) (F : List Int), Value.slice none 0 0 = .slice a n c ∧ HeldI w.heap.size w' (.slice a n c) n F ∧ Bytes F ∧ n ≤ 4 ∧ RdOut W0 g w l fl (rIds l) (n, F) w') := fun w1 hb1 hn =>
    (skip_bad (h.kept hb1) 0 12 rfl).mono fun e w' ⟨q0, q1, q2⟩ => ⟨q0, none, 0, 0, [], rfl, heldI_nil _ _, (fun i => by simp [ith]), by omega, l, true, q1, but_trans (but_of hb1) q2, Nat.le_refl _, hl, .inl ⟨rfl, hn⟩⟩
  cases hre : readC l 4 32 with
  | none =>
    have hn : rIds l = none := by unfold rIds; rw [hre]
    have hN := Lib.hid (readIDs_no l _ 4 (by omega) (by omega) w hr hl hlm hre)
    have hS := Lib.hid (hno w (Below.refl _ _) hn)
    clear hno h hl hr hn hre
    generalize rIds l = RN at *
    generalize l.length = N at *
    go_enter Tryz.func67, Tryz.ntmps67
    go_wp2_with (first
      | (go_at_call 47; (with_reducible refine (hN.out).mono ?_); rintro e w1 ⟨rfl, rfl⟩)
      | (go_at_call 96; (with_reducible refine (hS.out).mono ?_); rintro e w2 ⟨⟨z, rfl⟩, q1⟩; have q1 := Lib.hid q1))
    go_ret
    obtain ⟨a, n, c, F, h1, h2⟩ := q1.out.out
    exact ⟨a, n, c, F, by rw [← h1]; rfl, h2⟩
  | some p =>
    obtain ⟨n, u⟩ := p
    have hN := Lib.hid (readIDs_ok l _ 4 (by omega) (by omega) w hr hl hlm n u hre)
    obtain ⟨c1, c2, c3⟩ := readC_some hre
    obtain ⟨a1, a2, a3, a4⟩ := readF_some hl c1
    have hlen : ((l.drop u).take (n * 32)).length = 32 * n := by rw [List.length_take, List.length_drop]; omega
    cases hri : riseF ((l.drop u).take (n * 32)) n with
    | false =>
      have hn : rIds l = none := by unfold rIds; rw [hre]; simp only; rw [if_neg (by rw [hri]; decide)]
      have hS := Lib.hid (fun w1 hb1 => hno w1 hb1 hn)
      clear hno h hl hr hn hre c1 c2 c3 a1 a2 a3 a4 hlen
      generalize rIds l = RN at *
      generalize l.length = N at *
      go_enter Tryz.func67, Tryz.ntmps67
      go_wp2_with (first
        | (go_at_call 47; (with_reducible refine (hN.out).mono ?_); intro e w1 hpost; unfold readIDsPost at hpost; rw [hri, if_neg (by decide)] at hpost; obtain ⟨hb1, rfl⟩ := hpost; have hS1 := Lib.hid (hS.out w1 hb1); clear hb1)
        | (go_at_call 96; (with_reducible refine (hS1.out).mono ?_); rintro e w2 ⟨⟨z, rfl⟩, q1⟩; have q1 := Lib.hid q1))
      go_ret
      obtain ⟨a, n, c, F, h1, h2⟩ := q1.out.out
      exact ⟨a, n, c, F, by rw [← h1]; rfl, h2⟩
    | true =>
      have hn : rIds l = some ((n, (l.drop u).take (n * 32)), l.drop (u + n * 32)) := by unfold rIds; rw [hre]; simp only; rw [if_pos hri]
      have hS := Lib.hid (fun w1 (hb1 : Below w.heap.size w w1) (hrow : w1.heap[w.heap.size]? = some (.cells (u8s ((l.drop u).take (n * 32))) 43 (0, 0))) => (skip_ok (h.kept hb1) (u + n * 32) (by omega) hlm).mono (R' := fun e w' => IsRet e ∧ Hid (HeldI w.heap.size w' (.slice (some ⟨w.heap.size, 0, none⟩) n n) n ((l.drop u).take (n * 32)) ∧ Bytes ((l.drop u).take (n * 32)) ∧ n ≤ 4 ∧ RdOut W0 g w l fl (rIds l) (n, (l.drop u).take (n * 32)) w')) fun e w' ⟨q0, q1, q2⟩ => ⟨q0,
        heldI_but (heldI_row hrow n hlen (by omega) (Nat.le_refl _)) h.lt q2, bytes_take _ _ (bytes_drop _ _ hl), by omega, _, _, q1, but_trans (but_of hb1) q2, by rw [List.length_drop]; omega, bytes_drop _ _ hl, .inr ⟨rfl, hn⟩⟩)
      obtain ⟨V, hV⟩ : ∃ V, u + n * 32 = V := ⟨_, rfl⟩
      rw [hV] at hN hS
      clear hV hno h hl hr hn hre c1 c2 c3 a1 a2 a3 a4 hlen
      generalize rIds l = RN at *
      generalize l.length = N at *
      go_enter Tryz.func67, Tryz.ntmps67
      go_wp2_with (first
        | (go_at_call 47; (with_reducible refine (hN.out).mono ?_); intro e w1 hpost; unfold readIDsPost at hpost; rw [hri, if_pos rfl] at hpost; obtain ⟨hb1, rfl, hrow⟩ := hpost; have hS1 := Lib.hid (hS.out w1 hb1 hrow); clear hb1 hrow)
        | (go_at_call 96; (with_reducible refine (hS1.out).mono ?_); rintro e w2 ⟨⟨z, rfl⟩, q1⟩; have q1 := Lib.hid q1))
      go_ret
      exact ⟨_, n, n, _, rfl, q1.out.out⟩
set_option maxHeartbeats 1000000 in
set_option maxRecDepth 100000 in
theorem key_rd {W0 w : World} {g : Nat} {l : List Int} {fl : Bool} (h : St W0 g w l fl) (hl : Bytes l) (hlm : l.length ≤ 1000000) :
    Calls Tryz.prog 97 #[.pointer (some ⟨g, 0, none⟩)] w fun e w' => ∃ s : ByteArray, e = .returned (.string s) ∧ s.size ≤ 20 ∧ RdOut W0 g w l fl (rKey l) s w' := by
  obtain ⟨a, c, hr, c0⟩ := h.rd
  cases hre : readC l 20 1 with
  | none =>
    have hn : rKey l = none := by unfold rKey; rw [hre]
    have hN := Lib.hid (readBytes_no l _ 20 (by omega) (by omega) w hr hl hlm hre)
    have hS := Lib.hid ((skip_bad h 0 12 rfl).mono (R' := fun e w' => IsRet e ∧ Hid (RdOut W0 g w l fl (rKey l) (toS []) w')) fun e w' ⟨q0, q1, q2⟩ => ⟨q0, l, true, q1, q2, Nat.le_refl _, hl, .inl ⟨rfl, hn⟩⟩)
    have hkc := fun wx => run_toS (P := Tryz.prog) (w := wx) (v := .slice none 0 0) (l := []) (.inl ⟨none, 0, rfl, fun _ => rfl, rfl⟩) 22 9 5 Tryz.underlying22 Tryz.underlying5 Tryz.underlying9
    clear h hl hr hn hre
    have hsz := Lib.hid (show (toS []).size ≤ 20 by decide)
    generalize toS [] = s0 at *
    generalize rKey l = RN at *
    generalize l.length = N at *
    go_enter Tryz.func97, Tryz.ntmps97
    go_wp2_with (first
      | (go_at_call 48; (with_reducible refine (hN.out).mono ?_); rintro e w1 ⟨rfl, rfl⟩)
      | (go_at_call 96; (with_reducible refine (hS.out).mono ?_); rintro e w2 ⟨⟨z, rfl⟩, q1⟩; have q1 := Lib.hid q1))
    go_ret
    exact ⟨s0, rfl, hsz.out, q1.out.out⟩
  | some p =>
    obtain ⟨n, u⟩ := p
    have hN := Lib.hid (readBytes_ok l _ 20 (by omega) (by omega) w hr hl hlm n u hre)
    obtain ⟨c1, c2, c3⟩ := readC_some hre
    obtain ⟨a1, a2, a3, a4⟩ := readF_some hl c1
    rw [Nat.div_one] at c3
    have hlen : ((l.drop u).take n).length = n := by rw [List.length_take, List.length_drop]; omega
    have hn : rKey l = some (toS ((l.drop u).take n), l.drop (u + n)) := by unfold rKey; rw [hre]
    have hsz := Lib.hid (show (toS ((l.drop u).take n)).size ≤ 20 by rw [toS_size, hlen]; omega)
    have hS := Lib.hid (fun w1 (hb1 : Below w.heap.size w w1) (hrow : w1.heap[w.heap.size]? = some (.cells (u8s ((l.drop u).take n)) 5 (0, 0))) => (skip_ok (h.kept hb1) (u + n) (by omega) hlm).mono (R' := fun e w' => IsRet e ∧ w'.heap[w.heap.size]? = some (.cells (u8s ((l.drop u).take n)) 5 (0, 0)) ∧ Hid (RdOut W0 g w l fl (rKey l) (toS ((l.drop u).take n)) w')) fun e w' ⟨q0, q1, q2⟩ => ⟨q0,
      butRow q2 hrow (by have := h.lt; omega), _, _, q1, but_trans (but_of hb1) q2, by rw [List.length_drop]; omega, bytes_drop _ _ hl, .inr ⟨rfl, hn⟩⟩)
    have hkc := Lib.hid (fun (wx : World) (hrow : wx.heap[w.heap.size]? = some (.cells (u8s ((l.drop u).take n)) 5 (0, 0))) => run_toS (P := Tryz.prog) (rdB_row hrow n hlen (by unfold maxLen; omega)) 22 9 5 Tryz.underlying22 Tryz.underlying5 Tryz.underlying9)
    obtain ⟨V, hV⟩ : ∃ V, u + n = V := ⟨_, rfl⟩
    rw [hV] at hN hS
    clear hV h hl hr hn hre c1 c2 c3 a1 a2 a3 a4 hlen
    generalize toS ((l.drop u).take n) = s0 at *
    generalize (l.drop u).take n = R at *
    generalize rKey l = RN at *
    generalize l.length = N at *
    go_enter Tryz.func97, Tryz.ntmps97
    go_wp2_with (first
      | (go_at_call 48; (with_reducible refine (hN.out).mono ?_); rintro e w1 ⟨rfl, hrow, hb1⟩; have hS1 := Lib.hid (hS.out w1 hb1 hrow); clear hb1 hrow)
      | (go_at_call 96; (with_reducible refine (hS1.out).mono ?_); rintro e w2 ⟨⟨z, rfl⟩, q0, q1⟩; have q1 := Lib.hid q1; have hk2 := hkc.out w2 q0; clear q0))
    go_ret
    exact ⟨s0, rfl, hsz.out, q1.out.out⟩
set_option maxHeartbeats 1000000 in
set_option maxRecDepth 100000 in
theorem value_rd {W0 w : World} {g : Nat} {l : List Int} {fl : Bool} (h : St W0 g w l fl) (hl : Bytes l) (hlm : l.length ≤ 1000000) :
    Calls Tryz.prog 98 #[.pointer (some ⟨g, 0, none⟩)] w fun e w' => ∃ v : Va, e = .returned v.v ∧ v.fit ∧ RdOut W0 g w l fl (rVal l) v w' := by
  have hlt := Lib.hid h.lt
  have hB0 := below_a w (.cells #[.int .u8 0, .int .i64 0, .int .u64 0, .string ⟨#[]⟩] 35)
  have hrow := Lib.hid (heap_alloc_new w (.cells #[.int .u8 0, .int .i64 0, .int .u64 0, .string ⟨#[]⟩] 35))
  obtain ⟨W, hW⟩ : ∃ W, W = w.alloc (.cells #[.int .u8 0, .int .i64 0, .int .u64 0, .string ⟨#[]⟩] 35) := ⟨_, rfl⟩
  rw [← hW] at hrow hB0
  have hh := h.kept hB0
  obtain ⟨a, c, hr, c0⟩ := hh.rd
  have hWs : w.heap.size < W.heap.size := (Array.getElem?_eq_some_iff.1 hrow.out).1
  have hN := Lib.hid (decode_any l _ W hr hl hlm)
  obtain ⟨v, u, x, hd, hfit, hS⟩ : ∃ (v : Va) (u : Nat) (x : Int), decR l = .tuple #[vA v.k v.n v.b v.s, .int .i64 (u : Int), .int .i64 x] ∧ v.fit ∧ ∀ w1, Below W.heap.size W w1 → Calls Tryz.prog 96 #[.pointer (some ⟨g, 0, none⟩), .int .i64 (u : Int), .int .i64 x] w1 fun e w' => IsRet e ∧ w1.grownBy w' (some g) ∧ Hid (RdOut W0 g w l fl (rVal l) v w') := by
    cases hre : decF l with
    | none =>
      have hn : rVal l = none := by unfold rVal; rw [hre]
      refine ⟨⟨0, 0, 0, ⟨#[]⟩⟩, 0, 12, by unfold decR; rw [hre]; rfl, ⟨by decide, by decide, by decide, by decide⟩, fun w1 hb1 => (skip_bad (hh.kept hb1) _ 12 rfl).mono fun e w' ⟨q0, q1, q2⟩ => ⟨q0, q2, l, true, q1, but_trans (but_of (hB0.trans (hb1.mono hB0.size))) q2, Nat.le_refl _, hl, .inl ⟨rfl, hn⟩⟩⟩
    | some p =>
      obtain ⟨v, u⟩ := p
      obtain ⟨a1, a2, a3, a4, a5⟩ := decF_some hl hre
      have hn : rVal l = some (v, l.drop u) := by unfold rVal; rw [hre]
      refine ⟨v, u, 0, by unfold decR; rw [hre], a1, fun w1 hb1 => (skip_ok (hh.kept hb1) u a4 hlm).mono fun e w' ⟨q0, q1, q2⟩ => ⟨q0, q2, _, _, q1, but_trans (but_of (hB0.trans (hb1.mono hB0.size))) q2, by rw [List.length_drop]; omega, bytes_drop _ _ hl, .inr ⟨rfl, hn⟩⟩⟩
  rw [hd] at hN
  have hS := Lib.hid hS
  have hgs := Lib.hid h.ge
  have hb0s := Lib.hid h.b.size
  have hWs' := Lib.hid hWs
  have hfit := Lib.hid hfit
  clear hd hr hh h hl hB0 hWs
  generalize rVal l = RN at *
  generalize l.length = N at *
  obtain ⟨vk, vn, vb, vs⟩ := v
  dsimp only at *
  go_enter Tryz.func98, Tryz.ntmps98
  go_upto_region 1 with fail
  rw [← hW]
  clear hW
  go_upto_region 2 with (go_at_call 49; (with_reducible refine (hN.out).mono ?_); rintro e w1 ⟨rfl, hb1⟩; have hb1 := Lib.hid hb1)
  have hl1 := Lib.hid (heap_alloc_new w1 (.cells (vC vk vn vb vs) 35))
  have hb2 := Lib.hid (hb1.out.alloc hb1.out.size (.cells (vC vk vn vb vs) 35))
  have hS1 := Lib.hid (hS.out _ hb2.out)
  have hrow2 := Lib.hid (rowB hrow.out hb2.out hWs'.out)
  have hw1 := Lib.hid hb1.out.size
  generalize w1.heap.size = g3 at *
  generalize w1.alloc (.cells (vC vk vn vb vs) 35) = w2 at *
  have hg3 := Lib.hid (show g ≠ g3 by have := hlt.out; have := hw1.out; have := hWs'.out; omega)
  have hgw := Lib.hid (show g ≠ w.heap.size by have := hlt.out; omega)
  go_wp2_with (first
    | (go_at_call 96; (with_reducible refine (hS1.out).mono ?_); rintro e w3 ⟨⟨z, rfl⟩, q1, q2⟩; have hl3 := Lib.hid (butRow q1 hl1.out hg3.out); have hrow3 := Lib.hid (butRow q1 hrow2.out hgw.out); have q2 := Lib.hid q2; clear q1)
    | (refine wpList_load_row_g rfl 35 _ rfl g3 rfl 35 (vC vk vn vb vs) (0, 0) _ hl3.out Tryz.underlying35 rfl info_val ?_)
    | (refine storeOver _ w.heap.size _ rfl 35 _ _ rfl (vC vk vn vb vs) 35 hrow3.out rfl rfl info_val rfl (val_one _ _ _ _) ?_; intro w9 hr9 hb9; have hr9' := Lib.hid hr9; have hb9' := Lib.hid hb9; clear hr9 hb9))
  exact bodyPost_ret (results_cell_row rfl _ _ w.heap.size 35 _ _ _ rfl hr9'.out Tryz.underlying35 rfl info_val) rfl ⟨⟨vk, vn, vb, vs⟩, rfl, hfit.out, RdOut.low q2.out.out hb9'.out hlt.out hb0s.out⟩
end Go.Proofs.YtfaojjleapenaabGreatDoor.wir.val
namespace Go.Proofs.YtfaojjleapenaabGreatDoor.wir.val
open Go.RowKit Go.YtfaojjleapenaabGreatDoor
set_option linter.unusedVariables false
theorem fit_zero : Va.fit ⟨0, 0, 0, ⟨#[]⟩⟩ := ⟨by decide, by decide, by decide, by decide⟩
theorem nil_size : (ByteArray.mk #[]).size ≤ 20 := by decide
theorem rNext_some {l l1 : List Int} {x : Int} (h : rNext l = some (x, l1)) : ¬ l.length = 0 ∧ ith l 0 = x ∧ l.drop 1 = l1 := by
  unfold rNext at h
  by_cases h0 : l.length = 0
  · rw [if_pos h0] at h; cases h
  · rw [if_neg h0] at h
    obtain ⟨h1, h2⟩ := Prod.mk.inj (Option.some.inj h)
    exact ⟨h0, h1, h2⟩
theorem rNext_none {l : List Int} (h : rNext l = none) : l.length = 0 := by
  unfold rNext at h
  by_cases h0 : l.length = 0
  · exact h0
  · rw [if_neg h0] at h; cases h
/-- How a part of the reader ends. -/
abbrev Ends {α : Type} (fl : Bool) (r : Option (α × List Int)) (x : α) (l' : List Int) (fl' : Bool) : Prop := (fl' = true ∧ r = none) ∨ (fl' = fl ∧ r = some (x, l'))
theorem Ends.up {α : Type} {fl fl' : Bool} {r : Option (α × List Int)} {x : α} {l' : List Int} (h : Ends fl r x l' fl') (hf : fl = true) : fl' = true := by
  rcases h with h | h
  · exact h.1
  · exact h.1.trans hf
theorem St.other {W0 w : World} {g k : Nat} {l : List Int} {fl : Bool} (h : St W0 g w l fl) (hk : g ≠ k) (hW : W0.heap.size ≤ k) (i : Nat) (v : Value) : St W0 g (w.setCell ⟨k, i, none⟩ v) l fl := by
  obtain ⟨hb, hg0, a, c, hr, hrow⟩ := h
  exact ⟨hb.setCell hW _, hg0, a, c, hr, (setCell_rows k i v g hk).trans hrow⟩
theorem but_set {w w2 : World} {r : Option Nat} (h : w.grownBy w2 r) (k i : Nat) (v : Value) (hk : w.heap.size ≤ k) : w.grownBy (w2.setCell ⟨k, i, none⟩ v) r :=
  but_below h ((Below.refl _ _).setCell (p := ⟨k, i, none⟩) hk v)
theorem six_of {w : World} {g : Nat} {x0 x1 x2 x3 x4 x5 : Value} {T : TypeId} (h : w.heap[g]? = some (.cells #[x0, x1, x2, x3, x4, x5] T (0, 0))) :
    (w.cell? ⟨g, 0, none⟩ = some x0 ∧ w.cell? ⟨g, 1, none⟩ = some x1 ∧ w.cell? ⟨g, 2, none⟩ = some x2 ∧ w.cell? ⟨g, 3, none⟩ = some x3 ∧ w.cell? ⟨g, 4, none⟩ = some x4 ∧ w.cell? ⟨g, 5, none⟩ = some x5) ∧
    w.frozen? ⟨g, 0, none⟩ = false ∧ w.frozen? ⟨g, 1, none⟩ = false ∧ w.frozen? ⟨g, 2, none⟩ = false ∧ w.frozen? ⟨g, 3, none⟩ = false ∧ w.frozen? ⟨g, 4, none⟩ = false ∧ w.frozen? ⟨g, 5, none⟩ = false :=
  ⟨⟨cell_of_row _ _ _ _ _ _ h, cell_of_row _ _ _ _ _ _ h, cell_of_row _ _ _ _ _ _ h, cell_of_row _ _ _ _ _ _ h, cell_of_row _ _ _ _ _ _ h, cell_of_row _ _ _ _ _ _ h⟩, frozen_of_row _ _ _ _ _ h, frozen_of_row _ _ _ _ _ h, frozen_of_row _ _ _ _ _ h, frozen_of_row _ _ _ _ _ h, frozen_of_row _ _ _ _ _ h, frozen_of_row _ _ _ _ _ h⟩
theorem act_one (k n b : Int) (s t : ByteArray) (j : Int) : (#[Value.int .u8 k, .string s, .int .u8 j, .int .i64 n, .int .u64 b, .string t] : Array Value).all (·.oneCell') = true := by simp [Value.oneCell']
theorem act_ends1 {l l1 : List Int} {fl f1 : Bool} {x : Int} (q : Ends fl (rNext l) x l1 f1) (hx : x = 1) : Ends fl (rAct l) ⟨x, ⟨#[]⟩, ⟨0, 0, 0, ⟨#[]⟩⟩⟩ l1 f1 := by
  rcases q with ⟨h1, h2⟩ | ⟨h1, h2⟩
  · exact .inl ⟨h1, by unfold rAct; rw [if_pos (rNext_none h2)]⟩
  · obtain ⟨a1, a2, a3⟩ := rNext_some h2
    exact .inr ⟨h1, by unfold rAct; rw [if_neg a1, if_pos (a2.trans hx), a2, a3]⟩
theorem act_ends2 {l l1 l2 : List Int} {fl f1 f2 : Bool} {x : Int} {s : ByteArray} (q : Ends fl (rNext l) x l1 f1) (r : Ends f1 (rKey l1) s l2 f2) (hx : ¬ x = 1) (hx4 : ¬ x = 4) : Ends fl (rAct l) ⟨x, s, ⟨0, 0, 0, ⟨#[]⟩⟩⟩ l2 f2 := by
  rcases q with ⟨h1, h2⟩ | ⟨h1, h2⟩
  · exact .inl ⟨r.up h1, by unfold rAct; rw [if_pos (rNext_none h2)]⟩
  · obtain ⟨a1, a2, a3⟩ := rNext_some h2
    rcases r with ⟨r1, r2⟩ | ⟨r1, r2⟩
    · exact .inl ⟨r1, by unfold rAct; rw [if_neg a1, a2, a3, if_neg hx, r2]⟩
    · exact .inr ⟨r1.trans h1, by unfold rAct; rw [if_neg a1, a2, a3, if_neg hx, r2]; simp only; rw [if_neg hx4]⟩
theorem act_ends3 {l l1 l2 l3 : List Int} {fl f1 f2 f3 : Bool} {x : Int} {s : ByteArray} {v : Va} (q : Ends fl (rNext l) x l1 f1) (r : Ends f1 (rKey l1) s l2 f2) (t : Ends f2 (rVal l2) v l3 f3) (hx : ¬ x = 1) (hx4 : x = 4) : Ends fl (rAct l) ⟨x, s, v⟩ l3 f3 := by
  rcases q with ⟨h1, h2⟩ | ⟨h1, h2⟩
  · exact .inl ⟨t.up (r.up h1), by unfold rAct; rw [if_pos (rNext_none h2)]⟩
  · obtain ⟨a1, a2, a3⟩ := rNext_some h2
    rcases r with ⟨r1, r2⟩ | ⟨r1, r2⟩
    · exact .inl ⟨t.up r1, by unfold rAct; rw [if_neg a1, a2, a3, if_neg hx, r2]⟩
    · rcases t with ⟨t1, t2⟩ | ⟨t1, t2⟩
      · exact .inl ⟨t1, by unfold rAct; rw [if_neg a1, a2, a3, if_neg hx, r2]; simp only; rw [if_pos hx4, t2]⟩
      · exact .inr ⟨t1.trans (r1.trans h1), by unfold rAct; rw [if_neg a1, a2, a3, if_neg hx, r2]; simp only; rw [if_pos hx4, t2]⟩
set_option maxHeartbeats 2000000 in
set_option maxRecDepth 100000 in
theorem act_rd {W0 w : World} {g : Nat} {l : List Int} {fl : Bool} (h : St W0 g w l fl) (hl : Bytes l) (hlm : l.length ≤ 1000000) :
    Calls Tryz.prog 69 #[.pointer (some ⟨g, 0, none⟩)] w fun e w' => ∃ c : Ac, e = .returned (aA c.k c.key c.v) ∧ (0 ≤ c.k ∧ c.k < 256) ∧ c.key.size ≤ 20 ∧ c.v.fit ∧ RdOut W0 g w l fl (rAct l) c w' := by
  have hlt := Lib.hid h.lt
  have hB0 := below_a w (.cells (aC 0 ⟨#[]⟩ ⟨0, 0, 0, ⟨#[]⟩⟩) 37)
  have hrow := Lib.hid (heap_alloc_new w (.cells (aC 0 ⟨#[]⟩ ⟨0, 0, 0, ⟨#[]⟩⟩) 37))
  obtain ⟨W, hW⟩ : ∃ W, W = w.alloc (.cells (aC 0 ⟨#[]⟩ ⟨0, 0, 0, ⟨#[]⟩⟩) 37) := ⟨_, rfl⟩
  rw [← hW] at hrow hB0
  have hX := Lib.hid (next_any (h.kept hB0) hl hlm)
  have hWs := Lib.hid (show w.heap.size < W.heap.size from (Array.getElem?_eq_some_iff.1 hrow.out).1)
  have hbs := Lib.hid h.b.size
  have hg0 := Lib.hid (but_of (r := some g) hB0)
  have hll := Lib.hid hlm
  clear h hl hB0 hlm
  go_enter Tryz.func69, Tryz.ntmps69
  go_upto_region 1 with fail
  change Code.wp _ _ _ _ (w.alloc (.cells (aC 0 ⟨#[]⟩ ⟨0, 0, 0, ⟨#[]⟩⟩) 37))
  rw [← hW]
  clear hW
  go_upto_region 2 with (go_at_call 65; (with_reducible refine (hX.out).mono ?_); rintro e w1 ⟨x, rfl, hx, l1, f1, q1, q2, q3, q4, q5⟩; have hx := Lib.hid hx; have q1 := Lib.hid q1; have q2 := Lib.hid q2; have q3 := Lib.hid q3; have q4 := Lib.hid q4; have q5 := Lib.hid q5)
  have hrow1 := Lib.hid (butRow q2.out hrow.out (by have := hlt.out; omega))
  have hl1 := Lib.hid (heap_alloc_new w1 (.cells (aC x ⟨#[]⟩ ⟨0, 0, 0, ⟨#[]⟩⟩) 37))
  have hb2 := below_a w1 (.cells (aC x ⟨#[]⟩ ⟨0, 0, 0, ⟨#[]⟩⟩) 37)
  have s2 := Lib.hid (q1.out.kept hb2)
  have g2 := Lib.hid (but_trans (but_trans hg0.out q2.out) (but_of (r := some g) hb2))
  have hrow2 := Lib.hid (rowB hrow1.out hb2 (Array.getElem?_eq_some_iff.1 hrow1.out).1)
  have hg3 := Lib.hid (show w.heap.size < w1.heap.size from Nat.lt_of_lt_of_le hWs.out q2.out.size)
  clear hb2 q1 q2 hrow1 hrow hX hg0
  change Code.wp _ _ _ _ (w1.alloc (.cells (aC x ⟨#[]⟩ ⟨0, 0, 0, ⟨#[]⟩⟩) 37))
  generalize w1.heap.size = g3 at *
  generalize w1.alloc (.cells (aC x ⟨#[]⟩ ⟨0, 0, 0, ⟨#[]⟩⟩) 37) = w2 at *
  have hgg3 := Lib.hid (show g ≠ g3 by have := hlt.out; have := hg3.out; omega)
  have hgw := Lib.hid (show g ≠ w.heap.size by have := hlt.out; omega)
  have hWg3 := Lib.hid (show W0.heap.size ≤ g3 by have := hbs.out; have := hg3.out; omega)
  obtain ⟨k0, k1, k2, k3, k4, k5⟩ := (six_of hl1.out).1
  by_cases hk1 : x = 1
  · have t1 : (x != 1) = false := by rw [hk1]; rfl
    have t4 : (x == 4) = false := by rw [hk1]; rfl
    have hE := Lib.hid (act_ends1 q5.out hk1)
    have hR := Lib.hid (show RdOut W0 g w l fl (rAct l) ⟨x, ⟨#[]⟩, ⟨0, 0, 0, ⟨#[]⟩⟩⟩ w2 from ⟨l1, f1, s2.out, g2.out, q3.out, q4.out, hE.out⟩)
    clear q5 hk1 hE
    go_wp2_with (first
      | (refine wpList_load_row_g rfl 37 _ rfl g3 rfl 37 (aC x ⟨#[]⟩ ⟨0, 0, 0, ⟨#[]⟩⟩) (0, 0) _ hl1.out Tryz.underlying37 rfl info_act ?_)
      | (refine storeOver _ w.heap.size _ rfl 37 _ _ rfl (aC x ⟨#[]⟩ ⟨0, 0, 0, ⟨#[]⟩⟩) 37 hrow2.out rfl rfl info_act rfl (act_one _ _ _ _ _ _) ?_; intro w9 hr9 hb9; have hr9' := Lib.hid hr9; have hb9' := Lib.hid hb9; clear hr9 hb9))
    exact bodyPost_ret (results_cell_row rfl _ _ w.heap.size 37 _ _ _ rfl hr9'.out Tryz.underlying37 rfl info_act) rfl ⟨⟨x, ⟨#[]⟩, ⟨0, 0, 0, ⟨#[]⟩⟩⟩, rfl, hx.out, nil_size, fit_zero, RdOut.low hR.out hb9'.out hlt.out hbs.out⟩
  · have t1 : (x != 1) = true := by simpa using hk1
    have hK := Lib.hid (key_rd s2.out q4.out (by have := hll.out; have := q3.out; omega))
    have hk1 := Lib.hid hk1
    go_upto_region 4 with (go_at_call 97; (with_reducible refine (hK.out).mono ?_); rintro e w3 ⟨s, rfl, hs, l2, f2, p1, p2, p3, p4, p5⟩; have hs := Lib.hid hs; have p1 := Lib.hid p1; have p2 := Lib.hid p2; have p3 := Lib.hid p3; have p4 := Lib.hid p4; have p5 := Lib.hid p5; have hl3 := Lib.hid (butRow p2.out hl1.out hgg3.out); clear k0 k1 k2 k3 k4 k5; obtain ⟨⟨k0, k1, k2, k3, k4, k5⟩, y0, y1, y2, y3, y4, y5⟩ := six_of hl3.out)
    have hrow4 := Lib.hid ((setCell_rows g3 1 (.string s) w.heap.size (by have := hg3.out; omega)).trans (butRow p2.out hrow2.out hgw.out))
    have hl4 := Lib.hid (show (w3.setCell ⟨g3, 1, none⟩ (.string s)).heap[g3]? = some (.cells (aC x s ⟨0, 0, 0, ⟨#[]⟩⟩) 37 (0, 0)) from setCell_row hl3.out 1 _)
    have s4 := Lib.hid (p1.out.other hgg3.out hWg3.out 1 (.string s))
    have g4 := Lib.hid (but_set (but_trans g2.out p2.out) g3 1 (.string s) (Nat.le_of_lt hg3.out))
    clear p1 p2 hl3 k0 k1 k2 k3 k4 k5 y0 y1 y2 y3 y4 y5 hl1 hrow2 s2 g2 hK
    generalize w3.setCell ⟨g3, 1, none⟩ (.string s) = w4 at *
    obtain ⟨k0, k1, k2, k3, k4, k5⟩ := (six_of hl4.out).1
    by_cases hk4 : x = 4
    · have t4 : (x == 4) = true := by rw [hk4]; rfl
      have hV := Lib.hid (value_rd s4.out p4.out (by have := hll.out; have := q3.out; have := p3.out; omega))
      go_upto_region 6 with (go_at_call 98; (with_reducible refine (hV.out).mono ?_); rintro e w5 ⟨⟨vk, vn, vb, vs⟩, rfl, hv, l3, f3, r1, r2, r3, r4, r5⟩; dsimp only at *; have hv := Lib.hid hv; have r1 := Lib.hid r1; have r2 := Lib.hid r2; have r3 := Lib.hid r3; have r4 := Lib.hid r4; have r5 := Lib.hid r5; have hl5 := Lib.hid (butRow r2.out hl4.out hgg3.out); clear k0 k1 k2 k3 k4 k5; obtain ⟨⟨k0, k1, k2, k3, k4, k5⟩, y0, y1, y2, y3, y4, y5⟩ := six_of hl5.out)
      have hne := Lib.hid (show w.heap.size ≠ g3 by have := hg3.out; omega)
      have hle := Lib.hid (Nat.le_of_lt hg3.out)
      have hl6 := Lib.hid (show ((((w5.setCell ⟨g3, 2, none⟩ (.int .u8 vk)).setCell ⟨g3, 3, none⟩ (.int .i64 vn)).setCell ⟨g3, 4, none⟩ (.int .u64 (vb : Int))).setCell ⟨g3, 5, none⟩ (.string vs)).heap[g3]? = some (.cells (aC x s ⟨vk, vn, vb, vs⟩) 37 (0, 0)) from setCell_row (setCell_row (setCell_row (setCell_row hl5.out 2 _) 3 _) 4 _) 5 _)
      have s6 := Lib.hid ((((r1.out.other hgg3.out hWg3.out 2 (.int .u8 vk)).other hgg3.out hWg3.out 3 (.int .i64 vn)).other hgg3.out hWg3.out 4 (.int .u64 (vb : Int))).other hgg3.out hWg3.out 5 (.string vs))
      have g6 := Lib.hid (but_set (but_set (but_set (but_set (but_trans g4.out r2.out) g3 2 (.int .u8 vk) hle.out) g3 3 (.int .i64 vn) hle.out) g3 4 (.int .u64 (vb : Int)) hle.out) g3 5 (.string vs) hle.out)
      have hrow6 := Lib.hid ((setCell_rows (w := ((w5.setCell ⟨g3, 2, none⟩ (.int .u8 vk)).setCell ⟨g3, 3, none⟩ (.int .i64 vn)).setCell ⟨g3, 4, none⟩ (.int .u64 (vb : Int))) g3 5 (.string vs) w.heap.size hne.out).trans ((setCell_rows (w := (w5.setCell ⟨g3, 2, none⟩ (.int .u8 vk)).setCell ⟨g3, 3, none⟩ (.int .i64 vn)) g3 4 (.int .u64 (vb : Int)) w.heap.size hne.out).trans ((setCell_rows (w := w5.setCell ⟨g3, 2, none⟩ (.int .u8 vk)) g3 3 (.int .i64 vn) w.heap.size hne.out).trans ((setCell_rows (w := w5) g3 2 (.int .u8 vk) w.heap.size hne.out).trans (butRow r2.out hrow4.out hgw.out)))))
      clear r1 r2 hl5 k0 k1 k2 k3 k4 k5 y0 y1 y2 y3 y4 y5 hl4 hrow4 s4 g4 hV
      generalize (((w5.setCell ⟨g3, 2, none⟩ (.int .u8 vk)).setCell ⟨g3, 3, none⟩ (.int .i64 vn)).setCell ⟨g3, 4, none⟩ (.int .u64 (vb : Int))).setCell ⟨g3, 5, none⟩ (.string vs) = w6 at *
      have hE := Lib.hid (act_ends3 q5.out p5.out r5.out hk1.out hk4)
      have hR := Lib.hid (show RdOut W0 g w l fl (rAct l) ⟨x, s, ⟨vk, vn, vb, vs⟩⟩ w6 from ⟨l3, f3, s6.out, g6.out, by have := q3.out; have := p3.out; have := r3.out; omega, r4.out, hE.out⟩)
      clear q5 p5 r5 hE
      go_wp2_with (first
        | (refine wpList_load_row_g rfl 37 _ rfl g3 rfl 37 (aC x s ⟨vk, vn, vb, vs⟩) (0, 0) _ hl6.out Tryz.underlying37 rfl info_act ?_)
        | (refine storeOver _ w.heap.size _ rfl 37 _ _ rfl (aC x s ⟨vk, vn, vb, vs⟩) 37 hrow6.out rfl rfl info_act rfl (act_one _ _ _ _ _ _) ?_; intro w9 hr9 hb9; have hr9' := Lib.hid hr9; have hb9' := Lib.hid hb9; clear hr9 hb9))
      exact bodyPost_ret (results_cell_row rfl _ _ w.heap.size 37 _ _ _ rfl hr9'.out Tryz.underlying37 rfl info_act) rfl ⟨⟨x, s, ⟨vk, vn, vb, vs⟩⟩, rfl, hx.out, hs.out, hv.out, RdOut.low hR.out hb9'.out hlt.out hbs.out⟩
    · have t4 : (x == 4) = false := by simpa using hk4
      have hE := Lib.hid (act_ends2 q5.out p5.out hk1.out hk4)
      have hR := Lib.hid (show RdOut W0 g w l fl (rAct l) ⟨x, s, ⟨0, 0, 0, ⟨#[]⟩⟩⟩ w4 from ⟨l2, f2, s4.out, g4.out, by have := q3.out; have := p3.out; omega, p4.out, hE.out⟩)
      clear q5 p5 hk4 hE
      go_wp2_with (first
        | (refine wpList_load_row_g rfl 37 _ rfl g3 rfl 37 (aC x s ⟨0, 0, 0, ⟨#[]⟩⟩) (0, 0) _ hl4.out Tryz.underlying37 rfl info_act ?_)
        | (refine storeOver _ w.heap.size _ rfl 37 _ _ rfl (aC x s ⟨0, 0, 0, ⟨#[]⟩⟩) 37 hrow4.out rfl rfl info_act rfl (act_one _ _ _ _ _ _) ?_; intro w9 hr9 hb9; have hr9' := Lib.hid hr9; have hb9' := Lib.hid hb9; clear hr9 hb9))
      exact bodyPost_ret (results_cell_row rfl _ _ w.heap.size 37 _ _ _ rfl hr9'.out Tryz.underlying37 rfl info_act) rfl ⟨⟨x, s, ⟨0, 0, 0, ⟨#[]⟩⟩⟩, rfl, hx.out, hs.out, fit_zero, RdOut.low hR.out hb9'.out hlt.out hbs.out⟩
end Go.Proofs.YtfaojjleapenaabGreatDoor.wir.val
namespace Go.Proofs.YtfaojjleapenaabGreatDoor
open Go.RowKit Go.YtfaojjleapenaabGreatDoor
set_option linter.unusedVariables false
variable {Tg Tf : TypeId}
set_option maxRecDepth 100000 in
set_option maxHeartbeats 2000000 in
theorem pieces_some (b o c : Nat) (L : List (List Int)) (w : World) (hLc : L.length ≤ c) (hcm : c ≤ maxLen) (hbw : b < w.heap.size) (hcell : ∀ i, i < L.length → ∃ s, w.cell? ⟨b, o + i, none⟩ = some s ∧ RdB w s (nthL L i))
   (hn : L.length ≤ 20) (hlen : ∀ i, (nthL L i).length ≤ 10000) (hby : ∀ i, Bytes (nthL L i))
   (hg : w.heap[1]? = some (.cells (u32s constW) Tg (0, 0))) (hgf : w.heap[0]? = some (.cells firstW.cells Tf (0, 0))) :
    Calls Tryz.prog 29 #[.slice (some ⟨b, o, none⟩) L.length c] w
     fun e w' => e = .returned (.tuple #[.agg (u8s (endF (blocksF firstW (flatN L L.length)) (restF (flatN L L.length)) (flatN L L.length).length)), .int .i64 0]) ∧ Below w.heap.size w w' := by
  unfold maxLen at hcm
  have hcell' := Lib.hid hcell; have hlen' := Lib.hid hlen; have hby' := Lib.hid hby; have hg' := Lib.hid hg; have hgf' := Lib.hid hgf
  clear hcell hlen hby hg hgf
  have hlt : 1 < w.heap.size := (Array.getElem?_eq_some_iff.1 hg'.out).1
  have hltf : 0 < w.heap.size := (Array.getElem?_eq_some_iff.1 hgf'.out).1
  generalize hm : L.length = n at *
  have hm' := Lib.hid hm; clear hm
  go_enter Tryz.func29, Tryz.ntmps29
  go_wp2
  generalize hWx : w.alloc (Obj.cells _ 43) = Wx
  have hWb : Below w.heap.size w Wx := by rw [← hWx]; exact (Below.refl _ _).alloc (Nat.le_refl _) _
  have hWz : Wx.heap.size = w.heap.size + 1 := by rw [← hWx]; simp
  have hW0 : Wx.heap[w.heap.size]? = some (.cells (u8s (zerosB 32)) 43 (0, 0)) := by rw [← hWx]; exact heap_alloc_new w _
  have hWz' := Lib.hid hWz; have hW0' := Lib.hid hW0
  clear hWx hWz hW0
  go_loop [5, 15] (fun _ i => ∃ k : Nat, k ≤ n ∧ i = .int .i64 k) (fun _ i => n - (intOf i).toNat)
  case atStart => exact ⟨0, by omega, rfl⟩
  case round =>
    obtain ⟨k, hk, rfl⟩ := hrel
    by_cases hlt' : k < n
    · obtain ⟨s, hs, hrs⟩ := hcell'.out k hlt'
      obtain ⟨sa, sc, rfl⟩ := hrs.slice
      have hs1 := (hWb.cell (p := (⟨b, o + k, none⟩ : Addr)) hbw).trans hs
      have hle := hlen'.out k
      go_wp2
      go_round
      case rel => exact ⟨k + 1, by omega, by go_num⟩
      case measure => simp [intOf]; omega
    · have hkn : k = n := by omega
      subst hkn
      clear hcm
      go_upto_region 10 with (go_at_call 55; refine (start_any (Tf := Tf) _ ?_).mono ?_; (exact (hWb.block _ hltf).trans hgf'.out); rintro e w1 ⟨rfl, hb1⟩; have hb1' := Lib.hid hb1; clear hb1)
      have hz1 : w.heap.size < w1.heap.size := by have := hb1'.out.size; have := hWz'.out; omega
      have hB1 : Below (w.heap.size + 1) Wx w1 := hb1'.out.mono (by have := hWz'.out; omega)
      have hB1' := Lib.hid hB1; clear hB1
      go_wp2
      go_loopw [8, 27] (fun _ i wr => ∃ j : Nat, j ≤ k ∧ i = .int .i64 j ∧ Below (w.heap.size + 1) Wx wr ∧ w1.heap.size < wr.heap.size ∧ ∃ rv, wr.heap[w1.heap.size]? = some (.cells #[.int .u32 (blocksF firstW (flatN L j)).a, .int .u32 (blocksF firstW (flatN L j)).b, .int .u32 (blocksF firstW (flatN L j)).c, .int .u32 (blocksF firstW (flatN L j)).d, .int .u32 (blocksF firstW (flatN L j)).e, .int .u32 (blocksF firstW (flatN L j)).f, .int .u32 (blocksF firstW (flatN L j)).g, .int .u32 (blocksF firstW (flatN L j)).h, rv, .int .i64 ((flatN L j).length : Nat)] 99 (0, 0)) ∧ RdB wr rv (restF (flatN L j))) (fun _ i _ => k - (intOf i).toNat)
      case atStart => exact ⟨0, by omega, rfl, hB1'.out.alloc (by omega) _, by simp, .slice none 0 0, by rw [show blocksF firstW (flatN L 0) = firstW from blocksF_small _ _ (by simp [flatN]), show (flatN L 0).length = 0 from rfl]; exact heap_alloc_new w1 _, .inl ⟨none, 0, rfl, fun _ => rfl, by simp [flatN, restF]⟩⟩
      case round =>
        obtain ⟨j, hj, rfl, hbr, hzr, rv, hrow, hrd⟩ := hrel
        have hrow' := Lib.hid hrow; have hrd' := Lib.hid hrd; clear hrow hrd
        have hbw' : Below w.heap.size w wr := hWb.trans (hbr.mono (by omega))
        by_cases hlt' : j < k
        · obtain ⟨s, hs, hrs⟩ := hcell'.out j hlt'
          obtain ⟨sa, sc, rfl⟩ := hrs.slice
          have hs1 := (hbw'.cell (p := (⟨b, o + j, none⟩ : Addr)) hbw).trans hs
          have hrs' := Lib.hid (hrs.mono hbw')
          have hgr := Lib.hid ((hbw'.block _ hlt).trans hg'.out)
          have hfl := flatN_length L hlen'.out j
          have hll := hlen'.out j
          have hN : Hid ((flatN L j).length + (nthL L j).length ≤ 200000) := Lib.hid (by omega)
          have hrl : Hid ((restF (flatN L j)).length < 64) := Lib.hid (by rw [restF_length]; exact Nat.mod_lt _ (by decide))
          have hG : Hid (blocksF (blocksF firstW (flatN L j)) (restF (flatN L j) ++ nthL L j) = blocksF firstW (flatN L (j + 1))) := Lib.hid (blocksF_append _ _ _).symm
          clear hs hrs hfl hll
          go_wp2_with (first | (refine wpList_load_row rfl 99 _ rfl w1.heap.size rfl 99 _ _ _ hrow'.out Tryz.underlying99 rfl (by kernel_rfl) ?_) | (go_at_call 56; refine (put_any (Tg := Tg) (blocksF firstW (flatN L j)) (blocksF firstW (flatN L (j + 1))) rv (restF (flatN L j)) (flatN L j).length (.slice sa (nthL L j).length sc) (nthL L j) _ (blocksF_ok _ _ firstW_ok) hrd'.out hrs'.out (bytes_drop _ _ (flatN_bytes L hby'.out j)) (hby'.out j) hrl.out hN.out hG.out hgr.out).mono ?_; rintro e w2 ⟨r', rfl, ho2, hb2⟩; obtain ⟨pa, pc, rfl⟩ := ho2.rd.slice; have ho2' := Lib.hid ho2; have hb2' := Lib.hid hb2; have hrow2 := Lib.hid ((hb2.block _ hzr).trans hrow'.out); clear ho2 hb2) | (refine wpList_store_row rfl 99 _ _ rfl w1.heap.size _ rfl rfl 99 _ hrow2.out (by kernel_rfl) (by simp) (by simp [Value.oneCell']) ?_))
          go_roundw
          case rel =>
            have hB2 : Below (w.heap.size + 1) Wx w2 := hbr.trans (hb2'.out.mono (by omega))
            have hz2 := hb2'.out.size
            have hrest : restF (restF (flatN L j) ++ nthL L j) = restF (flatN L (j + 1)) := (restF_append _ _).symm
            have ho3 := ho2'.out
            rw [hrest] at ho3
            refine ⟨j + 1, by omega, by go_num, below_setRow' (g := w1.heap.size) hB2 (by omega) _, by rw [size_setRow]; omega, .slice pa (restF (restF (flatN L j) ++ nthL L j)).length pc, ?_, ?_⟩
            · have hl : (((flatN L (j + 1)).length : Nat) : Int) = (flatN L j).length + (nthL L j).length := by rw [flatN, List.length_append]; exact Int.natCast_add _ _
              rw [hl]
              exact setRow_heap _ _ _ _ _ _ hrow2.out
            · rw [hrest]
              exact (ownB_setRow (g := w1.heap.size) ho3 (Nat.le_refl _) hzr _).rd
          case measure => simp [intOf]; omega
        · have hjk : j = k := by omega
          subst hjk
          have hfl := flatN_length L hlen'.out j
          have hN : Hid ((flatN L j).length ≤ 200000) := Lib.hid (by omega)
          have hrl : Hid ((restF (flatN L j)).length < 64) := Lib.hid (by rw [restF_length]; exact Nat.mod_lt _ (by decide))
          have hFb := Lib.hid (flatN_bytes L hby'.out j)
          have hgr := Lib.hid ((hbw'.block _ hlt).trans hg'.out)
          have hres := Lib.hid ((hbr.block w.heap.size (by omega)).trans hW0'.out)
          clear hfl
          have hlen32 : (endF (blocksF firstW (flatN L j)) (restF (flatN L j)) (flatN L j).length).length = 32 := writtenN_length _ 8
          have hi : (Tryz.prog.info? 43).map (·.size) = some (u8s (endF (blocksF firstW (flatN L j)) (restF (flatN L j)) (flatN L j).length)).size := by rw [u8s_size, hlen32]; kernel_rfl
          have hs2 : (u8s (zerosB 32)).size = (u8s (endF (blocksF firstW (flatN L j)) (restF (flatN L j)) (flatN L j).length)).size := by rw [u8s_size, u8s_size, hlen32, zerosB_length]
          have hi' := Lib.hid hi; have hs2' := Lib.hid hs2
          clear hi hs2 hlen32
          go_wp2_with (first | (refine wpList_load_row rfl 99 _ rfl w1.heap.size rfl 99 _ _ _ hrow'.out Tryz.underlying99 rfl (by kernel_rfl) ?_) | (go_at_call 57; refine (finish_any (Tg := Tg) (blocksF firstW (flatN L j)) _ rv (restF (flatN L j)) (flatN L j).length _ (blocksF_ok _ _ firstW_ok) hrd'.out (bytes_drop _ _ hFb.out) hrl.out hN.out rfl hgr.out).mono ?_; rintro e w2 ⟨rfl, hb2⟩; have hrow2' := Lib.hid ((hb2.block _ (by omega)).trans hres.out); have hB2' := Lib.hid (hbw'.trans (hb2.mono (by omega))); clear hb2) | (refine wpList_store_row rfl 43 _ _ rfl w.heap.size (u8s (endF (blocksF firstW (flatN L j)) (restF (flatN L j)) (flatN L j).length)) rfl rfl 43 _ hrow2'.out hi'.out hs2'.out (u8s_one _) ?_))
          try simp only [Exit.inBlock, Exit.then]
          exact bodyPost_ret (results_row_tmp rfl _ _ w.heap.size 43 _ _ _ rfl (setRow_heap _ _ _ _ _ _ hrow2'.out) Tryz.underlying43 rfl hi'.out) rfl ⟨rfl, below_setRow' (g := w.heap.size) hB2'.out (Nat.le_refl _) _⟩
end Go.Proofs.YtfaojjleapenaabGreatDoor
namespace Go.Proofs.YtfaojjleapenaabGreatDoor
open Go.RowKit Go.YtfaojjleapenaabGreatDoor
set_option linter.unusedVariables false
variable {Tg Tf : TypeId}
theorem pieces_any (L : List (List Int)) (v : Value) (b o c : Nat) (hv : v = .slice (some ⟨b, o, none⟩) L.length c) (w : World) (hLc : L.length ≤ c) (hcm : c ≤ maxLen) (hbw : b < w.heap.size) (hcell : ∀ i, i < L.length → ∃ s, w.cell? ⟨b, o + i, none⟩ = some s ∧ RdB w s (nthL L i))
   (hn : L.length ≤ 20) (hlen : ∀ i, (nthL L i).length ≤ 10000) (hby : ∀ i, Bytes (nthL L i))
   (hg : w.heap[1]? = some (.cells (u32s constW) Tg (0, 0))) (hgf : w.heap[0]? = some (.cells firstW.cells Tf (0, 0))) :
    Calls Tryz.prog 29 #[v] w
     fun e w' => e = .returned (.tuple #[.agg (u8s (shaF L.flatten)), .int .i64 0]) ∧ Below w.heap.size w w' := by
  subst hv
  have h := pieces_some (Tg := Tg) (Tf := Tf) b o c L w hLc hcm hbw hcell hn hlen hby hg hgf
  rw [flatN_all] at h
  exact h
set_option maxRecDepth 100000 in
set_option maxHeartbeats 400000 in
theorem sum_any (D : List Int) (bv : Value) (l : List Int) (w : World) (hl : RdB w bv l) (hlb : Bytes l) (hlen : l.length ≤ 10000) (hD : shaF l = D)
   (hg : w.heap[1]? = some (.cells (u32s constW) Tg (0, 0))) (hgf : w.heap[0]? = some (.cells firstW.cells Tf (0, 0))) :
    Calls Tryz.prog 38 #[bv] w
     fun e w' => e = .returned (.tuple #[.agg (u8s D), .int .i64 0]) ∧ Below w.heap.size w w' := by
  obtain ⟨a, c, rfl⟩ := hl.slice
  have hlt : 1 < w.heap.size := (Array.getElem?_eq_some_iff.1 hg).1
  have hltf : 0 < w.heap.size := (Array.getElem?_eq_some_iff.1 hgf).1
  have hp : ∀ o1, Calls Tryz.prog 29 #[.slice (some ⟨w.heap.size + 1, 0, none⟩) 1 1] ((w.alloc o1).alloc (.cells #[.slice a l.length c] 22))
     fun e w' => e = .returned (.tuple #[.agg (u8s D), .int .i64 0]) ∧ Below ((w.alloc o1).alloc (.cells #[.slice a l.length c] 22)).heap.size ((w.alloc o1).alloc (.cells #[.slice a l.length c] 22)) w' := by
    intro o1
    have hB : Below w.heap.size w ((w.alloc o1).alloc (.cells #[.slice a l.length c] 22)) := ((Below.refl _ _).alloc (Nat.le_refl _) _).alloc (by simp) _
    have h := pieces_any (Tg := Tg) (Tf := Tf) [l] (.slice (some ⟨w.heap.size + 1, 0, none⟩) 1 1) (w.heap.size + 1) 0 1 rfl ((w.alloc o1).alloc (.cells #[.slice a l.length c] 22)) (Nat.le_refl _) (by decide) (by simp) (fun i hi => by
      have h0 : i = 0 := by simp at hi; exact hi
      subst h0
      exact ⟨_, cell_of_row _ _ _ _ _ _ (hn2 w _ _), hl.mono hB⟩) (by simp) (fun i => by
      cases i with
      | zero => exact hlen
      | succ i => simp [nthL]) (fun i => by
      cases i with
      | zero => exact hlb
      | succ i => intro j; simp [nthL, ith]) ((hB.block _ hlt).trans hg) ((hB.block _ hltf).trans hgf)
    rw [show ([l] : List (List Int)).flatten = l by simp, hD] at h
    exact h
  have hDl : D.length = 32 := by rw [← hD]; exact shaF_length l
  have hi : (Tryz.prog.info? 43).map (·.size) = some (u8s D).size := by rw [u8s_size, hDl]; kernel_rfl
  have hs2 : (u8s (zerosB 32)).size = (u8s D).size := by rw [u8s_size, u8s_size, hDl, zerosB_length]
  have hp' := Lib.hid hp; have hi' := Lib.hid hi; have hs2' := Lib.hid hs2
  clear hp hi hs2 hDl hD hl hlb hlen hg hgf
  go_enter Tryz.func38, Tryz.ntmps38
  go_wp2_with (first | (go_at_call 29; refine (hp'.out _).mono ?_; rintro e w1 ⟨rfl, hb1⟩; have hrow := Lib.hid (show w1.heap[w.heap.size]? = some (.cells (u8s (zerosB 32)) 43 (0, 0)) from (hb1.block _ (by simp; omega)).trans ((hp1 _ _ _ (by simp)).trans (heap_alloc_new w _))); have hB1 := Lib.hid ((((Below.refl _ _).alloc (Nat.le_refl _) _).alloc (by simp) _).trans (hb1.mono (by simp; omega))); clear hb1) | (refine wpList_store_row rfl 43 _ _ rfl w.heap.size (u8s D) rfl rfl 43 _ hrow.out hi'.out hs2'.out (u8s_one _) ?_))
  try simp only [Exit.inBlock, Exit.then]
  exact bodyPost_ret (results_row_tmp rfl _ _ w.heap.size 43 _ _ _ rfl (setRow_heap _ _ _ _ _ _ hrow.out) Tryz.underlying43 rfl hi'.out) rfl ⟨rfl, below_setRow' (g := w.heap.size) hB1.out (Nat.le_refl _) _⟩
end Go.Proofs.YtfaojjleapenaabGreatDoor
namespace Go.Proofs.YtfaojjleapenaabGreatDoor
open Go.RowKit Go.YtfaojjleapenaabGreatDoor
set_option linter.unusedVariables false
variable {Tg Tf : TypeId}
theorem storeNew {P : Program} {ops : Array Oper} {rest : List Oper} {o : Oper} {a : Act} {Q : Exit → Act → World → Prop} {old : Array Value} (w1 : World) (hgd : o.guard = none) (ty : TypeId) (x y : Operand) (ho : o.op = .store ty x y)
    (cells : Array Value) (t : TypeId) (hx : a.eval x = .pointer (some ⟨w1.heap.size, 0, none⟩)) (hy : a.eval y = .agg cells)
    (hi : (P.info? ty).map (·.size) = some cells.size) (hold : old.size = cells.size) (h1 : cells.all (·.oneCell') = true)
    (h : ∀ wx, wx.heap[w1.heap.size]? = some (.cells cells t (0, 0)) → Below w1.heap.size w1 wx → wpList P ops Q rest (a.put o.dst undef) wx) :
    wpList P ops Q (o :: rest) a (w1.alloc (.cells old t)) := by
  have hg := heap_alloc_new w1 (.cells old t)
  refine wpList_store_row hgd ty x y ho w1.heap.size cells hx hy t old hg hi hold h1 (h _ (setRow_heap _ _ _ _ _ _ hg) ?_)
  exact below_setRow' ((Below.refl _ _).alloc (Nat.le_refl _) _) (Nat.le_refl _) _
theorem Stop.go' (p : Prop) (h : Stop p) : p := h
end Go.Proofs.YtfaojjleapenaabGreatDoor
namespace Go.Proofs.YtfaojjleapenaabGreatDoor
open Go.RowKit Go.YtfaojjleapenaabGreatDoor
set_option linter.unusedVariables false
variable {Tg Tf : TypeId}
def StopP (p : Prop) : Prop := p
theorem Stop.go'' (p : Prop) (h : StopP p) : p := h
theorem StopP.go {p : Prop} (h : p) : StopP p := h
end Go.Proofs.YtfaojjleapenaabGreatDoor
namespace Go.Proofs.YtfaojjleapenaabGreatDoor.wir.val
open Go.RowKit Go.YtfaojjleapenaabGreatDoor
set_option linter.unusedVariables false
/-- A slice of one's own lies in no block of another type. -/
theorem ownNe {B : Nat} {E T : TypeId} {w : World} {v : Value} {l : List Int} (h : OwnB B E w v l) {g : Nat} {cs : Array Value} {fr : Nat × Nat} (hg : w.heap[g]? = some (.cells cs T fr)) (hT : T ≠ E) : some g ≠ v.ownBlock := by
  rcases h.2 with ⟨rfl, _⟩ | ⟨k, cap, cur, rfl, hb, hk, _⟩
  · intro e; cases e
  · intro e
    simp only [Value.ownBlock, Option.some.injEq] at e
    subst e
    rw [hg] at hk
    injection hk with hk
    injection hk with _ h2 _
    exact hT h2
theorem grownRow {w w' : World} {r : Option Nat} (h : w.grownBy w' r) {g : Nat} {o : Obj} (hg : w.heap[g]? = some o) (hne : some g ≠ r) : w'.heap[g]? = some o :=
  (h.block g (Array.getElem?_eq_some_iff.1 hg).1 hne).trans hg
theorem own_setCell {B : Nat} {E T : TypeId} {w : World} {v : Value} {l : List Int} (h : OwnB B E w v l) {g : Nat} {cs : Array Value} (hg : w.heap[g]? = some (.cells cs T (0, 0))) (hT : T ≠ E) (i : Nat) (x : Value) : OwnB B E (w.setCell ⟨g, i, none⟩ x) v l := by
  have hne := ownNe h hg hT
  rw [setCell_eq hg]
  refine ⟨h.1, ?_⟩
  rcases h.2 with hn | ⟨k, cap, cur, rfl, hb, hk, rest⟩
  · exact .inl hn
  · refine .inr ⟨k, cap, cur, rfl, hb, (setRow_other w g k _ ?_).trans hk, rest⟩
    intro e
    exact hne (by rw [← e]; rfl)
set_option maxRecDepth 100000 in
/-- The closure that puts a part behind what is there. -/
theorem putM_any (B g : Nat) (sv : Value) (l : List Int) (rv : Value) (r : List Int) (e : Int) (w : World) (ho : OwnB B 5 w sv l) (hg : w.heap[g]? = some (.cells #[sv] 22 (0, 0))) (hr : RdB w rv r) (hlen : l.length + r.length ≤ 1000000) (hB : B ≤ g) :
    Calls Tryz.prog 60 #[rv, .int .i64 e, .pointer (some ⟨g, 0, none⟩)] w fun x w' => IsRet x ∧ ∃ sv', w'.heap[g]? = some (.cells #[sv'] 22 (0, 0)) ∧ OwnB B 5 w' sv' (l ++ r) ∧ Below B w w' := by
  have c1 : w.cell? ⟨g, 0, none⟩ = some sv := by rw [cell_of_row _ _ _ _ _ _ hg]; rfl
  have hgs := (Array.getElem?_eq_some_iff.1 hg).1
  have ho' := Lib.hid ho; have hg' := Lib.hid hg; have hr' := Lib.hid hr
  have hBs : B ≤ w.heap.size := by omega
  clear ho hg hr
  go_enter Tryz.func60, Tryz.ntmps60
  go_wp2_with (refine appendB rfl _ _ 22 rfl B 5 Tryz.underlying22 (by kernel_rfl) _ rfl l ho'.out _ rfl r hr'.out (by omega) hBs ?_)
  intro v' w1 h1 h2
  obtain ⟨pa, pc, rfl⟩ := h1.rd.slice
  have hg1 := grownRow h2 hg'.out (ownNe ho'.out hg'.out (by decide))
  have k1 : w1.cell? ⟨g, 0, none⟩ = some sv := by rw [cell_of_row _ _ _ _ _ _ hg1]; rfl
  have k2 : w1.frozen? ⟨g, 0, none⟩ = false := frozen_of_row _ _ 0 _ _ hg1
  have hb1 := Lib.hid (ho'.out.below h2 hBs)
  have ho1 := Lib.hid h1; have hg1' := Lib.hid hg1
  clear h1 h2 hg1
  generalize (l ++ r).length = N at *
  refine Stop.go ?_
  go_wp2
  go_end0
  exact ⟨⟨_, rfl⟩, _, setCell_row hg1'.out 0 _, own_setCell ho1.out hg1'.out (by decide) 0 _, hb1.out.setCell hB _⟩
theorem encB_short {v : Va} (fv : v.fit) (hv : v.ok = true) : (encB v.k v.n v.b v.s).length ≤ 100 := by
  have hk := valid_kind hv
  unfold encB
  split
  · have := numL_le (foldN v.n) (fold_lt v.n fv.n)
    simp only [List.length_cons, numB_length]; omega
  · split
    · simp only [List.length_cons, be_length]; omega
    · have h3 : v.k = 3 := by omega
      have hs : v.s.size ≤ 30 := valid_text (n := v.n) (b := v.b) (by rw [← h3]; exact hv)
      have := numL_le v.s.size (by omega)
      simp only [List.length_cons, textB_length, sI_length]; omega
theorem rd_one' (w : World) (x : Int) : RdB (w.alloc (.cells #[.int .u8 x] 5)) (.slice (some ⟨w.heap.size, 0, none⟩) 1 1) [x] := rdB_row (cs := [x]) (heap_alloc_new w _) 1 rfl (by decide)
/-- The bytes of a message. -/
def msgB (o : Od) : List Int := (((((([111] ++ numB o.au) ++ (numB o.n ++ o.F)) ++ numB o.st) ++ [o.k]) ++ (if o.k = 1 then [] else textB (sI o.key))) ++ (if o.k = 4 then encB o.v.k o.v.n o.v.b o.v.s else []))
theorem cellsP {w : World} {g : Nat} {o : Od} {pv : Value} (h : w.heap[g]? = some (.cells (o.c pv) 41 (0, 0))) :
    w.cell? ⟨g, 0, none⟩ = some (.int .u32 (o.au : Int)) ∧ w.cell? ⟨g, 1, none⟩ = some pv ∧ w.cell? ⟨g, 2, none⟩ = some (.int .u64 (o.st : Int)) ∧ w.cell? ⟨g, 3, none⟩ = some (.int .u8 o.k) ∧ w.cell? ⟨g, 4, none⟩ = some (.string o.key) ∧ w.rangeAt g 5 o.v.l := by
  refine ⟨cell_of_row _ _ _ _ _ _ h, cell_of_row _ _ _ _ _ _ h, cell_of_row _ _ _ _ _ _ h, cell_of_row _ _ _ _ _ _ h, cell_of_row _ _ _ _ _ _ h, ?_⟩
  intro j x hx
  have hj : j < 4 := (List.getElem?_eq_some_iff.1 hx).1
  rw [← hx]
  unfold World.cell?
  rw [show (⟨g, 5 + j, none⟩ : Addr).block = g from rfl, h]
  match j, hj with
  | 0, _ => rfl
  | 1, _ => rfl
  | 2, _ => rfl
  | 3, _ => rfl
theorem act_kinds {k : Int} {s : ByteArray} {v : Va} (h : actB k s v = true) : (k = 1) ∨ ((k = 2 ∨ k = 3) ∧ s.size ≤ 20) ∨ (k = 4 ∧ s.size ≤ 20 ∧ v.ok = true) := by
  have hk : keyB s = true → s.size ≤ 20 := fun h => by
    unfold keyB at h
    simp only [Bool.and_eq_true, decide_eq_true_eq] at h
    exact h.2.1
  unfold actB at h
  by_cases h1 : k = 1
  · exact .inl h1
  · rw [if_neg h1] at h
    by_cases h2 : k = 2 ∨ k = 3
    · rw [if_pos h2, Bool.and_eq_true] at h
      exact .inr (.inl ⟨h2, hk h.1⟩)
    · rw [if_neg h2] at h
      by_cases h4 : k = 4
      · rw [if_pos h4, Bool.and_eq_true] at h
        exact .inr (.inr ⟨h4, hk h.1, h.2⟩)
      · rw [if_neg h4] at h
        cases h
theorem u64_nat (n : Nat) (h : n < 18446744073709551616) : IntKind.u64.wrap (n : Int) = (n : Int) := by
  exact IntWalk.u64_in _ (by omega)
set_option maxHeartbeats 4000000 in
set_option maxRecDepth 100000 in
theorem message_any (o : Od) (fo : o.Fit) (hn : o.n ≤ 4) (hR : riseF o.F o.n = true) (hA : actB o.k o.key o.v = true) (pv : Value) (w : World) (hp : RdI w pv o.n o.F) :
    Calls Tryz.prog 34 #[.agg (o.c pv)] w fun e w' => ∃ sv, e = .returned sv ∧ OwnB w.heap.size 5 w' sv (msgB o) ∧ Below w.heap.size w w' := by
  obtain ⟨W, hW⟩ : ∃ W, W = w.alloc (.cells (o.c pv) 41) := ⟨_, rfl⟩
  have hr0 := heap_alloc_new w (.cells (o.c pv) 41)
  have hb0 := (Below.refl w.heap.size w).alloc (Nat.le_refl _) (.cells (o.c pv) 41)
  rw [← hW] at hr0 hb0
  have hlF := Lib.hid hp.len
  obtain ⟨pa, pc, rfl⟩ := hp.slice
  have hb1 := Lib.hid hb0
  have hlt := Lib.hid hb0.size
  have hrow := Lib.hid hr0
  have hmids := Lib.hid (fun (wz : World) (h : Below W.heap.size W wz) => (cellsP (rowB hrow.out h (Array.getElem?_eq_some_iff.1 hr0).1)))
  have hmf : ∀ (fn : Fn) (first cap : Array Value) (w : World), (Instr.makeFunc fn first cap).run Tryz.prog w = .ok (.func fn first cap) w := fun _ _ _ _ => rfl
  have kc := fun (w : World) => run_bytes_of_string (P := Tryz.prog) w 9 22 5 o.key Tryz.underlying9 Tryz.underlying22 Tryz.underlying5
  have hau := u64_nat o.au (by have := fo.au; omega)
  have hid := Lib.hid (fun (wz : World) (h : Below W.heap.size W wz) => ids_ok o.F o.n (.slice pa o.n pc) wz ((hp.mono hb0).mono h) fo.F (by omega) hR)
  have hnu := Lib.hid (fun (wz : World) => number_any o.au (by have := fo.au; omega) wz)
  have hns := Lib.hid (fun (wz : World) => number_any o.st fo.st wz)
  have la := Lib.hid (numL_le o.au (by have := fo.au; omega))
  have ls := Lib.hid (numL_le o.st fo.st)
  have ln := Lib.hid (numL_le o.n (by omega))
  have hkinds := Lib.hid (act_kinds hA)
  have hT := Lib.hid (fun (hs : o.key.size ≤ 20) (W : World) (m : Nat × Nat) => bytes_any _ (sI o.key) _ (rd_strI W o.key (by omega) m) (by rw [sI_length]; omega))
  have hE := Lib.hid (fun (hv : o.v.ok = true) (wz : World) => enc_ok o.v.k o.v.n o.v.b o.v.s fo.v hv wz)
  have hEl := Lib.hid (fun (hv : o.v.ok = true) => encB_short fo.v hv)
  have hnn := Lib.hid hn
  clear hr0 hb0 hp hrow fo hR hA hn
  go_enter Tryz.func34, Tryz.ntmps34
  go_upto_region 1 with fail
  rw [← hW]
  clear hW
  go_upto_region 3 with fail
  have hO := Lib.hid ((ownB_row (cs := [111]) (heap_alloc_new W (.cells #[.int .u8 111] 5)) 1 rfl (by decide) (Nat.le_refl W.heap.size)).kept (below_a (W.alloc (.cells #[.int .u8 111] 5)) (.cells #[.slice (some ⟨W.heap.size, 0, none⟩) 1 1] 22)))
  have hC := Lib.hid (hn2 W (.cells #[.int .u8 111] 5) (.cells #[.slice (some ⟨W.heap.size, 0, none⟩) 1 1] 22))
  have hB := Lib.hid ((below_a W (.cells #[.int .u8 111] 5)).alloc (by simp) (.cells #[.slice (some ⟨W.heap.size, 0, none⟩) 1 1] 22))
  have hN := Lib.hid (show ([111] : List Int).length ≤ 1 from Nat.le_refl _)
  generalize (W.alloc (.cells #[.int .u8 111] 5)).alloc (.cells #[.slice (some ⟨W.heap.size, 0, none⟩) 1 1] 22) = wx at *
  generalize Value.slice (some ⟨W.heap.size, 0, none⟩) 1 1 = sv at *
  obtain ⟨g, hg⟩ : ∃ g, g = W.heap.size + 1 := ⟨_, rfl⟩
  rw [← hg] at hC ⊢
  have hBg := Lib.hid (show W.heap.size ≤ g by omega)
  clear hg
  obtain ⟨c0, c1, c2, c3, c4, c5⟩ := hmids.out _ hB.out
  go_upto_region 4 with (first | (go_at_call 35; (with_reducible refine (hnu.out _).mono ?_); rintro e w4 ⟨rfl, q1, q2⟩; replace hO := Lib.hid (hO.out.kept (q2)); replace hC := Lib.hid (rowB hC.out (q2) (Array.getElem?_eq_some_iff.1 hC.out).1); replace hB := Lib.hid (hB.out.trans (Below.mono (q2) hB.out.size)); have hr := Lib.hid (rdB_row q1 _ (numB_length _) (Nat.le_trans la.out (by decide))); have hrl := Lib.hid (show (numB o.au).length ≤ 9 by rw [numB_length]; exact la.out); clear q1 q2) | (go_at_call 60; (with_reducible refine (putM_any W.heap.size g _ [111] _ (numB o.au) _ _ (hO.out) (hC.out) (hr.out) (by have h1 := hN.out; have h2 := hrl.out; omega) hBg.out).mono ?_); rintro e w5 ⟨⟨z5, rfl⟩, sv5, q1, q2, q3⟩; replace hO := Lib.hid q2; replace hC := Lib.hid q1; replace hB := Lib.hid ((hB.out).trans q3); replace hN := Lib.hid (show ([111] ++ (numB o.au)).length ≤ 20 by have h1 := hN.out; have h2 := hrl.out; rw [List.length_append]; omega); clear c0 c1 c2 c3 c4 c5; obtain ⟨c0, c1, c2, c3, c4, c5⟩ := hmids.out _ hB.out; clear q1 q2 q3 hrl))
  clear hr
  go_upto_region 5 with (first | (go_at_call 61; (with_reducible refine (hid.out _ hB.out).mono ?_); rintro e w4 ⟨g4, rfl, q0, q1, q2⟩; replace hO := Lib.hid (hO.out.kept (q2)); replace hC := Lib.hid (rowB hC.out (q2) (Array.getElem?_eq_some_iff.1 hC.out).1); replace hB := Lib.hid (hB.out.trans (Below.mono (q2) hB.out.size)); have hr := Lib.hid (rdB_row q1 _ (by rw [List.length_append, numB_length, hlF.out]) (by have h1 := ln.out; have h2 := hnn.out; unfold maxLen; omega)); have hrl := Lib.hid (show (numB o.n ++ o.F).length ≤ 140 by rw [List.length_append, numB_length, hlF.out]; have h1 := ln.out; have h2 := hnn.out; omega); clear q0 q1 q2) | (go_at_call 60; (with_reducible refine (putM_any W.heap.size g _ ([111] ++ numB o.au) _ (numB o.n ++ o.F) _ _ (hO.out) (hC.out) (hr.out) (by have h1 := hN.out; have h2 := hrl.out; omega) hBg.out).mono ?_); rintro e w5 ⟨⟨z5, rfl⟩, sv5, q1, q2, q3⟩; replace hO := Lib.hid q2; replace hC := Lib.hid q1; replace hB := Lib.hid ((hB.out).trans q3); replace hN := Lib.hid (show (([111] ++ numB o.au) ++ (numB o.n ++ o.F)).length ≤ 200 by have h1 := hN.out; have h2 := hrl.out; rw [List.length_append]; omega); clear c0 c1 c2 c3 c4 c5; obtain ⟨c0, c1, c2, c3, c4, c5⟩ := hmids.out _ hB.out; clear q1 q2 q3 hrl))
  clear hr
  go_upto_region 6 with (first | (go_at_call 35; (with_reducible refine (hns.out _).mono ?_); rintro e w4 ⟨rfl, q1, q2⟩; replace hO := Lib.hid (hO.out.kept (q2)); replace hC := Lib.hid (rowB hC.out (q2) (Array.getElem?_eq_some_iff.1 hC.out).1); replace hB := Lib.hid (hB.out.trans (Below.mono (q2) hB.out.size)); have hr := Lib.hid (rdB_row q1 _ (numB_length _) (Nat.le_trans ls.out (by decide))); have hrl := Lib.hid (show (numB o.st).length ≤ 9 by rw [numB_length]; exact ls.out); clear q1 q2) | (go_at_call 60; (with_reducible refine (putM_any W.heap.size g _ (([111] ++ numB o.au) ++ (numB o.n ++ o.F)) _ (numB o.st) _ _ (hO.out) (hC.out) (hr.out) (by have h1 := hN.out; have h2 := hrl.out; omega) hBg.out).mono ?_); rintro e w5 ⟨⟨z5, rfl⟩, sv5, q1, q2, q3⟩; replace hO := Lib.hid q2; replace hC := Lib.hid q1; replace hB := Lib.hid ((hB.out).trans q3); replace hN := Lib.hid (show ((([111] ++ numB o.au) ++ (numB o.n ++ o.F)) ++ (numB o.st)).length ≤ 220 by have h1 := hN.out; have h2 := hrl.out; rw [List.length_append]; omega); clear c0 c1 c2 c3 c4 c5; obtain ⟨c0, c1, c2, c3, c4, c5⟩ := hmids.out _ hB.out; clear q1 q2 q3 hrl))
  clear hr
  have hrl := Lib.hid (show ([o.k] : List Int).length ≤ 1 from Nat.le_refl _)
  go_upto_region 7 with (go_at_call 60; (with_reducible refine (putM_any W.heap.size g _ ((([111] ++ numB o.au) ++ (numB o.n ++ o.F)) ++ numB o.st) _ [o.k] _ _ (hO.out.kept (below_a _ (.cells #[.int .u8 o.k] 5))) (rowB hC.out (below_a _ (.cells #[.int .u8 o.k] 5)) (Array.getElem?_eq_some_iff.1 hC.out).1) (rd_one' _ _) (by have h1 := hN.out; have h2 := hrl.out; omega) hBg.out).mono ?_); rintro e w5 ⟨⟨z5, rfl⟩, sv5, q1, q2, q3⟩; replace hO := Lib.hid q2; replace hC := Lib.hid q1; replace hB := Lib.hid ((hB.out.alloc hB.out.size (.cells #[.int .u8 o.k] 5)).trans q3); replace hN := Lib.hid (show (((([111] ++ numB o.au) ++ (numB o.n ++ o.F)) ++ numB o.st) ++ [o.k]).length ≤ 230 by have h1 := hN.out; have h2 := hrl.out; rw [List.length_append]; omega); clear c0 c1 c2 c3 c4 c5; obtain ⟨c0, c1, c2, c3, c4, c5⟩ := hmids.out _ hB.out; clear q1 q2 q3 hrl)
  have cg : ∀ {wz : World} {sz : Value}, wz.heap[g]? = some (.cells #[sz] 22 (0, 0)) → wz.cell? ⟨g, 0, none⟩ = some sz := fun h => by rw [cell_of_row _ _ _ _ _ _ h]; rfl
  rcases hkinds.out with hk | ⟨hk, hks⟩ | ⟨hk, hks, hv⟩
  · have k1 : (o.k != 1) = false := by rw [hk]; rfl
    have k4 : (o.k == 4) = false := by rw [hk]; rfl
    have cz := cg hC.out
    clear cg
    go_wp2
    go_ret
    have he : msgB o = (((([111] ++ numB o.au) ++ (numB o.n ++ o.F)) ++ numB o.st) ++ [o.k]) := by unfold msgB; rw [if_pos hk, if_neg (by rw [hk]; decide), List.append_nil, List.append_nil]
    exact ⟨_, rfl, by rw [he]; exact hO.out.mono hlt.out, hb1.out.trans (hB.out.mono hb1.out.size)⟩
  · have k1 : (o.k != 1) = true := by rcases hk with hk | hk <;> (rw [hk]; rfl)
    have k4 : (o.k == 4) = false := by rcases hk with hk | hk <;> (rw [hk]; rfl)
    go_upto_region 9 with (first | (go_at_call 62; (refine (hT.out hks w5 _).mono ?_); rintro e w4 ⟨g4, rfl, q0, q1, q2⟩; replace hO := Lib.hid (hO.out.kept ((show Below w5.heap.size w5 (w5.drew.alloc _) from (Below.refl _ _).drew.alloc (Nat.le_refl _) _).trans (q2.mono (by simp)))); replace hC := Lib.hid (rowB hC.out ((show Below w5.heap.size w5 (w5.drew.alloc _) from (Below.refl _ _).drew.alloc (Nat.le_refl _) _).trans (q2.mono (by simp))) (Array.getElem?_eq_some_iff.1 hC.out).1); replace hB := Lib.hid (hB.out.trans (Below.mono ((show Below w5.heap.size w5 (w5.drew.alloc _) from (Below.refl _ _).drew.alloc (Nat.le_refl _) _).trans (q2.mono (by simp))) hB.out.size)); have hr := Lib.hid (rdB_row q1 _ rfl (by rw [textB_length, sI_length]; have := numL_le o.key.size (by omega); unfold maxLen; omega)); have hrl := Lib.hid (show (textB (sI o.key)).length ≤ 30 by rw [textB_length, sI_length]; have := numL_le o.key.size (by omega); omega); clear q0 q1 q2) | (go_at_call 60; (with_reducible refine (putM_any W.heap.size g _ (((([111] ++ numB o.au) ++ (numB o.n ++ o.F)) ++ numB o.st) ++ [o.k]) _ (textB (sI o.key)) _ _ (hO.out) (hC.out) (hr.out) (by have h1 := hN.out; have h2 := hrl.out; omega) hBg.out).mono ?_); rintro e w5 ⟨⟨z5, rfl⟩, sv5, q1, q2, q3⟩; replace hO := Lib.hid q2; replace hC := Lib.hid q1; replace hB := Lib.hid ((hB.out).trans q3); replace hN := Lib.hid (show ((((([111] ++ numB o.au) ++ (numB o.n ++ o.F)) ++ numB o.st) ++ [o.k]) ++ (textB (sI o.key))).length ≤ 260 by have h1 := hN.out; have h2 := hrl.out; rw [List.length_append]; omega); clear c0 c1 c2 c3 c4 c5; obtain ⟨c0, c1, c2, c3, c4, c5⟩ := hmids.out _ hB.out; clear q1 q2 q3 hrl))
    have cz := cg hC.out
    clear cg
    go_wp2
    go_ret
    have he : msgB o = ((((([111] ++ numB o.au) ++ (numB o.n ++ o.F)) ++ numB o.st) ++ [o.k]) ++ textB (sI o.key)) := by unfold msgB; rw [if_neg (by rcases hk with hk | hk <;> (rw [hk]; decide)), if_neg (by rcases hk with hk | hk <;> (rw [hk]; decide)), List.append_nil]
    exact ⟨_, rfl, by rw [he]; exact hO.out.mono hlt.out, hb1.out.trans (hB.out.mono hb1.out.size)⟩
  · have k1 : (o.k != 1) = true := by rw [hk]; rfl
    have k4 : (o.k == 4) = true := by rw [hk]; rfl
    go_upto_region 9 with (first | (go_at_call 62; (refine (hT.out hks w5 _).mono ?_); rintro e w4 ⟨g4, rfl, q0, q1, q2⟩; replace hO := Lib.hid (hO.out.kept ((show Below w5.heap.size w5 (w5.drew.alloc _) from (Below.refl _ _).drew.alloc (Nat.le_refl _) _).trans (q2.mono (by simp)))); replace hC := Lib.hid (rowB hC.out ((show Below w5.heap.size w5 (w5.drew.alloc _) from (Below.refl _ _).drew.alloc (Nat.le_refl _) _).trans (q2.mono (by simp))) (Array.getElem?_eq_some_iff.1 hC.out).1); replace hB := Lib.hid (hB.out.trans (Below.mono ((show Below w5.heap.size w5 (w5.drew.alloc _) from (Below.refl _ _).drew.alloc (Nat.le_refl _) _).trans (q2.mono (by simp))) hB.out.size)); have hr := Lib.hid (rdB_row q1 _ rfl (by rw [textB_length, sI_length]; have := numL_le o.key.size (by omega); unfold maxLen; omega)); have hrl := Lib.hid (show (textB (sI o.key)).length ≤ 30 by rw [textB_length, sI_length]; have := numL_le o.key.size (by omega); omega); clear q0 q1 q2) | (go_at_call 60; (with_reducible refine (putM_any W.heap.size g _ (((([111] ++ numB o.au) ++ (numB o.n ++ o.F)) ++ numB o.st) ++ [o.k]) _ (textB (sI o.key)) _ _ (hO.out) (hC.out) (hr.out) (by have h1 := hN.out; have h2 := hrl.out; omega) hBg.out).mono ?_); rintro e w5 ⟨⟨z5, rfl⟩, sv5, q1, q2, q3⟩; replace hO := Lib.hid q2; replace hC := Lib.hid q1; replace hB := Lib.hid ((hB.out).trans q3); replace hN := Lib.hid (show ((((([111] ++ numB o.au) ++ (numB o.n ++ o.F)) ++ numB o.st) ++ [o.k]) ++ (textB (sI o.key))).length ≤ 260 by have h1 := hN.out; have h2 := hrl.out; rw [List.length_append]; omega); clear c0 c1 c2 c3 c4 c5; obtain ⟨c0, c1, c2, c3, c4, c5⟩ := hmids.out _ hB.out; clear q1 q2 q3 hrl))
    clear hr
    go_upto_region 11 with (first | (go_at_call 63; (with_reducible refine (hE.out hv _).mono ?_); rintro e w4 ⟨sx, rfl, q1, q2⟩; replace hO := Lib.hid (hO.out.kept (q2)); replace hC := Lib.hid (rowB hC.out (q2) (Array.getElem?_eq_some_iff.1 hC.out).1); replace hB := Lib.hid (hB.out.trans (Below.mono (q2) hB.out.size)); have hr := Lib.hid (q1.rd); have hrl := Lib.hid (hEl.out hv); clear q1 q2) | (refine wpList_midV rfl 35 _ rfl w.heap.size 5 rfl o.v.l _ c5 Tryz.underlying35 rfl info_val ?_) | (go_at_call 60; (with_reducible refine (putM_any W.heap.size g _ ((((([111] ++ numB o.au) ++ (numB o.n ++ o.F)) ++ numB o.st) ++ [o.k]) ++ textB (sI o.key)) _ (encB o.v.k o.v.n o.v.b o.v.s) _ _ (hO.out) (hC.out) (hr.out) (by have h1 := hN.out; have h2 := hrl.out; omega) hBg.out).mono ?_); rintro e w5 ⟨⟨z5, rfl⟩, sv5, q1, q2, q3⟩; replace hO := Lib.hid q2; replace hC := Lib.hid q1; replace hB := Lib.hid ((hB.out).trans q3); replace hN := Lib.hid (show (((((([111] ++ numB o.au) ++ (numB o.n ++ o.F)) ++ numB o.st) ++ [o.k]) ++ textB (sI o.key)) ++ (encB o.v.k o.v.n o.v.b o.v.s)).length ≤ 400 by have h1 := hN.out; have h2 := hrl.out; rw [List.length_append]; omega); clear c0 c1 c2 c3 c4 c5; obtain ⟨c0, c1, c2, c3, c4, c5⟩ := hmids.out _ hB.out; clear q1 q2 q3 hrl))
    have cz := cg hC.out
    clear cg
    go_wp2
    go_ret
    have he : msgB o = (((((([111] ++ numB o.au) ++ (numB o.n ++ o.F)) ++ numB o.st) ++ [o.k]) ++ textB (sI o.key)) ++ encB o.v.k o.v.n o.v.b o.v.s) := by unfold msgB; rw [if_neg (by rw [hk]; decide), if_pos hk]
    exact ⟨_, rfl, by rw [he]; exact hO.out.mono hlt.out, hb1.out.trans (hB.out.mono hb1.out.size)⟩
end Go.Proofs.YtfaojjleapenaabGreatDoor.wir.val
namespace Go.Proofs.YtfaojjleapenaabGreatDoor.wir.val
open Go.RowKit Go.YtfaojjleapenaabGreatDoor
set_option linter.unusedVariables false
def Od.bare (o : Od) : Od := { o with e := 0, s := 0 }
theorem Od.Fit.bare {o : Od} (h : o.Fit) : o.bare.Fit := ⟨h.au, h.F, h.n, h.st, h.k, h.key, h.v, (show 0 < 4294967296 by decide), (show 0 < 4294967296 by decide)⟩
theorem chk_zero {o : Od} (h : chkO o = 0) : o.n ≤ 4 ∧ riseF o.F o.n = true ∧ actB o.k o.key o.v = true := by
  unfold chkO at h
  by_cases h1 : 4 < o.n
  · rw [if_pos h1] at h; omega
  · rw [if_neg h1] at h
    by_cases h2 : riseF o.F o.n = true
    · rw [if_pos h2] at h
      by_cases h3 : okO o = true
      · unfold okO at h3
        simp only [Bool.and_eq_true] at h3
        exact ⟨by omega, h2, h3.2.2.1⟩
      · rw [if_neg h3] at h; omega
    · rw [if_neg h2] at h; omega
/-- The bytes of an operation. -/
def encO (o : Od) : List Int := (msgB o ++ numB o.e) ++ numB o.s
theorem op_one (o : Od) (a : Option Addr) (n c : Nat) : (o.c (.slice a n c)).all (·.oneCell') = true := by simp [Od.c, Value.oneCell']
theorem set_sig {w : World} {g : Nat} {o : Od} {pv : Value} (h : w.heap[g]? = some (.cells (o.c pv) 41 (0, 0))) (e s : Int) :
    (w.setCell ⟨g, 9, none⟩ (.int .u32 e)).setCell ⟨g, 10, none⟩ (.int .u32 s) = w.setRow g #[.int .u32 (o.au : Int), pv, .int .u64 (o.st : Int), .int .u8 o.k, .string o.key, .int .u8 o.v.k, .int .i64 o.v.n, .int .u64 (o.v.b : Int), .string o.v.s, .int .u32 e, .int .u32 s] := by
  have h1 := fun c => setRow_heap w g (o.c pv) c _ (0, 0) h
  rw [setCell_eq h]
  rw [setCell_eq (h1 _), setRow2 h]
  simp only [List.setIfInBounds_toArray, List.set_cons_succ, List.set_cons_zero]
set_option maxHeartbeats 4000000 in
set_option maxRecDepth 100000 in
theorem opMessage_any (o : Od) (fo : o.Fit) (pv : Value) (w : World) (hp : RdI w pv o.n o.F) :
    Calls Tryz.prog 18 #[.agg (o.c pv)] w fun e w' => (if chkO o.bare = 0 then ∃ sv, e = .returned (.tuple #[sv, .int .i64 0]) ∧ OwnB w.heap.size 5 w' sv (msgB o) else e = .returned (.tuple #[.slice none 0 0, .int .i64 (chkO o.bare)])) ∧ Below w.heap.size w w' := by
  obtain ⟨W, hW⟩ : ∃ W, W = w.alloc (.cells (o.c pv) 41) := ⟨_, rfl⟩
  have hr0 := heap_alloc_new w (.cells (o.c pv) 41)
  have hb0 := (Below.refl w.heap.size w).alloc (Nat.le_refl _) (.cells (o.c pv) 41)
  rw [← hW] at hr0 hb0
  obtain ⟨pa, pc, rfl⟩ := hp.slice
  have hsz := Lib.hid (Array.getElem?_eq_some_iff.1 hr0).1
  have hp1 := Lib.hid (hp.mono hb0)
  have hb1 := Lib.hid hb0
  have hf := fun i => frozen_of_row W w.heap.size i (o.c (.slice pa o.n pc)) 41 hr0
  have f9 := hf 9
  have f10 := hf 10
  have hcs := cellsO hr0
  obtain ⟨_, _, _, _, _, c9, c10⟩ := hcs
  have hset := Lib.hid (set_sig hr0 0 0)
  have hrow0 := Lib.hid hr0
  clear hr0 hb0 hf
  go_enter Tryz.func18, Tryz.ntmps18
  go_upto_region 1 with fail
  rw [← hW]
  clear hW
  go_upto_region 2 with fail
  rw [hset.out]
  have hrow := Lib.hid (show (W.setRow w.heap.size (o.bare.c (.slice pa o.n pc))).heap[w.heap.size]? = some (.cells (o.bare.c (.slice pa o.n pc)) 41 (0, 0)) from setRow_heap _ _ _ _ _ _ hrow0.out)
  have hbW := Lib.hid (show Below w.heap.size w (W.setRow w.heap.size (o.bare.c (.slice pa o.n pc))) from below_setRow' hb1.out (Nat.le_refl _) _)
  clear hset
  change Code.wp _ _ _ _ (W.setRow w.heap.size (o.bare.c (.slice pa o.n pc)))
  generalize W.setRow w.heap.size (o.bare.c (.slice pa o.n pc)) = W2 at *
  have hp2 := Lib.hid (hp.mono hbW.out)
  have hK := Lib.hid (opCheck_any o.bare fo.bare (.slice pa o.n pc) W2 hp2.out)
  have hM := Lib.hid (fun (h : chkO o.bare = 0) (wz : World) (hb : Below W2.heap.size W2 wz) => message_any o.bare fo.bare (chk_zero h).1 (chk_zero h).2.1 (chk_zero h).2.2 (.slice pa o.n pc) wz (hp2.out.mono hb))
  clear hp1 hp hrow0 c9 c10 f9 f10 fo hb1
  generalize hE : chkO o.bare = E at *
  by_cases h0 : E = 0
  · have hb0 : (E != 0) = false := by rw [h0]; rfl
    have hM' := Lib.hid (hM.out h0)
    have hE' := Lib.hid (hE.trans h0)
    clear hM hE
    go_wp2_with (first
      | (refine wpList_load_row_g rfl 41 _ rfl w.heap.size rfl 41 (o.bare.c (.slice pa o.n pc)) (0, 0) _ hrow.out Tryz.underlying41 rfl info_op ?_)
      | (go_at_call 21; (with_reducible refine (hK.out).mono ?_); rintro e w3 ⟨rfl, h3⟩; have hb3 := Lib.hid h3; have hrow3 := Lib.hid (rowB hrow.out h3 (Array.getElem?_eq_some_iff.1 hrow.out).1); clear h3)
      | (refine wpList_load_row_g rfl 41 _ rfl w.heap.size rfl 41 (o.bare.c (.slice pa o.n pc)) (0, 0) _ hrow3.out Tryz.underlying41 rfl info_op ?_)
      | (go_at_call 34; (with_reducible refine (hM'.out _ hb3.out).mono ?_); rintro e w4 ⟨sv, rfl, h4, h5⟩; have hO := Lib.hid h4; have hb4 := Lib.hid (hbW.out.trans ((hb3.out.mono hbW.out.size).trans (h5.mono (Nat.le_trans hbW.out.size hb3.out.size)))); have hle := Lib.hid (Nat.le_trans hbW.out.size hb3.out.size); clear h4 h5))
    go_ret2
    exact ⟨⟨_, rfl, hO.out.mono hle.out⟩, hb4.out⟩
  · have hb0 : (E != 0) = true := by simpa using h0
    have hE' := Lib.hid (show ¬ chkO o.bare = 0 from fun h => h0 (hE ▸ h))
    have hEE := Lib.hid hE
    clear hM hE
    go_wp2_with (first
      | (refine wpList_load_row_g rfl 41 _ rfl w.heap.size rfl 41 (o.bare.c (.slice pa o.n pc)) (0, 0) _ hrow.out Tryz.underlying41 rfl info_op ?_)
      | (go_at_call 21; (with_reducible refine (hK.out).mono ?_); rintro e w3 ⟨rfl, h3⟩; have hb3 := Lib.hid h3; clear h3))
    go_ret2
    exact ⟨by first | (rw [if_neg hE'.out, hEE.out]; rfl) | (rw [hEE.out]; rfl) | rfl, hbW.out.trans (hb3.out.mono hbW.out.size)⟩
theorem cells11 {w : World} {g : Nat} {x0 x1 x2 x3 x4 x5 x6 x7 x8 x9 x10 : Value} {T : TypeId} (h : w.heap[g]? = some (.cells #[x0, x1, x2, x3, x4, x5, x6, x7, x8, x9, x10] T (0, 0))) :
    w.cell? ⟨g, 0, none⟩ = some x0 ∧ w.cell? ⟨g, 1, none⟩ = some x1 ∧ w.cell? ⟨g, 2, none⟩ = some x2 ∧ w.cell? ⟨g, 3, none⟩ = some x3 ∧ w.cell? ⟨g, 4, none⟩ = some x4 ∧ w.cell? ⟨g, 5, none⟩ = some x5 ∧ w.cell? ⟨g, 6, none⟩ = some x6 ∧ w.cell? ⟨g, 7, none⟩ = some x7 ∧ w.cell? ⟨g, 8, none⟩ = some x8 ∧ w.cell? ⟨g, 9, none⟩ = some x9 ∧ w.cell? ⟨g, 10, none⟩ = some x10 :=
  ⟨cell_of_row _ _ _ _ _ _ h, cell_of_row _ _ _ _ _ _ h, cell_of_row _ _ _ _ _ _ h, cell_of_row _ _ _ _ _ _ h, cell_of_row _ _ _ _ _ _ h, cell_of_row _ _ _ _ _ _ h, cell_of_row _ _ _ _ _ _ h, cell_of_row _ _ _ _ _ _ h, cell_of_row _ _ _ _ _ _ h, cell_of_row _ _ _ _ _ _ h, cell_of_row _ _ _ _ _ _ h⟩
theorem msgB_short (o : Od) (fo : o.Fit) (hn : o.n ≤ 4) (hl : o.F.length = 32 * o.n) (hA : actB o.k o.key o.v = true) : (msgB o).length ≤ 380 := by
  have h1 := numL_le o.au (by have := fo.au; omega)
  have h2 := numL_le o.st fo.st
  have h3 := numL_le o.n (by omega)
  have hT : o.key.size ≤ 20 → (textB (sI o.key)).length ≤ 30 := fun h => by rw [textB_length, sI_length]; have := numL_le o.key.size (by omega); omega
  unfold msgB
  simp only [List.length_append, numB_length, hl, List.length_cons, List.length_nil]
  rcases act_kinds hA with hk | ⟨hk, hs⟩ | ⟨hk, hs, hv⟩
  · rw [if_pos hk, if_neg (by rw [hk]; decide)]; simp; omega
  · have := hT hs
    rw [if_neg (by rcases hk with hk | hk <;> (rw [hk]; decide)), if_neg (by rcases hk with hk | hk <;> (rw [hk]; decide))]
    simp; omega
  · have := hT hs
    have := encB_short fo.v hv
    rw [if_neg (by rw [hk]; decide), if_pos hk]
    omega
end Go.Proofs.YtfaojjleapenaabGreatDoor.wir.val
namespace Go.Proofs.YtfaojjleapenaabGreatDoor.wir.val
open Go.RowKit Go.YtfaojjleapenaabGreatDoor
set_option linter.unusedVariables false
set_option maxHeartbeats 8000000 in
set_option maxRecDepth 100000 in
theorem opEncode_ok (o : Od) (fo : o.Fit) (pv : Value) (w : World) (hp : RdI w pv o.n o.F) (h0 : chkO o = 0) :
    Calls Tryz.prog 14 #[.agg (o.c pv)] w fun e w' => ∃ sv, e = .returned (.tuple #[sv, .int .i64 0]) ∧ OwnB w.heap.size 5 w' sv (encO o) ∧ Below w.heap.size w w' := by
  obtain ⟨W, hW⟩ : ∃ W, W = w.alloc (.cells (o.c pv) 41) := ⟨_, rfl⟩
  have hr0 := heap_alloc_new w (.cells (o.c pv) 41)
  have hb0 := (Below.refl w.heap.size w).alloc (Nat.le_refl _) (.cells (o.c pv) 41)
  rw [← hW] at hr0 hb0
  have hms := Lib.hid (msgB_short o fo (chk_zero h0).1 hp.len (chk_zero h0).2.2)
  obtain ⟨pa, pc, rfl⟩ := hp.slice
  have hp1 := Lib.hid (hp.mono hb0)
  have hb1 := Lib.hid hb0
  have hrow := Lib.hid hr0
  have hlt := (Array.getElem?_eq_some_iff.1 hr0).1
  have hrows := Lib.hid (fun (wz : World) (h : Below W.heap.size W wz) => rowB hrow.out h hlt)
  have hS := Lib.hid (show ∀ (wz : World) (h : Below W.heap.size W wz), (fun wz => wz.cell? ⟨w.heap.size, 0, none⟩ = some (.int .u32 (o.au : Int)) ∧ wz.cell? ⟨w.heap.size, 1, none⟩ = some (.slice pa o.n pc) ∧ wz.cell? ⟨w.heap.size, 2, none⟩ = some (.int .u64 (o.st : Int)) ∧ wz.cell? ⟨w.heap.size, 3, none⟩ = some (.int .u8 o.k) ∧ wz.cell? ⟨w.heap.size, 4, none⟩ = some (.string o.key) ∧ wz.cell? ⟨w.heap.size, 5, none⟩ = some (.int .u8 o.v.k) ∧ wz.cell? ⟨w.heap.size, 6, none⟩ = some (.int .i64 o.v.n) ∧ wz.cell? ⟨w.heap.size, 7, none⟩ = some (.int .u64 (o.v.b : Int)) ∧ wz.cell? ⟨w.heap.size, 8, none⟩ = some (.string o.v.s) ∧ wz.cell? ⟨w.heap.size, 9, none⟩ = some (.int .u32 (o.e : Int)) ∧ wz.cell? ⟨w.heap.size, 10, none⟩ = some (.int .u32 (o.s : Int))) wz from fun wz h => cells11 (hrows.out wz h))
  have hK := Lib.hid (opCheck_any o fo (.slice pa o.n pc) W hp1.out)
  rw [h0] at hK
  have hM := Lib.hid (fun (wz : World) (hb : Below W.heap.size W wz) => message_any o fo (chk_zero h0).1 (chk_zero h0).2.1 (chk_zero h0).2.2 (.slice pa o.n pc) wz (hp1.out.mono hb))
  have hne := Lib.hid (fun (wz : World) => number_any o.e (by have := fo.e; omega) wz)
  have hns := Lib.hid (fun (wz : World) => number_any o.s (by have := fo.s; omega) wz)
  have le := Lib.hid (numL_le o.e (by have := fo.e; omega))
  have ls := Lib.hid (numL_le o.s (by have := fo.s; omega))
  have hwe := u64_nat o.e (by have := fo.e; omega)
  have hws := u64_nat o.s (by have := fo.s; omega)
  have he := Lib.hid (show encO o = (msgB o ++ numB o.e) ++ numB o.s from rfl)
  generalize encO o = EO at *
  generalize hme : msgB o = MB at *
  clear hr0 hb0 hp fo h0 hme
  go_enter Tryz.func14, Tryz.ntmps14
  go_upto_region 1 with fail
  rw [← hW]
  clear hW
  go_upto_region 4 with (first | (refine wpList_load_row_g rfl 41 _ rfl w.heap.size rfl 41 (o.c (.slice pa o.n pc)) (0, 0) _ hrow.out Tryz.underlying41 rfl info_op ?_) | (go_at_call 21; (with_reducible refine (hK.out).mono ?_); rintro e w3 ⟨rfl, h3⟩; have hB3 := Lib.hid h3; clear h3))
  have hB := Lib.hid (show Below W.heap.size W w3.drew from hB3.out.drew)
  have hB0 := Lib.hid (show W.heap.size ≤ w3.drew.heap.size from hB.out.size)
  obtain ⟨c0, c1, c2, c3, c4, c5, c6, c7, c8, c9, c10⟩ := hS.out w3 hB3.out
  obtain ⟨N5, hN5⟩ : ∃ N, (MB ++ numB o.e).length = N := ⟨_, rfl⟩
  have hN6 := Lib.hid (show N5 ≤ 400 by rw [← hN5, List.length_append, numB_length]; have h1 := hms.out; have h2 := le.out; omega)
  replace hN5 := Lib.hid hN5
  go_region_held3 (fun wz => wz.cell? ⟨w.heap.size, 0, none⟩ = some (.int .u32 (o.au : Int)) ∧ wz.cell? ⟨w.heap.size, 1, none⟩ = some (.slice pa o.n pc) ∧ wz.cell? ⟨w.heap.size, 2, none⟩ = some (.int .u64 (o.st : Int)) ∧ wz.cell? ⟨w.heap.size, 3, none⟩ = some (.int .u8 o.k) ∧ wz.cell? ⟨w.heap.size, 4, none⟩ = some (.string o.key) ∧ wz.cell? ⟨w.heap.size, 5, none⟩ = some (.int .u8 o.v.k) ∧ wz.cell? ⟨w.heap.size, 6, none⟩ = some (.int .i64 o.v.n) ∧ wz.cell? ⟨w.heap.size, 7, none⟩ = some (.int .u64 (o.v.b : Int)) ∧ wz.cell? ⟨w.heap.size, 8, none⟩ = some (.string o.v.s) ∧ wz.cell? ⟨w.heap.size, 9, none⟩ = some (.int .u32 (o.e : Int)) ∧ wz.cell? ⟨w.heap.size, 10, none⟩ = some (.int .u32 (o.s : Int))) (first | (exact hS.out _ hB.out) | go_keep)
    (first
      | (go_at_call 34; (with_reducible refine (hM.out _ hB.out).mono ?_); rintro e w4 ⟨sv, rfl, q1, q2⟩; (try replace hO := Lib.hid (hO.out.kept q2)); (try replace hr := Lib.hid (hr.out.mono q2)); replace hB := Lib.hid (hB.out.trans (Below.mono q2 hB.out.size)); have hO := Lib.hid (q1.mono hB0.out); obtain ⟨ma, mc, hmv⟩ := hO.out.rd.slice; subst hmv; clear q1 q2)
      | (go_at_call 35; (with_reducible refine (hne.out _).mono ?_); rintro e w4 ⟨rfl, q1, q2⟩; (try replace hO := Lib.hid (hO.out.kept q2)); (try replace hr := Lib.hid (hr.out.mono q2)); replace hB := Lib.hid (hB.out.trans (Below.mono q2 hB.out.size)); have hr := Lib.hid (rdB_row q1 _ (numB_length _) (Nat.le_trans le.out (by decide))); clear q1 q2)
      | (refine step_appendB (by rfl) _ _ 22 (by rfl) W.heap.size 5 Tryz.underlying22 (by kernel_rfl) _ (by rfl) MB hO.out _ (by rfl) (numB o.e) hr.out (by rw [numB_length]; have h1 := hms.out; have h2 := le.out; omega) (hB.out.size) ?_; intro v5 w5 h1 h2; replace hB := Lib.hid (hB.out.trans (hO.out.below h2 hB.out.size)); replace hO := Lib.hid h1; obtain ⟨na, nc, hnv⟩ := hO.out.rd.slice; rw [hN5.out] at hnv; subst hnv; clear h1 h2))
  all_goals
    clear c0 c1 c2 c3 c4 c5 c6 c7 c8 c9 c10 hr
    obtain ⟨c0, c1, c2, c3, c4, c5, c6, c7, c8, c9, c10⟩ := hS.out _ hB.out
    go_upto_region 5 with fail
    go_wp2_with (go_at_call 35; (with_reducible refine (hns.out _).mono ?_); rintro e w4 ⟨rfl, q1, q2⟩; (try replace hO := Lib.hid (hO.out.kept q2)); (try replace hr := Lib.hid (hr.out.mono q2)); replace hB := Lib.hid (hB.out.trans (Below.mono q2 hB.out.size)); have hr := Lib.hid (rdB_row q1 _ (numB_length _) (Nat.le_trans ls.out (by decide))); clear q1 q2; refine Stop.go'' _ ?_)
    refine StopP.go ?_
    go_wp2_with (refine appendB rfl _ _ 22 rfl W.heap.size 5 Tryz.underlying22 (by kernel_rfl) _ rfl (MB ++ numB o.e) hO.out _ rfl (numB o.s) hr.out (by rw [hN5.out, numB_length]; have h1 := hN6.out; have h3 := ls.out; omega) hB.out.size ?_)
    intro v6 w6 h1 h2
    replace hB := Lib.hid (hB.out.trans (hO.out.below h2 hB.out.size))
    replace hO := Lib.hid h1
    clear h1 h2
    refine Stop.go ?_
    go_wp2
    go_ret2
    exact ⟨_, rfl, by rw [he.out, List.append_assoc]; first | exact hO.out.mono hb1.out.size | (rw [← List.append_assoc]; exact hO.out.mono hb1.out.size), hb1.out.trans (hB.out.mono hb1.out.size)⟩
end Go.Proofs.YtfaojjleapenaabGreatDoor.wir.val
namespace Go.Proofs.YtfaojjleapenaabGreatDoor.wir.val
open Go.RowKit Go.YtfaojjleapenaabGreatDoor
set_option linter.unusedVariables false
theorem bytes_one {x : Int} (h : 0 ≤ x ∧ x < 256) : Bytes [x] := bytes_mk_cons h (fun i => by simp [ith])
theorem sI_bytes0 (s : ByteArray) : Bytes (sI s) := fun i => by
  rcases Nat.lt_or_ge i s.size with h | h
  · rw [← sI_get s i h]
    have := s[i].toNat_lt
    omega
  · rw [ith_over _ _ (by rw [sI_length]; exact h)]; omega
theorem textB_bytes (s : ByteArray) (h : s.size ≤ 1000000) : Bytes (textB (sI s)) := by
  unfold textB
  exact bytes_append _ _ (numB_bytes _ (by rw [sI_length]; omega)) (sI_bytes0 s)
theorem encB_bytes0 {v : Va} (fv : v.fit) (hv : v.ok = true) : Bytes (encB v.k v.n v.b v.s) := by
  unfold encB
  split
  · exact bytes_mk_cons (by omega) (numB_bytes _ (fold_lt _ fv.n))
  · split
    · exact bytes_mk_cons (by omega) (be_bytes _ _)
    · exact bytes_mk_cons (by omega) (textB_bytes _ fv.s)
theorem bytes_nil : Bytes [] := fun i => by simp [ith]
theorem msgB_bytes (o : Od) (fo : o.Fit) (hn : o.n ≤ 4) (hA : actB o.k o.key o.v = true) : Bytes (msgB o) := by
  unfold msgB
  refine bytes_append _ _ (bytes_append _ _ (bytes_append _ _ (bytes_append _ _ (bytes_append _ _ (bytes_append _ _ (bytes_one (by omega)) (numB_bytes _ (by have := fo.au; omega))) (bytes_append _ _ (numB_bytes _ (by omega)) fo.F)) (numB_bytes _ fo.st)) (bytes_one fo.k)) ?_) ?_
  · split
    · exact bytes_nil
    · exact textB_bytes _ fo.key
  · split
    · rename_i hk
      rcases act_kinds hA with h | ⟨h, _⟩ | ⟨_, _, h⟩
      · rw [hk] at h; omega
      · rw [hk] at h; omega
      · exact encB_bytes0 fo.v h
    · exact bytes_nil
theorem encO_bytes (o : Od) (fo : o.Fit) (hn : o.n ≤ 4) (hA : actB o.k o.key o.v = true) : Bytes (encO o) :=
  bytes_append _ _ (bytes_append _ _ (msgB_bytes o fo hn hA) (numB_bytes _ (by have := fo.e; omega))) (numB_bytes _ (by have := fo.s; omega))
theorem encO_short (o : Od) (fo : o.Fit) (hn : o.n ≤ 4) (hl : o.F.length = 32 * o.n) (hA : actB o.k o.key o.v = true) : (encO o).length ≤ 400 := by
  have h1 := msgB_short o fo hn hl hA
  have h2 := numL_le o.e (by have := fo.e; omega)
  have h3 := numL_le o.s (by have := fo.s; omega)
  unfold encO
  rw [List.length_append, List.length_append, numB_length, numB_length]; omega
set_option maxHeartbeats 4000000 in
set_option maxRecDepth 100000 in
theorem opID_ok {Tg Tf : TypeId} (o : Od) (fo : o.Fit) (pv : Value) (w : World) (hp : RdI w pv o.n o.F) (h0 : chkO o = 0)
    (hg : w.heap[1]? = some (.cells (u32s constW) Tg (0, 0))) (hgf : w.heap[0]? = some (.cells firstW.cells Tf (0, 0))) :
    Calls Tryz.prog 19 #[.agg (o.c pv)] w fun e w' => e = .returned (.tuple #[.agg (u8s (shaF (encO o))), .int .i64 0]) ∧ Below w.heap.size w w' := by
  obtain ⟨W, hW⟩ : ∃ W, W = (w.alloc (.cells (o.c pv) 41)).alloc (.cells (u8s (zerosB 32)) 43) := ⟨_, rfl⟩
  have hr0 : W.heap[w.heap.size]? = some (.cells (o.c pv) 41 (0, 0)) := by rw [hW]; exact rowB (heap_alloc_new w _) (below_a _ _) (by simp)
  have hr1 : W.heap[w.heap.size + 1]? = some (.cells (u8s (zerosB 32)) 43 (0, 0)) := by rw [hW]; exact hn2 w _ _
  have hb0 : Below w.heap.size w W := by rw [hW]; exact ((Below.refl w.heap.size w).alloc (Nat.le_refl _) _).alloc (by simp) _
  obtain ⟨pa, pc, rfl⟩ := hp.slice
  have hb1 := Lib.hid hb0
  have hrow := Lib.hid hr0
  have hres := Lib.hid hr1
  have z := chk_zero h0
  have hE := Lib.hid (opEncode_ok o fo (.slice pa o.n pc) W (hp.mono hb0) h0)
  have hD := Lib.hid (fun (wz : World) (v : Value) (hb : Below W.heap.size W wz) (hv : RdB wz v (encO o)) => sum_any (Tg := Tg) (Tf := Tf) (shaF (encO o)) v (encO o) wz hv (encO_bytes o fo z.1 z.2.2) (Nat.le_trans (encO_short o fo z.1 hp.len z.2.2) (by decide)) rfl
    (rowB hg (hb0.trans (hb.mono hb0.size)) (Array.getElem?_eq_some_iff.1 hg).1) (rowB hgf (hb0.trans (hb.mono hb0.size)) (Array.getElem?_eq_some_iff.1 hgf).1))
  have hDl : (shaF (encO o)).length = 32 := shaF_length _
  generalize shaF (encO o) = D at *
  generalize encO o = EO at *
  have di := Lib.hid (show (Tryz.prog.info? 43).map (·.size) = some (u8s D).size by rw [u8s_size, hDl]; kernel_rfl)
  have ds := Lib.hid (show (u8s (zerosB 32)).size = (u8s D).size by rw [u8s_size, u8s_size, hDl, zerosB_length])
  clear hr0 hr1 hb0 hp fo hg hgf z h0 hDl
  go_enter Tryz.func19, Tryz.ntmps19
  go_upto_region 1 with fail
  rw [show ∀ x : Array Value, x = u8s (zerosB 32) → (w.alloc (.cells (o.c (.slice pa o.n pc)) 41)).alloc (.cells x 43) = W from fun x hx => by rw [hx, hW]]
  rotate_left
  · kernel_rfl
  clear hW
  go_wp2_with (first
    | (refine wpList_load_row_g rfl 41 _ rfl w.heap.size rfl 41 (o.c (.slice pa o.n pc)) (0, 0) _ hrow.out Tryz.underlying41 rfl info_op ?_)
    | (go_at_call 14; (with_reducible refine (hE.out).mono ?_); rintro e w3 ⟨sv, rfl, h2, h3⟩; have hb3 := Lib.hid h3; have hO := Lib.hid h2; have hD3 := Lib.hid (hD.out _ sv h3 h2.rd); have hres3 := Lib.hid (rowB hres.out h3 (Array.getElem?_eq_some_iff.1 hres.out).1); clear h2 h3)
    | (go_at_call 38; (with_reducible refine (hD3.out).mono ?_); rintro e w4 ⟨rfl, h3⟩; have hb4 := Lib.hid (hb3.out.trans (h3.mono hb3.out.size)); have hres4 := Lib.hid (rowB hres3.out h3 (Array.getElem?_eq_some_iff.1 hres3.out).1); clear h3)
    | (refine storeOver _ (w.heap.size + 1) _ rfl 43 _ _ rfl (u8s D) 43 hres4.out rfl rfl di.out ds.out (u8s_one _) ?_; intro w5 hr5 hb5; have hr5' := Lib.hid hr5; have hb5' := Lib.hid hb5; clear hr5 hb5))
  exact bodyPost_ret (results_row_tmp rfl _ _ (w.heap.size + 1) 43 _ _ _ rfl hr5'.out Tryz.underlying43 rfl di.out) rfl ⟨rfl, hb1.out.trans ((hb4.out.mono hb1.out.size).trans (hb5'.out.mono (by omega)))⟩
end Go.Proofs.YtfaojjleapenaabGreatDoor.wir.val
namespace Go.Proofs.YtfaojjleapenaabGreatDoor.wir.val
open Go.RowKit Go.YtfaojjleapenaabGreatDoor
set_option linter.unusedVariables false
end Go.Proofs.YtfaojjleapenaabGreatDoor.wir.val
namespace Go.Proofs.YtfaojjleapenaabGreatDoor.wir.val
open Go.RowKit Go.YtfaojjleapenaabGreatDoor
set_option linter.unusedVariables false
end Go.Proofs.YtfaojjleapenaabGreatDoor.wir.val

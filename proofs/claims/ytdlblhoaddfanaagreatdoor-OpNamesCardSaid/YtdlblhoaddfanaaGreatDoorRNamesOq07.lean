/- Texts that the row stands on, part 7. -/
import Derived.Test.YtdlblhoaddfanaaGreatDoorRNamesOq06
import Derived.Test.YtdlblhoaddfanaaGreatDoorTie
import Derived.LaidMore
import Derived.OpenVars
import Derived.Stop.Joined
import Derived.ChangeSlices
namespace Go.Proofs.YtdlblhoaddfanaaGreatDoor.wir.val
open Go.RowKit Go.YtdlblhoaddfanaaGreatDoor
set_option linter.unusedVariables false
def decPost (w : World) (l : List Int) (e : Ending) (w' : World) : Prop :=
  Below w.heap.size w w' ∧ ((decO l = none ∧ e = .returned (.tuple #[.agg (zO.c (.slice none 0 0)), .int .i64 12])) ∨
    ∃ (o : Od) (a : Option Addr) (c : Nat), decO l = some o ∧ e = .returned (.tuple #[.agg (o.c (.slice a o.n c)), .int .i64 0]) ∧ HeldI w.heap.size w' (.slice a o.n c) o.n o.F)
theorem decPost_eq {w w' : World} {l : List Int} {e e' : Ending} (h : decPost w l e w') (he : e' = e) : decPost w l e' w' := he ▸ h
theorem dec_no {l : List Int} (h : rOp l = none) : decO l = none := by unfold decO; rw [h]
theorem dec_rest {l m : List Int} {o : Od} (h : rOp l = some (o, m)) (hm : ¬ m.length = 0) : decO l = none := by unfold decO; rw [h]; simp only; rw [if_neg (fun x => hm x.1)]
theorem dec_chk {l m : List Int} {o : Od} (h : rOp l = some (o, m)) (hm : ¬ chkO o = 0) : decO l = none := by unfold decO; rw [h]; simp only; rw [if_neg (fun x => hm x.2)]
theorem dec_yes {l m : List Int} {o : Od} (h : rOp l = some (o, m)) (hm : m.length = 0) (hc : chkO o = 0) : decO l = some o := by unfold decO; rw [h]; simp only; rw [if_pos ⟨hm, hc⟩]
set_option maxHeartbeats 4000000 in
set_option maxRecDepth 100000 in
theorem opDecode_any (l : List Int) (bv : Value) (w : World) (hr : RdB w bv l) (hl : Bytes l) (hlm : l.length ≤ 1000000) :
    Calls Tryz.prog 38 #[bv] w (decPost w l) := by
  obtain ⟨ba, bc, rfl⟩ := hr.slice
  obtain ⟨W, hW⟩ : ∃ W, W = w.alloc (.cells (zO.c (.slice none 0 0)) 35) := ⟨_, rfl⟩
  have hB0 : Below w.heap.size w W := by rw [hW]; exact below_a w _
  have hrz : W.heap[w.heap.size]? = some (.cells (zO.c (.slice none 0 0)) 35 (0, 0)) := by rw [hW]; exact heap_alloc_new w _
  have hWs : W.heap.size = w.heap.size + 1 := by rw [hW]; simp
  have hb1 := below_a W (.cells #[.slice ba l.length bc, .bool false] 104)
  have hS : St w W.heap.size (W.alloc (.cells #[.slice ba l.length bc, .bool false] 104)) l false :=
    ⟨hB0.trans (hb1.mono hB0.size), hB0.size, ba, bc, hr, heap_alloc_new W _⟩
  have hO := Lib.hid (operation_rd hS hl hlm)
  have hrow1 := Lib.hid (rowB hrz hb1 (by omega))
  have hB1 := Lib.hid (hB0.trans (hb1.mono hB0.size))
  have hgs := Lib.hid (show w.heap.size < (W.alloc (.cells #[.slice ba l.length bc, .bool false] 104)).heap.size by simp; omega)
  have hgr := Lib.hid (show w.heap.size < W.heap.size by omega)
  clear hS hr hrz hB0 hb1 hl hlm
  go_enter Tryz.func38, Tryz.ntmps38
  go_upto_region 1 with fail
  change Code.wp _ _ _ _ (w.alloc (.cells (zO.c (.slice none 0 0)) 35))
  rw [← hW]
  clear hW hWs
  go_upto_region 2 with fail
  generalize W.alloc (.cells #[.slice ba l.length bc, .bool false] 104) = W1 at *
  generalize W.heap.size = g2 at *
  go_upto_region 3 with (go_at_call 70; (with_reducible refine (hO.out).mono ?_); rintro e w1 ⟨o, pa, pc, rfl, fo, hn4, hI, l', f', q1, q2, q3, q4, q5⟩; have fo := Lib.hid fo; have hn4 := Lib.hid hn4; have hI := Lib.hid hI; have q1 := Lib.hid q1; have q2 := Lib.hid q2; have q5 := Lib.hid q5)
  have hbz := below_a w1 (.cells (o.c (.slice pa o.n pc)) 35)
  have hl2 := Lib.hid (heap_alloc_new w1 (.cells (o.c (.slice pa o.n pc)) 35))
  have hI2 := Lib.hid (heldI_mono hI.out hbz)
  have hp2 := Lib.hid (hI2.out _ (fun _ _ _ => rfl) (Nat.le_refl _))
  obtain ⟨_, _, a', c', hrr, hrw⟩ := q1.out.kept hbz
  have hrw2 := Lib.hid hrw
  have hrow2 := Lib.hid (rowB (butRow q2.out hrow1.out (by have := hgr.out; omega)) hbz (Nat.lt_of_lt_of_le hgs.out q2.out.size))
  have hB2 := Lib.hid (show Below w.heap.size w (w1.alloc (.cells (o.c (.slice pa o.n pc)) 35)) from (hB1.out.grown q2.out (Nat.le_of_lt hgs.out) (fun k e => by have := Option.some.inj e; have := hgr.out; omega)).trans (hbz.mono (Nat.le_of_lt (Nat.lt_of_lt_of_le hgs.out q2.out.size))))
  clear hbz hrow1 hB1 q1 q2 hI hO hrr hrw
  change Code.wp _ _ _ _ (w1.alloc (.cells (o.c (.slice pa o.n pc)) 35))
  generalize w1.heap.size = g3 at *
  generalize w1.alloc (.cells (o.c (.slice pa o.n pc)) 35) = w2 at *
  have u0 : w2.cell? ⟨g2, 0, none⟩ = some (.slice a' l'.length c') := cell_of_row _ _ _ _ _ _ hrw2.out
  have u1 : w2.cell? ⟨g2, 1, none⟩ = some (.bool f') := cell_of_row _ _ _ _ _ _ hrw2.out
  have hC := Lib.hid (opCheck_any o fo.out (.slice pa o.n pc) w2 hp2.out)
  have hno : decO l = none → ∀ w9, Below w.heap.size w2 w9 → decPost w l (.returned (.tuple #[.agg (zO.c (.slice none 0 0)), .int .i64 12])) w9 := fun hd w9 hb9 => ⟨hB2.out.trans hb9, .inl ⟨hd, rfl⟩⟩
  have hno := Lib.hid hno
  cases f' with
  | true =>
    have hd : decO l = none := by
      rcases q5.out with ⟨_, h⟩ | ⟨h, _⟩
      · exact dec_no h
      · cases h
    have hno := Lib.hid (hno.out hd)
    clear hd q5 hC hp2 hI2 hl2
    go_wp2_with (refine storeOver _ w.heap.size _ rfl 35 _ _ rfl (zO.c (.slice none 0 0)) 35 hrow2.out rfl rfl info_op rfl (op_one zO _ _ _) ?_; intro w9 hr9 hb9; have hr9' := Lib.hid hr9; have hb9' := Lib.hid hb9; clear hr9 hb9)
    exact bodyPost_ret (results_row_tmp rfl _ _ w.heap.size 35 _ _ _ rfl hr9'.out Tryz.underlying35 rfl info_op) rfl (decPost_eq (hno.out _ hb9'.out) rfl)
  | false =>
    have hr : rOp l = some (o, l') := by
      rcases q5.out with ⟨h, _⟩ | ⟨_, h⟩
      · cases h
      · exact h
    by_cases hN : l'.length = 0
    · have i1 : decide ((0 : Int) < (l'.length : Int)) = false := decide_eq_false (by omega)
      have i2 : ¬ (0 : Int) < (l'.length : Int) := by omega
      have hd1 := Lib.hid (fun h => dec_chk hr h)
      have hd2 := Lib.hid (fun h => dec_yes hr hN h)
      have hNh := Lib.hid hN
      clear hr q5
      generalize l'.length = N at *
      by_cases h0 : chkO o = 0
      · have hyes := Lib.hid (fun (w9 : World) (hb9 : Below w.heap.size w2 w9) (h9 : HeldI w.heap.size w9 (.slice pa o.n pc) o.n o.F) => (show decPost w l (.returned (.tuple #[.agg (o.c (.slice pa o.n pc)), .int .i64 0])) w9 from ⟨hB2.out.trans hb9, .inr ⟨o, pa, pc, hd2.out h0, rfl, h9⟩⟩))
        rw [h0] at hC
        clear hd1 hd2 h0 hno
        have hN0 : N = 0 := hNh.out
        subst hN0
        go_wp2_with (first
          | (refine wpList_load_row_g rfl 35 _ rfl g3 rfl 35 (o.c (.slice pa o.n pc)) (0, 0) _ hl2.out Tryz.underlying35 rfl info_op ?_)
          | (go_at_call 42; (with_reducible refine (hC.out).mono ?_); rintro e w3 ⟨rfl, h3⟩; have hb3 := Lib.hid h3; have hl3 := Lib.hid (rowB hl2.out h3 (Array.getElem?_eq_some_iff.1 hl2.out).1); have hrow3 := Lib.hid (rowB hrow2.out h3 (Array.getElem?_eq_some_iff.1 hrow2.out).1); clear h3)
          | (refine wpList_load_row_g rfl 35 _ rfl g3 rfl 35 (o.c (.slice pa o.n pc)) (0, 0) _ hl3.out Tryz.underlying35 rfl info_op ?_)
          | (refine wpList_store_row rfl 35 _ _ rfl w.heap.size (o.c (.slice pa o.n pc)) rfl rfl 35 _ hrow3.out info_op rfl (op_one o pa o.n pc) ?_; have hr9 := Lib.hid (setRow_heap _ _ _ (o.c (.slice pa o.n pc)) _ _ hrow3.out); have hb9 := Lib.hid (below_setRow' (B := w.heap.size) (g := w.heap.size) (Below.refl _ w3) (Nat.le_refl _) (o.c (.slice pa o.n pc)))))
        exact bodyPost_ret (results_row_tmp rfl _ _ w.heap.size 35 _ _ _ rfl hr9.out Tryz.underlying35 rfl info_op) rfl (decPost_eq (hyes.out _ ((hb3.out.mono hB2.out.size).trans hb9.out) (heldI_lower (heldI_setRow (heldI_mono hI2.out hb3.out) hgs.out _) (Nat.le_of_lt hgs.out))) rfl)
      · have hx : (chkO o != 0) = true := by simpa using h0
        have hno := Lib.hid (hno.out (hd1.out h0))
        generalize chkO o = E at *
        clear hd1 hd2 h0
        have hN0 : N = 0 := hNh.out
        subst hN0
        go_wp2_with (first
          | (refine wpList_load_row_g rfl 35 _ rfl g3 rfl 35 (o.c (.slice pa o.n pc)) (0, 0) _ hl2.out Tryz.underlying35 rfl info_op ?_)
          | (go_at_call 42; (with_reducible refine (hC.out).mono ?_); rintro e w3 ⟨rfl, h3⟩; have hb3 := Lib.hid h3; have hrow3 := Lib.hid (rowB hrow2.out h3 (Array.getElem?_eq_some_iff.1 hrow2.out).1); clear h3)
          | (refine storeOver _ w.heap.size _ rfl 35 _ _ rfl (zO.c (.slice none 0 0)) 35 hrow3.out rfl rfl info_op rfl (op_one zO _ _ _) ?_; intro w9 hr9 hb9; have hr9' := Lib.hid hr9; have hb9' := Lib.hid hb9; clear hr9 hb9))
        exact bodyPost_ret (results_row_tmp rfl _ _ w.heap.size 35 _ _ _ rfl hr9'.out Tryz.underlying35 rfl info_op) rfl (decPost_eq (hno.out _ ((hb3.out.mono hB2.out.size).trans hb9'.out)) rfl)
    · have hno := Lib.hid (hno.out (dec_rest hr hN))
      clear hr q5 hC hp2 hI2 hl2
      generalize l'.length = N at *
      have i1 : decide ((0 : Int) < (N : Int)) = true := decide_eq_true (by omega)
      have i2 : (0 : Int) < (N : Int) := by omega
      go_wp2_with (refine storeOver _ w.heap.size _ rfl 35 _ _ rfl (zO.c (.slice none 0 0)) 35 hrow2.out rfl rfl info_op rfl (op_one zO _ _ _) ?_; intro w9 hr9 hb9; have hr9' := Lib.hid hr9; have hb9' := Lib.hid hb9; clear hr9 hb9)
      exact bodyPost_ret (results_row_tmp rfl _ _ w.heap.size 35 _ _ _ rfl hr9'.out Tryz.underlying35 rfl info_op) rfl (decPost_eq (hno.out _ hb9'.out) rfl)
end Go.Proofs.YtdlblhoaddfanaaGreatDoor.wir.val
namespace Go.Proofs.YtdlblhoaddfanaaGreatDoor.wir.val
open Go.RowKit Go.YtdlblhoaddfanaaGreatDoor
set_option linter.unusedVariables false
/-- The verdict on bytes. -/
def vd (l : List Int) : Int := if 400 < l.length then 3 else match decO l with
  | none => 2
  | some o => if verO o = 0 then 0 else 4
end Go.Proofs.YtdlblhoaddfanaaGreatDoor.wir.val
namespace Go.Proofs.YtdlblhoaddfanaaGreatDoor.wir.val
open Go.RowKit Go.YtdlblhoaddfanaaGreatDoor
set_option linter.unusedVariables false
theorem bytes_zeros (n : Nat) : Bytes (zerosB n) := fun i => by
  unfold ith zerosB
  rw [List.getElem?_replicate]
  split <;> simp
end Go.Proofs.YtdlblhoaddfanaaGreatDoor.wir.val
namespace Go.Proofs.YtdlblhoaddfanaaGreatDoor.wir.val
open Go.RowKit Go.YtdlblhoaddfanaaGreatDoor
set_option linter.unusedVariables false
/-- What is decoded of an operation's bytes. -/
theorem dec_enc (o : Od) (fo : o.Fit) (hF : o.F.length = 32 * o.n) (h0 : chkO o = 0) (bv : Value) (w : World) (hr : RdB w bv (encO o)) :
    Calls Tryz.prog 38 #[bv] w fun e w' => ∃ (a : Option Addr) (c : Nat), e = .returned (.tuple #[.agg (o.c (.slice a o.n c)), .int .i64 0]) ∧ HeldI w.heap.size w' (.slice a o.n c) o.n o.F ∧ Below w.heap.size w w' := by
  obtain ⟨h1, h2, h3⟩ := chk_zero h0
  refine (opDecode_any (encO o) bv w hr (encO_bytes o fo h1 h3) (Nat.le_trans (encO_short o fo h1 hF h3) (by decide))).mono ?_
  rintro e w' ⟨hb, hq⟩
  rw [decO_enc fo hF h0] at hq
  rcases hq with ⟨hq, _⟩ | ⟨p, a, c, hq, he, hi⟩
  · cases hq
  · obtain rfl := Option.some.inj hq
    exact ⟨a, c, he, hi, hb⟩
theorem dec_none (l : List Int) (hl : Bytes l) (hlm : l.length ≤ 1000000) (hd : decO l = none) (bv : Value) (w : World) (hr : RdB w bv l) :
    Calls Tryz.prog 38 #[bv] w fun e w' => e = .returned (.tuple #[.agg (zO.c (.slice none 0 0)), .int .i64 12]) ∧ Below w.heap.size w w' := by
  refine (opDecode_any l bv w hr hl hlm).mono ?_
  rintro e w' ⟨hb, hq⟩
  rw [hd] at hq
  rcases hq with ⟨_, he⟩ | ⟨p, a, c, hq, _⟩
  · exact ⟨he, hb⟩
  · cases hq
end Go.Proofs.YtdlblhoaddfanaaGreatDoor.wir.val
namespace Go.Proofs.YtdlblhoaddfanaaGreatDoor.wir.val.top
open Go.RowKit Go.YtdlblhoaddfanaaGreatDoor
set_option linter.unusedVariables false
theorem heldI_nowT {B : Nat} {w : World} {v : Value} {n : Nat} {F : List Int} (h : HeldI B w v n F) : RdI w v n F := h w (fun _ _ _ => rfl) (Nat.le_refl _)
/-- Bytes of an operation without the last one are of none. -/
theorem dec_cut {T : Od} (fT : T.Fit) (hF : T.F.length = 32 * T.n) (hc : chkO T = 0) : decO ((encO T).take ((encO T).length - 1)) = none := by
  obtain ⟨h1, h2, h3⟩ := chk_zero hc
  have hb := encO_bytes T fT h1 h3
  cases hd : decO ((encO T).take ((encO T).length - 1)) with
  | none => rfl
  | some p =>
    exfalso
    obtain ⟨e1, fp, cp, lp⟩ := decO_back (bytes_take _ _ hb) hd
    obtain ⟨g1, g2, g3⟩ := chk_zero cp
    have hpos : 1 ≤ (encO T).length := by
      have h := encO_parts T []
      rw [List.append_nil] at h
      rw [h]; simp
    have hsplit : encO p ++ (encO T).drop ((encO T).length - 1) = encO T ++ [] := by rw [e1, List.take_append_drop, List.append_nil]
    have r1 := rOp_enc fp g1 lp g2 g3 ((encO T).drop ((encO T).length - 1))
    rw [hsplit, rOp_enc fT h1 hF h2 h3 []] at r1
    have h4 := congrArg (fun x : Option (Od × List Int) => (x.map (fun q => q.2.length)).getD 0) r1
    simp at h4
    omega
def xO : Od := ⟨0, 0, [], 1, 3, ⟨#[120]⟩, ⟨0, 0, 0, ⟨#[]⟩⟩, 0, 0⟩
end Go.Proofs.YtdlblhoaddfanaaGreatDoor.wir.val.top
namespace Go.Proofs.YtdlblhoaddfanaaGreatDoor.wir.val.top
open Go.RowKit Go.YtdlblhoaddfanaaGreatDoor
set_option linter.unusedVariables false
set_option linter.unusedSectionVars false
structure At where
  k : Int
  key : ByteArray
  v : Va
abbrev At.c (t : At) : Array Value := aC t.k t.key t.v
abbrev At.o (t : At) : Od := wO t.k t.key t.v
def At.fitB (t : At) : Bool := decide (0 ≤ t.k ∧ t.k < 256) && (decide (t.key.size ≤ 1000000) && (decide (0 ≤ t.v.k ∧ t.v.k < 256) && (decide (-9223372036854775808 ≤ t.v.n ∧ t.v.n ≤ 9223372036854775807) && (decide (t.v.b < 18446744073709551616) && decide (t.v.s.size ≤ 1000000)))))
theorem At.fit {t : At} (h : t.fitB = true) : t.v.fit ∧ t.key.size ≤ 1000000 ∧ t.o.Fit := by
  unfold At.fitB at h
  simp only [Bool.and_eq_true, decide_eq_true_eq] at h
  obtain ⟨h1, h2, h3, h4, h5, h6⟩ := h
  exact ⟨⟨h3, h4, h5, h6⟩, h2, ⟨(show 4 < 4294967296 by decide), bytes_nil, Nat.zero_le _, (show 7 < 18446744073709551616 by decide), h1, h2, ⟨h3, h4, h5, h6⟩, (show 5 < 4294967296 by decide), (show 6 < 4294967296 by decide)⟩⟩
def v0 : Va := ⟨0, 0, 0, ⟨#[]⟩⟩
def v1 : Va := ⟨1, 1, 0, ⟨#[]⟩⟩
def fines : List At := [⟨1, ⟨#[]⟩, v0⟩, ⟨2, ⟨#[33]⟩, v0⟩, ⟨3, ⟨#[49, 50, 51, 52, 53, 54, 55, 56, 57, 48, 49, 50, 51, 52, 53, 54, 55, 56, 57, 48]⟩, v0⟩, ⟨4, ⟨#[126]⟩, v1⟩, ⟨4, ⟨#[114]⟩, ⟨3, 0, 0, ⟨#[]⟩⟩⟩]
def bdA : List At := [⟨0, ⟨#[]⟩, v0⟩, ⟨5, ⟨#[]⟩, v0⟩, ⟨1, ⟨#[97]⟩, v0⟩, ⟨1, ⟨#[]⟩, v1⟩, ⟨2, ⟨#[]⟩, v0⟩, ⟨2, ⟨#[32]⟩, v0⟩, ⟨2, ⟨#[97, 32, 98]⟩, v0⟩, ⟨3, ⟨#[49, 50, 51, 52, 53, 54, 55, 56, 57, 48, 49, 50, 51, 52, 53, 54, 55, 56, 57, 48, 49]⟩, v0⟩, ⟨2, ⟨#[97]⟩, v1⟩, ⟨4, ⟨#[97]⟩, v0⟩, ⟨4, ⟨#[]⟩, v1⟩, ⟨4, ⟨#[97]⟩, ⟨9, 0, 0, ⟨#[]⟩⟩⟩, ⟨3, ⟨#[127]⟩, v0⟩]
theorem fines_all : fines.all (fun t => t.fitB && actB t.k t.key t.v) = true := by decide +kernel
theorem bdA_all : bdA.all (fun t => t.fitB && !actB t.k t.key t.v) = true := by decide +kernel
def nthA (S : List At) (i : Nat) : At := S[i]?.getD ⟨0, ⟨#[]⟩, v0⟩
theorem nthA_mem {S : List At} {i : Nat} (hi : i < S.length) : nthA S i ∈ S := by
  unfold nthA
  rw [List.getElem?_eq_getElem hi]
  exact List.getElem_mem hi
theorem fines_at (i : Nat) (hi : i < 5) : (nthA fines i).fitB = true ∧ actB (nthA fines i).k (nthA fines i).key (nthA fines i).v = true := by
  have h := List.all_eq_true.1 fines_all _ (nthA_mem (S := fines) hi)
  simpa using h
theorem bdA_at (i : Nat) (hi : i < 13) : (nthA bdA i).fitB = true ∧ actB (nthA bdA i).k (nthA bdA i).key (nthA bdA i).v = false := by
  have h := List.all_eq_true.1 bdA_all _ (nthA_mem (S := bdA) hi)
  simpa using h
theorem nilI (w : World) : RdI w (.slice none 0 0) 0 [] := .inl ⟨none, 0, rfl, fun _ => rfl, rfl, rfl⟩
/-- An operation with an act that is not valid. -/
theorem chk8 {o : Od} (hn : ¬ 4 < o.n) (hr : riseF o.F o.n = true) (h : actB o.k o.key o.v = false) : chkO o = 8 := by
  unfold chkO okO
  rw [if_neg hn, if_pos hr, h]
  simp
section
variable {t : At} (hf : t.fitB = true) (hb : actB t.k t.key t.v = false) (w : World)
include hf hb
theorem bd_act : Calls Tryz.prog 39 #[.agg t.c] w fun e w' => e = .returned (.int .i64 8) ∧ Below w.heap.size w w' := by
  have h := checkAct_any t.k t.key t.v (At.fit hf).1 (At.fit hf).2.1 w
  rw [show actE t.k t.key t.v = 8 by unfold actE; rw [hb]; rfl] at h
  exact h
theorem bd_chk : Calls Tryz.prog 42 #[.agg (t.o.c (.slice none 0 0))] w fun e w' => e = .returned (.int .i64 8) ∧ Below w.heap.size w w' := by
  have h := opCheck_any t.o (At.fit hf).2.2 (.slice none 0 0) w (nilI w)
  rw [chk8 (o := t.o) (by show ¬ 4 < 0; decide) rfl hb] at h
  exact h
theorem bd_msg : Calls Tryz.prog 40 #[.agg (t.o.c (.slice none 0 0))] w fun e w' => e = .returned (.tuple #[.slice none 0 0, .int .i64 8]) ∧ Below w.heap.size w w' := by
  have h := opMessage_any t.o (At.fit hf).2.2 (.slice none 0 0) w (nilI w)
  have hc : chkO t.o.bare = 8 := chk8 (by show ¬ 4 < 0; decide) rfl hb
  rw [hc] at h
  exact h.mono fun e w' h => by rw [if_neg (by decide)] at h; exact h
theorem bd_enc : Calls Tryz.prog 36 #[.agg (t.o.c (.slice none 0 0))] w fun e w' => e = .returned (.tuple #[.slice none 0 0, .int .i64 8]) ∧ Below w.heap.size w w' := by
  have hc : chkO t.o = 8 := chk8 (by show ¬ 4 < 0; decide) rfl hb
  have h := opEncode_bad t.o (At.fit hf).2.2 (.slice none 0 0) w (nilI w) (by rw [hc]; decide)
  rw [hc] at h
  exact h
theorem bd_id : Calls Tryz.prog 10 #[.agg (t.o.c (.slice none 0 0))] w fun e w' => e = .returned (.tuple #[.agg (u8s (zerosB 32)), .int .i64 8]) ∧ Below w.heap.size w w' := by
  have hc : chkO t.o = 8 := chk8 (by show ¬ 4 < 0; decide) rfl hb
  have h := opID_bad t.o (At.fit hf).2.2 (.slice none 0 0) w (nilI w) (by rw [hc]; decide)
  rw [hc] at h
  exact h
theorem bd_sign : Calls Tryz.prog 41 #[.int .u32 2, .agg (t.o.c (.slice none 0 0))] w fun e w' => e = .returned (.tuple #[.agg (zO.c (.slice none 0 0)), .int .i64 8]) ∧ Below w.heap.size w w' := by
  have hc : chkO (t.o.byA (grp.pw 4 2)).bare = 8 := chk8 (by show ¬ 4 < 0; decide) rfl hb
  have h := opSign_bad 2 ⟨by decide, by decide⟩ t.o (At.fit hf).2.2 (.slice none 0 0) w (nilI w) (by rw [hc]; decide)
  rw [hc] at h
  exact h
theorem bd_ver (hG : GlobW w) : Calls Tryz.prog 19 #[.agg (t.o.c (.slice none 0 0))] w fun e w' => e = .returned (.int .i64 8) ∧ Below w.heap.size w w' := by
  have hc : chkO t.o = 8 := chk8 (by show ¬ 4 < 0; decide) rfl hb
  have h := opVerify_any t.o (At.fit hf).2.2 (.slice none 0 0) w (nilI w) hG
  rw [show verO t.o = 8 by unfold verO; rw [hc]; rfl] at h
  exact h
end
section
variable {t : At} (hf : t.fitB = true) (hb : actB t.k t.key t.v = true)
include hf hb
theorem fi_chk0 : chkO t.o = 0 := chk_ok (show ¬ 4 < 0 by decide) rfl (by
  unfold okO
  have h : actB (At.o t).k (At.o t).key (At.o t).v = true := hb
  have h2 : grp.inG (At.o t).au = true := grp.in4
  rw [h, h2]
  show (true && (decide ((7 : Int) ≤ 1000000000000) && (true && sigB 5 6))) = true
  decide)
theorem fi_act (w : World) : Calls Tryz.prog 39 #[.agg t.c] w fun e w' => e = .returned (.int .i64 0) ∧ Below w.heap.size w w' := by
  have h := checkAct_any t.k t.key t.v (At.fit hf).1 (At.fit hf).2.1 w
  rw [show actE t.k t.key t.v = 0 by unfold actE; rw [hb]; rfl] at h
  exact h
theorem fi_enc (w : World) : Calls Tryz.prog 36 #[.agg (t.o.c (.slice none 0 0))] w fun e w' => ∃ a c, e = .returned (.tuple #[.slice a (encO t.o).length c, .int .i64 0]) ∧ OwnB w.heap.size 5 w' (.slice a (encO t.o).length c) (encO t.o) ∧ Below w.heap.size w w' :=
  (opEncode_ok t.o (At.fit hf).2.2 (.slice none 0 0) w (nilI w) (fi_chk0 hf hb)).mono fun e w' ⟨sv, h1, h2, h3⟩ => by
    obtain ⟨a, c, hv⟩ := h2.rd.slice
    subst hv
    exact ⟨a, c, h1, h2, h3⟩
theorem fi_len : 0 < (encO t.o).length ∧ (encO t.o).length ≤ 400 ∧ Bytes (encO t.o) := by
  refine ⟨?_, encO_short t.o (At.fit hf).2.2 (by show 0 ≤ 4; decide) rfl hb, encO_bytes t.o (At.fit hf).2.2 (by show 0 ≤ 4; decide) hb⟩
  have h := encO_parts t.o []
  rw [List.append_nil] at h
  rw [h]; simp
theorem fi_dec (bv : Value) (w : World) (hr : RdB w bv (encO t.o)) : Calls Tryz.prog 38 #[bv] w fun e w' => ∃ (a : Option Addr) (c : Nat), e = .returned (.tuple #[.agg (t.o.c (.slice a 0 c)), .int .i64 0]) ∧ RdI w' (.slice a 0 c) 0 [] ∧ Below w.heap.size w w' :=
  (dec_enc t.o (At.fit hf).2.2 rfl (fi_chk0 hf hb) bv w hr).mono fun e w' ⟨a, c, h1, h2, h3⟩ => ⟨a, c, h1, heldI_nowT h2, h3⟩
theorem fi_same (pv qv : Value) (w : World) (h1 : RdI w pv 0 []) (h2 : RdI w qv 0 []) : Calls Tryz.prog 32 #[.agg (t.o.c pv), .agg (t.o.c qv)] w fun e w' => e = .returned (.bool true) ∧ Below w.heap.size w w' :=
  sameO_yes t.o (by show 0 ≤ 20; decide) pv qv w h1 h2
theorem dec_none {l : List Int} (hd : decO l = none) (hl : Bytes l) (hm : l.length ≤ 1000000) (bv : Value) (w : World) (hr : RdB w bv l) : Calls Tryz.prog 38 #[bv] w fun e w' => e = .returned (.tuple #[.agg (zO.c (.slice none 0 0)), .int .i64 12]) ∧ Below w.heap.size w w' :=
  (opDecode_any l bv w hr hl hm).mono fun e w' ⟨h1, h2⟩ => by
    rcases h2 with ⟨_, h3⟩ | ⟨o, a, c, h3, _⟩
    · exact ⟨h3, h1⟩
    · rw [hd] at h3; cases h3
theorem fi_cut : decO ((encO t.o).take ((encO t.o).length - 1)) = none := dec_cut (At.fit hf).2.2 rfl (fi_chk0 hf hb)
theorem fi_more : decO (encO t.o ++ [0]) = none := dec_rest (rOp_enc (At.fit hf).2.2 (by show 0 ≤ 4; decide) rfl rfl hb [0]) (by simp)
end
end Go.Proofs.YtdlblhoaddfanaaGreatDoor.wir.val.top
namespace Go.Proofs.YtdlblhoaddfanaaGreatDoor.wir.val.top
open Go.RowKit Go.YtdlblhoaddfanaaGreatDoor
set_option linter.unusedVariables false
theorem with_at (t : At) (w : World) : Calls Tryz.prog 37 #[.agg t.c] w fun e w' => e = .returned (.agg (t.o.c (.slice none 0 0))) ∧ Below w.heap.size w w' := with_any t.k t.key t.v w
structure Fine (C : Array Value) (o : Od) (n : Nat) (B : List Int) : Prop where
  six : C.toList.length = 6
  len : B.length = n
  pos : 0 < n
  most : n ≤ 400
  byt : Bytes B
  wit : ∀ wz, Calls Tryz.prog 37 #[.agg C] wz fun e w' => e = .returned (.agg (o.c (.slice none 0 0))) ∧ Below wz.heap.size wz w'
  act : ∀ wz, Calls Tryz.prog 39 #[.agg C] wz fun e w' => e = .returned (.int .i64 0) ∧ Below wz.heap.size wz w'
  enc : ∀ wz, Calls Tryz.prog 36 #[.agg (o.c (.slice none 0 0))] wz fun e w' => ∃ a c, e = .returned (.tuple #[.slice a n c, .int .i64 0]) ∧ OwnB wz.heap.size 5 w' (.slice a n c) B ∧ Below wz.heap.size wz w'
  dec : ∀ bv wz, RdB wz bv B → Calls Tryz.prog 38 #[bv] wz fun e w' => ∃ (a : Option Addr) (c : Nat), e = .returned (.tuple #[.agg (o.c (.slice a 0 c)), .int .i64 0]) ∧ RdI w' (.slice a 0 c) 0 [] ∧ Below wz.heap.size wz w'
  same : ∀ pv qv wz, RdI wz pv 0 [] → RdI wz qv 0 [] → Calls Tryz.prog 32 #[.agg (o.c pv), .agg (o.c qv)] wz fun e w' => e = .returned (.bool true) ∧ Below wz.heap.size wz w'
  cut : ∀ bv wz, RdB wz bv (B.take (n - 1)) → Calls Tryz.prog 38 #[bv] wz fun e w' => e = .returned (.tuple #[.agg (zO.c (.slice none 0 0)), .int .i64 12]) ∧ Below wz.heap.size wz w'
  more : ∀ bv wz, RdB wz bv (B ++ [0]) → Calls Tryz.prog 38 #[bv] wz fun e w' => e = .returned (.tuple #[.agg (zO.c (.slice none 0 0)), .int .i64 12]) ∧ Below wz.heap.size wz w'
theorem fine_pack (i : Nat) (hi : i < 5) : ∃ o n B, Fine (nthA fines i).c o n B := by
  obtain ⟨hf, hb⟩ := fines_at i hi
  generalize nthA fines i = t at *
  obtain ⟨h1, h2, h3⟩ := fi_len hf hb
  refine ⟨t.o, (encO t.o).length, encO t.o, rfl, rfl, h1, h2, h3, with_at t, fi_act hf hb, fi_enc hf hb, fi_dec hf hb, fi_same hf hb, fun bv wz hr => ?_, fun bv wz hr => ?_⟩
  · exact dec_none hf hb (fi_cut hf hb) (bytes_take _ _ h3) (by rw [List.length_take]; omega) bv wz hr
  · exact dec_none hf hb (fi_more hf hb) (bytes_append _ _ h3 (bytes_zeros 1)) (by rw [List.length_append]; show _ + 1 ≤ _; omega) bv wz hr
structure Bad (C : Array Value) (o : Od) : Prop where
  six : C.toList.length = 6
  wit : ∀ wz, Calls Tryz.prog 37 #[.agg C] wz fun e w' => e = .returned (.agg (o.c (.slice none 0 0))) ∧ Below wz.heap.size wz w'
  act : ∀ wz, Calls Tryz.prog 39 #[.agg C] wz fun e w' => e = .returned (.int .i64 8) ∧ Below wz.heap.size wz w'
  chk : ∀ wz, Calls Tryz.prog 42 #[.agg (o.c (.slice none 0 0))] wz fun e w' => e = .returned (.int .i64 8) ∧ Below wz.heap.size wz w'
  msg : ∀ wz, Calls Tryz.prog 40 #[.agg (o.c (.slice none 0 0))] wz fun e w' => e = .returned (.tuple #[.slice none 0 0, .int .i64 8]) ∧ Below wz.heap.size wz w'
  enc : ∀ wz, Calls Tryz.prog 36 #[.agg (o.c (.slice none 0 0))] wz fun e w' => e = .returned (.tuple #[.slice none 0 0, .int .i64 8]) ∧ Below wz.heap.size wz w'
  idn : ∀ wz, Calls Tryz.prog 10 #[.agg (o.c (.slice none 0 0))] wz fun e w' => e = .returned (.tuple #[.agg (u8s (zerosB 32)), .int .i64 8]) ∧ Below wz.heap.size wz w'
  sgn : ∀ wz, Calls Tryz.prog 41 #[.int .u32 2, .agg (o.c (.slice none 0 0))] wz fun e w' => e = .returned (.tuple #[.agg (zO.c (.slice none 0 0)), .int .i64 8]) ∧ Below wz.heap.size wz w'
  ver : ∀ wz, GlobW wz → Calls Tryz.prog 19 #[.agg (o.c (.slice none 0 0))] wz fun e w' => e = .returned (.int .i64 8) ∧ Below wz.heap.size wz w'
theorem bad_pack (i : Nat) (hi : i < 13) : ∃ o, Bad (nthA bdA i).c o := by
  obtain ⟨hf, hb⟩ := bdA_at i hi
  generalize nthA bdA i = t at *
  exact ⟨t.o, rfl, with_at t, bd_act hf hb, bd_chk hf hb, bd_msg hf hb, bd_enc hf hb, bd_id hf hb, bd_sign hf hb, bd_ver hf hb⟩
/-- A row of acts. -/
def RdA (w : World) (g : Nat) (S : List At) : Prop := g < w.heap.size ∧ ∀ i, i < S.length → w.rangeAt g (i * 6) (nthA S i).c.toList
theorem range_belowO {w w' : World} {b o : Nat} {cs : List Value} (hr : w.rangeAt b o cs) (hb : b < w.heap.size) (h : Below w.heap.size w w') : w'.rangeAt b o cs :=
  fun j v hv => (h.cell (p := (⟨b, o + j, none⟩ : Addr)) hb).trans (hr j v hv)
theorem RdA.mono {w w' : World} {g : Nat} {S : List At} (h : RdA w g S) (hb : Below w.heap.size w w') : RdA w' g S :=
  ⟨Nat.lt_of_lt_of_le h.1 hb.size, fun i hi => range_belowO (h.2 i hi) h.1 hb⟩
theorem rdA_fines {w : World} {g : Nat} (hg : w.heap[g]? = some (.cells #[.int .u8 1, .string ⟨#[]⟩, .int .u8 0, .int .i64 0, .int .u64 0, .string ⟨#[]⟩, .int .u8 2, .string ⟨#[33]⟩, .int .u8 0, .int .i64 0, .int .u64 0, .string ⟨#[]⟩,
    .int .u8 3, .string ⟨#[49, 50, 51, 52, 53, 54, 55, 56, 57, 48, 49, 50, 51, 52, 53, 54, 55, 56, 57, 48]⟩, .int .u8 0, .int .i64 0, .int .u64 0, .string ⟨#[]⟩, .int .u8 4, .string ⟨#[126]⟩, .int .u8 1, .int .i64 1, .int .u64 0, .string ⟨#[]⟩,
    .int .u8 4, .string ⟨#[114]⟩, .int .u8 3, .int .i64 0, .int .u64 0, .string ⟨#[]⟩] 31 (0, 0))) : RdA w g fines := by
  refine ⟨(Array.getElem?_eq_some_iff.1 hg).1, fun i hi => ?_⟩
  match i, hi with
  | 0, _ => exact range_rowO hg (0 * 6) _ rfl
  | 1, _ => exact range_rowO hg (1 * 6) _ rfl
  | 2, _ => exact range_rowO hg (2 * 6) _ rfl
  | 3, _ => exact range_rowO hg (3 * 6) _ rfl
  | 4, _ => exact range_rowO hg (4 * 6) _ rfl
  | i + 5, hi => exact absurd hi (by show ¬ i + 5 < 5; omega)
end Go.Proofs.YtdlblhoaddfanaaGreatDoor.wir.val.top
namespace Go.Proofs.YtdlblhoaddfanaaGreatDoor.wir.val.top
open Go.RowKit Go.YtdlblhoaddfanaaGreatDoor
set_option linter.unusedVariables false
def idsO : List Int := [1, 0, 0, 0, 0, 0, 0, 0, 0, 0, 0, 0, 0, 0, 0, 0, 0, 0, 0, 0, 0, 0, 0, 0, 0, 0, 0, 0, 0, 0, 0, 0, 1, 0, 0, 0, 0, 0, 0, 0, 0, 0, 0, 0, 0, 0, 0, 0, 0, 0, 0, 0, 0, 0, 0, 0, 0, 0, 0, 0, 0, 0, 0, 0]
def manyO : Od := ⟨4, 5, zerosB 160, 7, 2, ⟨#[97]⟩, ⟨0, 0, 0, ⟨#[]⟩⟩, 5, 6⟩
def twiceO : Od := ⟨4, 2, idsO, 7, 2, ⟨#[97]⟩, ⟨0, 0, 0, ⟨#[]⟩⟩, 5, 6⟩
def lateO : Od := ⟨4, 0, [], 1000000000001, 2, ⟨#[97]⟩, ⟨0, 0, 0, ⟨#[]⟩⟩, 5, 6⟩
def wideO : Od := ⟨4, 0, [], 7, 2, ⟨#[97]⟩, ⟨0, 0, 0, ⟨#[]⟩⟩, 5, 500000003⟩
def changedO : Od := ⟨4, 0, [], 8, 2, ⟨#[97]⟩, ⟨0, 0, 0, ⟨#[]⟩⟩, 5, 6⟩
theorem bytes_of_all {l : List Int} (h : l.all (fun x => decide (0 ≤ x ∧ x < 256)) = true) : Bytes l := by
  intro i
  unfold ith
  cases hx : l[i]? with
  | none => simp
  | some x =>
    have := List.all_eq_true.1 h x (List.mem_of_getElem? hx)
    simpa using this
theorem bytes_idsO : Bytes idsO := bytes_of_all (by decide +kernel)
theorem many_fit : manyO.Fit := ⟨by decide, bytes_zeros 160, by decide, by decide, by decide, by decide, ⟨by decide, by decide, by decide, by decide⟩, by decide, by decide⟩
theorem twice_fit : twiceO.Fit := ⟨by decide, bytes_idsO, by decide, by decide, by decide, by decide, ⟨by decide, by decide, by decide, by decide⟩, by decide, by decide⟩
theorem late_fit : lateO.Fit := ⟨by decide, bytes_nil, by decide, by decide, by decide, by decide, ⟨by decide, by decide, by decide, by decide⟩, by decide, by decide⟩
theorem wide_fit : wideO.Fit := ⟨by decide, bytes_nil, by decide, by decide, by decide, by decide, ⟨by decide, by decide, by decide, by decide⟩, by decide, by decide⟩
theorem changed_fit : changedO.Fit := ⟨by decide, bytes_nil, by decide, by decide, by decide, by decide, ⟨by decide, by decide, by decide, by decide⟩, by decide, by decide⟩
theorem chk_many {o : Od} (h : 4 < o.n) : chkO o = 4 := by unfold chkO; rw [if_pos h]
theorem chk_twice {o : Od} (h : ¬ 4 < o.n) (h2 : riseF o.F o.n = false) : chkO o = 32 := by unfold chkO; rw [if_neg h, if_neg (by rw [h2]; decide)]
theorem chk_eight {o : Od} (h : ¬ 4 < o.n) (h2 : riseF o.F o.n = true) (h3 : okO o = false) : chkO o = 8 := by unfold chkO; rw [if_neg h, if_pos h2, if_neg (by rw [h3]; decide)]
theorem rise_ids : riseF idsO 2 = false := by decide +kernel
theorem late_chk : chkO lateO = 8 := chk_eight (show ¬ 4 < 0 by decide) rfl (by
  unfold okO
  rw [show grp.inG lateO.au = true from grp.in4]
  rw [show decide ((lateO.st : Int) ≤ 1000000000000) = false by decide]
  rfl)
theorem wide_chk : chkO wideO = 8 := chk_eight (show ¬ 4 < 0 by decide) rfl (by
  unfold okO
  rw [show grp.inG wideO.au = true from grp.in4, show sigB (wideO.e : Int) (wideO.s : Int) = false by decide, Bool.and_false, Bool.and_false, Bool.and_false])
theorem changed_chk : chkO changedO = 0 := chk_ok (show ¬ 4 < 0 by decide) rfl (okO_of changedO grp.in4 (show (decide ((8 : Int) ≤ 1000000000000) && actB gO.k gO.key gO.v) = true by rw [gO_act]; decide) gO_sig)
theorem ck_many (pv : Value) (w : World) (hp : RdI w pv 5 (zerosB 160)) : Calls Tryz.prog 42 #[.agg (manyO.c pv)] w fun e w' => e = .returned (.int .i64 4) ∧ Below w.heap.size w w' := by
  have h := opCheck_any manyO many_fit pv w hp
  rw [chk_many (o := manyO) (show 4 < 5 by decide)] at h
  exact h
theorem ck_twice (pv : Value) (w : World) (hp : RdI w pv 2 idsO) : Calls Tryz.prog 42 #[.agg (twiceO.c pv)] w fun e w' => e = .returned (.int .i64 32) ∧ Below w.heap.size w w' := by
  have h := opCheck_any twiceO twice_fit pv w hp
  rw [chk_twice (o := twiceO) (show ¬ 4 < 2 by decide) rise_ids] at h
  exact h
theorem ck_late (w : World) : Calls Tryz.prog 42 #[.agg (lateO.c (.slice none 0 0))] w fun e w' => e = .returned (.int .i64 8) ∧ Below w.heap.size w w' := by
  have h := opCheck_any lateO late_fit (.slice none 0 0) w (nilI w)
  rw [late_chk] at h
  exact h
theorem ck_wide (w : World) : Calls Tryz.prog 42 #[.agg (wideO.c (.slice none 0 0))] w fun e w' => e = .returned (.int .i64 8) ∧ Below w.heap.size w w' := by
  have h := opCheck_any wideO wide_fit (.slice none 0 0) w (nilI w)
  rw [wide_chk] at h
  exact h
theorem vf_wide (w : World) (hG : GlobW w) : Calls Tryz.prog 19 #[.agg (wideO.c (.slice none 0 0))] w fun e w' => e = .returned (.int .i64 8) ∧ Below w.heap.size w w' := by
  have h := opVerify_any wideO wide_fit (.slice none 0 0) w (nilI w) hG
  rw [show verO wideO = 8 by unfold verO; rw [wide_chk]; rfl] at h
  exact h
theorem ck_changed (w : World) : Calls Tryz.prog 42 #[.agg (changedO.c (.slice none 0 0))] w fun e w' => e = .returned (.int .i64 0) ∧ Below w.heap.size w w' := by
  have h := opCheck_any changedO changed_fit (.slice none 0 0) w (nilI w)
  rw [changed_chk] at h
  exact h
theorem ms_wide (w : World) : Calls Tryz.prog 40 #[.agg (wideO.c (.slice none 0 0))] w fun e w' => ∃ a c, e = .returned (.tuple #[.slice a 7 c, .int .i64 0]) ∧ Below w.heap.size w w' := by
  have h := opMessage_any wideO wide_fit (.slice none 0 0) w (nilI w)
  rw [show wideO.bare = gO.bare from rfl, gO_bare] at h
  refine h.mono fun e w' ⟨h1, h2⟩ => ?_
  rw [if_pos rfl] at h1
  obtain ⟨sv, e1, e2⟩ := h1
  have e3 : msgB wideO = [111, 4, 0, 7, 2, 1, 97] := (show msgB wideO = msgB gO from rfl).trans gO_msg
  rw [e3] at e2
  obtain ⟨a, c, hv⟩ := e2.rd.slice
  subst hv
  exact ⟨a, c, e1, h2⟩
theorem sg_arg (pv : Value) (w : World) (hp : RdI w pv 5 (zerosB 160)) : Calls Tryz.prog 41 #[.int .u32 0, .agg (manyO.c pv)] w fun e w' => e = .returned (.tuple #[.agg (zO.c (.slice none 0 0)), .int .i64 2]) ∧ Below w.heap.size w w' :=
  opSign_arg 0 (by decide) manyO pv w hp
theorem sg_many (pv : Value) (w : World) (hp : RdI w pv 5 (zerosB 160)) : Calls Tryz.prog 41 #[.int .u32 1, .agg (manyO.c pv)] w fun e w' => e = .returned (.tuple #[.agg (zO.c (.slice none 0 0)), .int .i64 4]) ∧ Below w.heap.size w w' := by
  have hc : chkO (manyO.byA (grp.pw 4 1)).bare = 4 := chk_many (show 4 < 5 by decide)
  have h := opSign_bad 1 ⟨by decide, by decide⟩ manyO many_fit pv w hp (by rw [hc]; decide)
  rw [hc] at h
  exact h
theorem sg_twice (pv : Value) (w : World) (hp : RdI w pv 2 idsO) : Calls Tryz.prog 41 #[.int .u32 1, .agg (twiceO.c pv)] w fun e w' => e = .returned (.tuple #[.agg (zO.c (.slice none 0 0)), .int .i64 32]) ∧ Below w.heap.size w w' := by
  have hc : chkO (twiceO.byA (grp.pw 4 1)).bare = 32 := chk_twice (show ¬ 4 < 2 by decide) rise_ids
  have h := opSign_bad 1 ⟨by decide, by decide⟩ twiceO twice_fit pv w hp (by rw [hc]; decide)
  rw [hc] at h
  exact h
theorem dc_any {l : List Int} (hd : (decO l).isNone = true) (hl : Bytes l) (hm : l.length ≤ 1000000) (bv : Value) (w : World) (hr : RdB w bv l) : Calls Tryz.prog 38 #[bv] w fun e w' => e = .returned (.tuple #[.agg (zO.c (.slice none 0 0)), .int .i64 12]) ∧ Below w.heap.size w w' :=
  (opDecode_any l bv w hr hl hm).mono fun e w' ⟨h1, h2⟩ => by
    rcases h2 with ⟨_, h3⟩ | ⟨o, a, c, h3, _⟩
    · exact ⟨h3, h1⟩
    · rw [h3] at hd; cases hd
theorem dc_chk {l : List Int} {o : Od} (h1 : rOp l = some (o, [])) (h2 : chkO o = 8) : (decO l).isNone = true := by
  unfold decO
  rw [h1]
  simp [h2]
theorem rop2 : rOp [111, 5, 0, 7, 2, 1, 97, 5, 6] = some (gO.byA 5, []) := by kernel_rfl
theorem rop3 : rOp [111, 4, 0, 7, 2, 0, 5, 6] = some (⟨4, 0, [], 7, 2, ⟨#[]⟩, ⟨0, 0, 0, ⟨#[]⟩⟩, 5, 6⟩, []) := by kernel_rfl
theorem dc0 (bv : Value) (w : World) (hr : RdB w bv []) : Calls Tryz.prog 38 #[bv] w fun e w' => e = .returned (.tuple #[.agg (zO.c (.slice none 0 0)), .int .i64 12]) ∧ Below w.heap.size w w' := dc_any (by decide +kernel) (bytes_of_all (by decide)) (by decide) bv w hr
theorem dc1 (bv : Value) (w : World) (hr : RdB w bv [112, 4, 0, 7, 2, 1, 97, 5, 6]) : Calls Tryz.prog 38 #[bv] w fun e w' => e = .returned (.tuple #[.agg (zO.c (.slice none 0 0)), .int .i64 12]) ∧ Below w.heap.size w w' := dc_any (by decide +kernel) (bytes_of_all (by decide)) (by decide) bv w hr
theorem dc2 (bv : Value) (w : World) (hr : RdB w bv [111, 5, 0, 7, 2, 1, 97, 5, 6]) : Calls Tryz.prog 38 #[bv] w fun e w' => e = .returned (.tuple #[.agg (zO.c (.slice none 0 0)), .int .i64 12]) ∧ Below w.heap.size w w' := dc_any (dc_chk rop2 gW_chk) (bytes_of_all (by decide)) (by decide) bv w hr
theorem dc3 (bv : Value) (w : World) (hr : RdB w bv [111, 4, 0, 7, 2, 0, 5, 6]) : Calls Tryz.prog 38 #[bv] w fun e w' => e = .returned (.tuple #[.agg (zO.c (.slice none 0 0)), .int .i64 12]) ∧ Below w.heap.size w w' := dc_any (dc_chk rop3 (chk8 (show ¬ 4 < 0 by decide) rfl (by decide +kernel))) (bytes_of_all (by decide)) (by decide) bv w hr
theorem dl1 (wz : World) : Calls Tryz.prog 38 #[.slice (some ⟨wz.heap.size, 0, none⟩) 9 9] (wz.alloc (.cells #[.int .u8 112, .int .u8 4, .int .u8 0, .int .u8 7, .int .u8 2, .int .u8 1, .int .u8 97, .int .u8 5, .int .u8 6] 5)) fun e w' => e = .returned (.tuple #[.agg (zO.c (.slice none 0 0)), .int .i64 12]) ∧ Below wz.heap.size wz w' :=
  (dc1 _ _ (rdB_row (cs := [112, 4, 0, 7, 2, 1, 97, 5, 6]) (heap_alloc_new wz _) 9 rfl (by decide))).mono fun e w' ⟨h1, h2⟩ => ⟨h1, (below_a wz _).trans (h2.mono (by simp))⟩
theorem dl2 (wz : World) : Calls Tryz.prog 38 #[.slice (some ⟨wz.heap.size, 0, none⟩) 9 9] (wz.alloc (.cells #[.int .u8 111, .int .u8 5, .int .u8 0, .int .u8 7, .int .u8 2, .int .u8 1, .int .u8 97, .int .u8 5, .int .u8 6] 5)) fun e w' => e = .returned (.tuple #[.agg (zO.c (.slice none 0 0)), .int .i64 12]) ∧ Below wz.heap.size wz w' :=
  (dc2 _ _ (rdB_row (cs := [111, 5, 0, 7, 2, 1, 97, 5, 6]) (heap_alloc_new wz _) 9 rfl (by decide))).mono fun e w' ⟨h1, h2⟩ => ⟨h1, (below_a wz _).trans (h2.mono (by simp))⟩
theorem dl3 (wz : World) : Calls Tryz.prog 38 #[.slice (some ⟨wz.heap.size, 0, none⟩) 8 8] (wz.alloc (.cells #[.int .u8 111, .int .u8 4, .int .u8 0, .int .u8 7, .int .u8 2, .int .u8 0, .int .u8 5, .int .u8 6] 5)) fun e w' => e = .returned (.tuple #[.agg (zO.c (.slice none 0 0)), .int .i64 12]) ∧ Below wz.heap.size wz w' :=
  (dc3 _ _ (rdB_row (cs := [111, 4, 0, 7, 2, 0, 5, 6]) (heap_alloc_new wz _) 8 rfl (by decide))).mono fun e w' ⟨h1, h2⟩ => ⟨h1, (below_a wz _).trans (h2.mono (by simp))⟩
theorem dl0 (wz : World) : Calls Tryz.prog 38 #[.slice none 0 0] wz fun e w' => e = .returned (.tuple #[.agg (zO.c (.slice none 0 0)), .int .i64 12]) ∧ Below wz.heap.size wz w' := dc0 _ wz (.inl ⟨none, 0, rfl, fun _ => rfl, rfl⟩)
theorem setc {w : World} {g : Nat} {o : Od} {pv : Value} (h : w.heap[g]? = some (.cells (o.c pv) 35 (0, 0))) (i : Nat) (v : Value) (p : Od) (qv : Value) (he : (o.c pv).setIfInBounds i v = p.c qv) : (w.setCell ⟨g, i, none⟩ v).heap[g]? = some (.cells (p.c qv) 35 (0, 0)) := by
  rw [← he]; exact setCell_row h i v
end Go.Proofs.YtdlblhoaddfanaaGreatDoor.wir.val.top
namespace Go.Proofs.YtdlblhoaddfanaaGreatDoor.wir.val.top
open Go.RowKit Go.YtdlblhoaddfanaaGreatDoor
set_option linter.unusedVariables false
theorem wpList_load_midO {P : Program} {ops : Array Oper} {rest : List Oper} {o : Oper} {a : Act} {w : World} {Q : Exit → Act → World → Prop} (hw : Region.wanted o (yielded ops a.tmps) = true) (ty : TypeId) (x : Operand) (ho : o.op = .load ty x)
    (b k : Nat) (hx : a.eval x = .pointer (some ⟨b, k, none⟩)) (cs : Array Value) (d : TypeDesc) (hc : w.rangeAt b k cs.toList)
    (hu : P.underlying ty = some d) (hd : d.isRow = true) (hi : (P.info? ty).map (·.size) = some cs.toList.length)
    (h : wpList P ops Q rest (a.put o.dst (.agg cs)) w) : wpList P ops Q (o :: rest) a w :=
  wpList_step fun K hK => by rw [if_pos hw]; exact wp_load_mid ty x ho b k hx cs.toList d hc hu hd hi (hK _ _ (by simpa using h))
def RdC (w : World) (g k : Nat) (C : Array Value) : Prop := g < w.heap.size ∧ w.rangeAt g k C.toList
theorem RdC.mono {w w' : World} {g k : Nat} {C : Array Value} (h : RdC w g k C) (hb : Below w.heap.size w w') : RdC w' g k C := ⟨Nat.lt_of_lt_of_le h.1 hb.size, range_belowO h.2 h.1 hb⟩
theorem qa_load_midO {P : Program} {C : World → Prop} {o : Oper} {a : Act} (ty : TypeId) (x : Operand) (ho : o.op = .load ty x) (b off : Nat) (hx : a.eval x = .pointer (some ⟨b, off, none⟩)) (cs : List Value) (d : TypeDesc)
    (hu : P.underlying ty = some d) (hd : d.isRow = true) (hi : (P.info? ty).map (·.size) = some cs.length) (hS : ∀ w, C w → w.rangeAt b off cs) : ∀ w, C w → o.quietAt P a C w (.agg cs.toArray) := fun w hw => qa_ok (by
  unfold execOp
  simp only [ho, hx, Instr.loadAt, Instr.sureAddr, Sem.run_bind, Sem.run_pure, Result.andThen_ok, run_loadVar_mid w b off ty cs d (hS w hw) hu hd hi])
theorem info_act6 {C : Array Value} (h : C.toList.length = 6) : (Tryz.prog.info? 31).map (·.size) = some C.toList.length := by rw [h]; exact info_act
theorem rdA_bdA {w : World} {g : Nat} (hg : w.heap[g]? = some (.cells #[.int .u8 0, .string ⟨#[]⟩, .int .u8 0, .int .i64 0, .int .u64 0, .string ⟨#[]⟩, .int .u8 5, .string ⟨#[]⟩, .int .u8 0, .int .i64 0, .int .u64 0, .string ⟨#[]⟩, .int .u8 1, .string ⟨#[97]⟩, .int .u8 0, .int .i64 0, .int .u64 0, .string ⟨#[]⟩, .int .u8 1, .string ⟨#[]⟩, .int .u8 1, .int .i64 1, .int .u64 0, .string ⟨#[]⟩, .int .u8 2, .string ⟨#[]⟩, .int .u8 0, .int .i64 0, .int .u64 0, .string ⟨#[]⟩, .int .u8 2, .string ⟨#[32]⟩, .int .u8 0, .int .i64 0, .int .u64 0, .string ⟨#[]⟩, .int .u8 2, .string ⟨#[97, 32, 98]⟩, .int .u8 0, .int .i64 0, .int .u64 0, .string ⟨#[]⟩, .int .u8 3, .string ⟨#[49, 50, 51, 52, 53, 54, 55, 56, 57, 48, 49, 50, 51, 52, 53, 54, 55, 56, 57, 48, 49]⟩, .int .u8 0, .int .i64 0, .int .u64 0, .string ⟨#[]⟩, .int .u8 2, .string ⟨#[97]⟩, .int .u8 1, .int .i64 1, .int .u64 0, .string ⟨#[]⟩, .int .u8 4, .string ⟨#[97]⟩, .int .u8 0, .int .i64 0, .int .u64 0, .string ⟨#[]⟩, .int .u8 4, .string ⟨#[]⟩, .int .u8 1, .int .i64 1, .int .u64 0, .string ⟨#[]⟩, .int .u8 4, .string ⟨#[97]⟩, .int .u8 9, .int .i64 0, .int .u64 0, .string ⟨#[]⟩, .int .u8 3, .string ⟨#[127]⟩, .int .u8 0, .int .i64 0, .int .u64 0, .string ⟨#[]⟩] 31 (0, 0))) : RdA w g bdA := by
  refine ⟨(Array.getElem?_eq_some_iff.1 hg).1, fun i hi => ?_⟩
  match i, hi with
  | 0, _ => exact range_rowO hg (0 * 6) _ rfl
  | 1, _ => exact range_rowO hg (1 * 6) _ rfl
  | 2, _ => exact range_rowO hg (2 * 6) _ rfl
  | 3, _ => exact range_rowO hg (3 * 6) _ rfl
  | 4, _ => exact range_rowO hg (4 * 6) _ rfl
  | 5, _ => exact range_rowO hg (5 * 6) _ rfl
  | 6, _ => exact range_rowO hg (6 * 6) _ rfl
  | 7, _ => exact range_rowO hg (7 * 6) _ rfl
  | 8, _ => exact range_rowO hg (8 * 6) _ rfl
  | 9, _ => exact range_rowO hg (9 * 6) _ rfl
  | 10, _ => exact range_rowO hg (10 * 6) _ rfl
  | 11, _ => exact range_rowO hg (11 * 6) _ rfl
  | 12, _ => exact range_rowO hg (12 * 6) _ rfl
  | i + 13, hi => exact absurd hi (by show ¬ i + 13 < 13; omega)
theorem rowne {w : World} {a b : Nat} {cs ds : Array Value} {S T : TypeId} (h : w.heap[a]? = some (.cells cs S (0, 0))) (k : w.heap[b]? = some (.cells ds T (0, 0))) (hT : S ≠ T) : a ≠ b := fun e => by
  subst e
  rw [h] at k
  injection k with k
  injection k with _ k2 _
  exact hT k2
theorem row4 (w : World) (a b c d : Obj) (k : Nat) (hk : k < 4) : ((((w.alloc a).alloc b).alloc c).alloc d).heap[w.heap.size + k]? = some (match k with | 0 => a | 1 => b | 2 => c | _ => d) := by
  match k, hk with
  | 0, _ => exact rowB (rowB (rowB (heap_alloc_new w a) (below_a _ _) (by simp)) (below_a _ _) (by simp <;> omega)) (below_a _ _) (by simp <;> omega)
  | 1, _ => exact rowB (rowB (by have := heap_alloc_new (w.alloc a) b; simpa using this) (below_a _ _) (by simp)) (below_a _ _) (by simp <;> omega)
  | 2, _ => exact rowB (by have := heap_alloc_new ((w.alloc a).alloc b) c; simpa using this) (below_a _ _) (by simp)
  | 3, _ => have := heap_alloc_new (((w.alloc a).alloc b).alloc c) d; simpa using this
/-- The first u of bytes. -/
theorem wpList_headB {P : Program} {ops : Array Oper} {rest : List Oper} {o : Oper} {a : Act} {w : World} {Q : Exit → Act → World → Prop} (hw : Region.wanted o (yielded ops a.tmps) = true) (t : TypeId) (x y : Operand) (ho : o.op = .slice t x none (some y) none)
    (ht : P.underlying t = some (.slice (P.elem t))) (hs : (P.info? (P.elem t)).map (·.size) = some 1) (W0 : World) (l : List Int) (b : Option Addr) (n c : Nat) (hx : a.eval x = .slice b n c) (hr : RdB W0 (.slice b n c) l) (hn : l.length = n) (u : Nat) (hy : a.eval y = .int .i64 (u : Int)) (hu : u ≤ n) (l' : List Int) (hd : l.take u = l')
    (h : ∀ b' c', RdB W0 (.slice b' u c') l' → wpList P ops Q rest (a.put o.dst (.slice b' u c')) w) : wpList P ops Q (o :: rest) a w :=
  wpList_step fun K hK => by
    subst hd
    rw [if_pos hw]
    have e2 := rdB_take hr u hu
    have hc : u ≤ c := by
      rcases hr with ⟨a', c', he, hz, rfl⟩ | ⟨b', o', c', he, h1, h2, h3, h4⟩
      · simp at hn; omega
      · injection he with e1 e2 e3; omega
    have hl := run_slice_h (P := P) (w := w) t b n c ht .i64 (u : Int) (by omega) (by omega)
    have hsz : (sizeOf (P.elem t)).run P w = .ok 1 w := by
      cases hi : P.info? (P.elem t) with
      | none => rw [hi] at hs; cases hs
      | some i =>
        rw [hi] at hs
        have : i.size = 1 := by simpa using hs
        simp [sizeOf, typeInfo, hi, this]
    rw [hsz] at hl
    simp only [Result.andThen_ok, Int.toNat_natCast] at hl
    have e1 : sliced b 0 u c 1 = .slice b u c := by
      unfold sliced
      by_cases h0 : c = 0
      · rw [if_pos h0]; simp
      · rw [if_neg h0]; cases b with
        | none => rfl
        | some A => simp [Addr.add]
    rw [e1] at hl
    unfold Oper.wp execOp
    simp only [ho, hx, Option.map_some, Option.map_none, hy]
    simp only [Sem.run_bind, run_sliceAt_slice (P := P) (w := w) t _ _ _ _ ht, hl, Sem.run_pure, Result.andThen_ok]
    exact hK _ _ (h b _ e2)
set_option maxHeartbeats 16000000 in
set_option maxRecDepth 100000 in
theorem onames_law (w : World) (hG0 : GlobW w) : Calls Tryz.prog 8 #[] w fun e w' => e = .returned (.bool true) ∧ Below w.heap.size w w' := by
  have hS0 := Lib.hid (Below.refl w.heap.size w)
  have hG := Lib.hid hG0
  have hGw := Lib.hid hG0
  have m5 := Lib.hid (show ∀ wz : World, (Instr.makeSlice 26 (.int .i64 5) (.int .i64 5)).run Tryz.prog wz = .ok (.slice (some ⟨wz.heap.size, 0, none⟩) 5 5) (wz.alloc (.cells (u8s (zerosB 160)) 24)) from fun wz => run_makeI (P := Tryz.prog) wz 26 24 Tryz.underlying26 (by kernel_rfl) 5 (by decide))
  clear hG0
  go_enter Tryz.func8, Tryz.ntmps8
  go_upto_region 2 with fail
  obtain ⟨W1, hW1⟩ : ∃ W, W = w.alloc (.cells #[.int .u8 1, .int .i64 1, .int .u64 0, .string ⟨#[]⟩] 29) := ⟨_, rfl⟩
  rw [← hW1]
  have r1 := Lib.hid (show W1.heap[w.heap.size]? = some (.cells #[.int .u8 1, .int .i64 1, .int .u64 0, .string ⟨#[]⟩] 29 (0, 0)) by rw [hW1]; exact heap_alloc_new w _)
  have hb1 := Lib.hid (show Below w.heap.size w W1 by rw [hW1]; exact below_a w _)
  replace hS0 := Lib.hid hb1.out
  replace hG := Lib.hid (hG.out.mono hb1.out)
  clear hW1 hb1
  go_upto_region 3 with (refine wpList_load_row_g rfl 29 _ rfl w.heap.size rfl 29 #[.int .u8 1, .int .i64 1, .int .u64 0, .string ⟨#[]⟩] (0, 0) _ r1.out Tryz.underlying29 rfl (by kernel_rfl) ?_)
  obtain ⟨W2, hW2⟩ : ∃ W, W = W1.alloc (.cells #[.int .u8 1, .string ⟨#[]⟩, .int .u8 0, .int .i64 0, .int .u64 0, .string ⟨#[]⟩, .int .u8 2, .string ⟨#[33]⟩, .int .u8 0, .int .i64 0, .int .u64 0, .string ⟨#[]⟩, .int .u8 3, .string ⟨#[49, 50, 51, 52, 53, 54, 55, 56, 57, 48, 49, 50, 51, 52, 53, 54, 55, 56, 57, 48]⟩, .int .u8 0, .int .i64 0, .int .u64 0, .string ⟨#[]⟩, .int .u8 4, .string ⟨#[126]⟩, .int .u8 1, .int .i64 1, .int .u64 0, .string ⟨#[]⟩, .int .u8 4, .string ⟨#[114]⟩, .int .u8 3, .int .i64 0, .int .u64 0, .string ⟨#[]⟩] 31) := ⟨_, rfl⟩
  rw [← hW2]
  have xA := Lib.hid (show RdA W2 W1.heap.size fines by rw [hW2]; exact rdA_fines (heap_alloc_new W1 _))
  have hb2 := Lib.hid (show Below W1.heap.size W1 W2 by rw [hW2]; exact below_a W1 _)
  obtain ⟨gA, hgA⟩ : ∃ g, g = W1.heap.size := ⟨_, rfl⟩
  rw [← hgA] at xA
  rw [← hgA]
  (try replace r1 := Lib.hid (rowB r1.out hb2.out (Array.getElem?_eq_some_iff.1 r1.out).1))
  (try replace hG := Lib.hid (hG.out.mono hb2.out))
  replace hS0 := Lib.hid (hS0.out.trans (Below.mono hb2.out hS0.out.size))
  clear hW2 hgA hb2
  go_wp2
  go_loopw [3] (fun i wr => ∃ j : Nat, j ≤ 5 ∧ i = .int .i64 (j : Int) ∧ Below W2.heap.size W2 wr) (fun i _ => 5 - (intOf i).toNat)
  case atStart => exact ⟨0, Nat.zero_le _, rfl, Below.refl _ _⟩
  case round =>
    obtain ⟨j, hj, rfl, hb0⟩ := hrel
    have hS := Lib.hid hb0
    replace xA := Lib.hid (xA.out.mono hb0)
    have hGr := Lib.hid (hG.out.mono hb0)
    clear hb0
    by_cases hlt : j < 5
    · have hjl := Lib.hid hlt
      have hjI : (j : Int) < 5 := by omega
      have m1 := Lib.hid (show RdC wr gA (j * 6) (nthA fines j).c from ⟨xA.out.1, xA.out.2 j hlt⟩)
      obtain ⟨o, n, B, hF0⟩ := fine_pack j hlt
      generalize (nthA fines j).c = C at *
      have hF := Lib.hid hF0
      clear hF0
      go_upto_region 7 with (first
        | (refine wpList_load_midO rfl 31 _ rfl gA (j * 6) rfl C _ m1.out.2 Tryz.underlying31 rfl (info_act6 hF.out.six) ?_)
        | (go_at_call 37; (with_reducible refine (hF.out.wit _).mono ?_); rintro e9 w4 ⟨rfl, q2⟩; (try replace m1 := Lib.hid (m1.out.mono q2)); (try replace hGr := Lib.hid (hGr.out.mono q2)); replace hS := Lib.hid (hS.out.trans (Below.mono q2 hS.out.size)); clear q2)
        | (go_at_call 36; (with_reducible refine (hF.out.enc _).mono ?_); rintro e9 w4 ⟨ea, ec, rfl, q1, q2⟩; (try replace m1 := Lib.hid (m1.out.mono q2)); (try replace hGr := Lib.hid (hGr.out.mono q2)); replace hS := Lib.hid (hS.out.trans (Below.mono q2 hS.out.size)); have xB := Lib.hid q1.rd; have xO := Lib.hid q1; clear q1; clear q2))
      go_upto_region 8 with (first
        | (go_at_call 38; (with_reducible refine (hF.out.dec _ _ xB.out).mono ?_); rintro e9 w4 ⟨da, dc, rfl, q1, q2⟩; (try replace m1 := Lib.hid (m1.out.mono q2)); (try replace hGr := Lib.hid (hGr.out.mono q2)); (try replace xB := Lib.hid (xB.out.mono q2)); (try replace xD := Lib.hid (xD.out.mono q2)); replace hS := Lib.hid (hS.out.trans (Below.mono q2 hS.out.size)); have xD := Lib.hid q1; clear q1; clear q2)
        | (refine storeNew _ rfl 35 _ _ rfl (o.c (.slice da 0 dc)) 35 rfl rfl info_op rfl (op_one o da 0 dc) ?_; intro wx hrx hbx; (try replace m1 := Lib.hid (m1.out.mono hbx)); (try replace hGr := Lib.hid (hGr.out.mono hbx)); (try replace xB := Lib.hid (xB.out.mono hbx)); (try replace xD := Lib.hid (xD.out.mono hbx)); replace hS := Lib.hid (hS.out.trans (Below.mono hbx hS.out.size)); have r6 := Lib.hid hrx; clear hrx hbx))
      have g6l := Lib.hid (Array.getElem?_eq_some_iff.1 r6.out).1
      have nP := Lib.hid hF.out.pos
      have c0 : (n : Int) ≠ 0 := by have := nP.out; omega
      have c1 : ((n : Int) == 0) = false := by simp; have := nP.out; omega
      refine wp_region_quiet (C := fun w' => Below wx.heap.size wx w') (by kernel_rfl) (by kernel_rfl) ((Below.refl _ _).drew) ?_
      simp only []
      iterate 3 (go_big_quiet_want; go_big_quiet_op; first | go_big_quiet_on | (refine ⟨_, fun _ _ => rfl, ?_⟩; go_big_quiet_on))
      refine wpq (.agg C) rfl (qa_load_midO 31 _ rfl gA (j * 6) rfl C.toList _ Tryz.underlying31 rfl (info_act6 hF.out.six) (fun w9 h9 => range_belowO m1.out.2 m1.out.1 h9)) rfl (fun K hK => ?_); go_simp; refine hK _ ?_; clear hK K
      refine wpq (.int .i64 0) rfl (qa_call1 (.agg C) rfl Tryz.func39 (by kernel_rfl) rfl rfl rfl (fun w9 h9 => (hF.out.act w9).mono fun e w' ⟨he, hb⟩ => ⟨he, h9.trans (hb.mono h9.size)⟩)) rfl (fun K hK => ?_); go_simp; refine hK _ ?_; clear hK K
      iterate 10 (go_big_quiet_want; go_big_quiet_op; first | go_big_quiet_on | (refine ⟨_, fun _ _ => rfl, ?_⟩; go_big_quiet_on))
      refine wpq (.agg (o.c (.slice da 0 dc))) rfl (quiet_row 35 _ rfl _ rfl 35 (o.c (.slice da 0 dc)) (0, 0) _ (fun w9 h9 => rowB r6.out h9 g6l.out) Tryz.underlying35 rfl info_op) rfl (fun K hK => ?_); go_simp; refine hK _ ?_; clear hK K
      iterate 3 (go_big_quiet_want; go_big_quiet_op; first | go_big_quiet_on | (refine ⟨_, fun _ _ => rfl, ?_⟩; go_big_quiet_on))
      refine wpq (.agg C) rfl (qa_load_midO 31 _ rfl gA (j * 6) rfl C.toList _ Tryz.underlying31 rfl (info_act6 hF.out.six) (fun w9 h9 => range_belowO m1.out.2 m1.out.1 h9)) rfl (fun K hK => ?_); go_simp; refine hK _ ?_; clear hK K
      refine wpq (.agg (o.c (.slice none 0 0))) rfl (qa_call1 (.agg C) rfl Tryz.func37 (by kernel_rfl) rfl rfl rfl (fun w9 h9 => (hF.out.wit w9).mono fun e w' ⟨he, hb⟩ => ⟨he, h9.trans (hb.mono h9.size)⟩)) rfl (fun K hK => ?_); go_simp; refine hK _ ?_; clear hK K
      refine wpq (.bool true) rfl (quiet_call2 rfl Tryz.func32 (by kernel_rfl) rfl (.agg (o.c (.slice da 0 dc))) (.agg (o.c (.slice none 0 0))) (.bool true) rfl rfl rfl (fun w9 h9 => (hF.out.same _ _ w9 (xD.out.mono h9) (nilI w9)).mono fun e w' ⟨he, hb⟩ => ⟨he, h9.trans (hb.mono h9.size)⟩)) rfl (fun K hK => ?_); go_simp; refine hK _ ?_; clear hK K
      iterate 7 (go_big_quiet_want; go_big_quiet_op; first | go_big_quiet_on | (refine ⟨_, fun _ _ => rfl, ?_⟩; go_big_quiet_on))
      refine wpQuiet_nil ?_
      intro w9 h9
      replace hS := Lib.hid (hS.out.trans (Below.mono h9 hS.out.size))
      replace xB := Lib.hid (xB.out.mono h9)
      clear h9 m1 hGr xD r6 g6l c0 c1
      have hBn := Lib.hid hF.out.len
      have hw0 : IntKind.i64.wrap ((n : Int) - 1) = ((n - 1 : Nat) : Int) := by have := nP.out; have := hF.out.most; rw [IntWalk.i64_in _ (by omega)]; omega
      go_upto_region 11 with (first
        | (refine wpList_headB rfl 79 _ _ rfl (by kernel_rfl) (by kernel_rfl) _ B _ _ _ rfl xB.out hBn.out (n - 1) rfl (Nat.sub_le _ _) (B.take (n - 1)) rfl ?_; intro ha hc xC0; have xC := Lib.hid xC0; clear xC0)
        | (go_at_call 38; (with_reducible refine (hF.out.cut _ _ xC.out).mono ?_); rintro e9 w4 ⟨rfl, q2⟩; (try replace xB := Lib.hid (xB.out.mono q2)); replace hS := Lib.hid (hS.out.trans (Below.mono q2 hS.out.size)); clear q2)
        | (refine storeNew _ rfl 35 _ _ rfl (zO.c (.slice none 0 0)) 35 rfl rfl info_op rfl (op_one zO none 0 0) ?_; intro wx hrx hbx; (try replace xB := Lib.hid (xB.out.mono hbx)); replace hS := Lib.hid (hS.out.trans (Below.mono hbx hS.out.size)); have r8 := Lib.hid hrx; clear hrx hbx))
      have hBm := Lib.hid (show B.length ≤ 400 by rw [hBn.out]; exact hF.out.most)
      go_wp2_with (refine appendB rfl _ _ 79 rfl wx.heap.size 5 Tryz.underlying79 (by kernel_rfl) _ rfl [] (own0 wx) _ rfl B (xB.out.mono (below_a wx _)) (by have := hBm.out; simp; omega) (by simp) ?_)
      intro v5 w5 k1 k2
      have hb5 := Lib.hid ((below_a wx (.cells #[] 5)).trans ((own0 wx).below k2 (by simp)))
      obtain ⟨va, vc, rfl⟩ : ∃ a c, v5 = .slice a n c := by obtain ⟨a, c, e⟩ := k1.rd.slice; (try rw [List.nil_append] at e); rw [hBn.out] at e; exact ⟨a, c, e⟩
      have ow5 := Lib.hid (show OwnB wx.heap.size 5 w5 (.slice va n vc) B from k1)
      clear k1 k2 xB r8
      refine Stop.go ?_
      go_wp2_with (refine appendB rfl _ _ 79 rfl wx.heap.size 5 Tryz.underlying79 (by kernel_rfl) _ rfl B (ow5.out.kept (below_a w5 _)) _ rfl [0] (rdB_row (cs := [0]) (heap_alloc_new w5 _) 1 rfl (by decide)) (by have := hBm.out; simp; omega) (by have := hb5.out.size; simp; omega) ?_)
      intro v6 w6 k1 k2
      have hb6 := Lib.hid (((hb5.out.trans ((below_a w5 (.cells #[.int .u8 0] 5)).mono hb5.out.size))).trans ((ow5.out.kept (below_a w5 _)).below k2 (by have := hb5.out.size; simp; omega)))
      obtain ⟨vb, vd, rfl⟩ : ∃ a c, v6 = .slice a (n + 1) c := by obtain ⟨a, c, e⟩ := k1.rd.slice; rw [List.length_append, hBn.out] at e; exact ⟨a, c, e⟩
      have xE := Lib.hid k1.rd
      replace hS := Lib.hid (hS.out.trans (Below.mono hb6.out hS.out.size))
      clear k1 k2 ow5 hb5 hb6
      refine Stop.go ?_
      go_wp2_with (first
        | (go_at_call 38; (with_reducible refine (hF.out.more _ _ xE.out).mono ?_); rintro e9 w4 ⟨rfl, q2⟩; replace hS := Lib.hid (hS.out.trans (Below.mono q2 hS.out.size)); clear q2)
        | (refine storeNew _ rfl 35 _ _ rfl (zO.c (.slice none 0 0)) 35 rfl rfl info_op rfl (op_one zO none 0 0) ?_; intro wx hrx hbx; replace hS := Lib.hid (hS.out.trans (Below.mono hbx hS.out.size)); have r8 := Lib.hid hrx; clear hrx hbx))
      have hw1 : IntKind.i64.wrap ((j : Int) + 1) = ((j + 1 : Nat) : Int) := by rw [IntWalk.i64_in _ (by omega)]; omega
      go_roundw
      case rel => exact ⟨j + 1, by have := hjl.out; omega, by go_num, hS.out⟩
      case measure => simp [intOf]; have := hjl.out; omega
    · obtain rfl : j = 5 := by omega
      clear hlt
      replace hS0 := Lib.hid (hS0.out.trans (Below.mono hS.out hS0.out.size))
      replace r1 := Lib.hid (rowB r1.out hS.out (Array.getElem?_eq_some_iff.1 r1.out).1)
      replace hG := Lib.hid (hG.out.mono hS.out)
      clear hS xA
      go_upto_region 15 with (refine wpList_load_row_g rfl 29 _ rfl w.heap.size rfl 29 #[.int .u8 1, .int .i64 1, .int .u64 0, .string ⟨#[]⟩] (0, 0) _ r1.out Tryz.underlying29 rfl (by kernel_rfl) ?_)
      obtain ⟨W3, hW3⟩ : ∃ W, W = wr.alloc (.cells #[.int .u8 0, .string ⟨#[]⟩, .int .u8 0, .int .i64 0, .int .u64 0, .string ⟨#[]⟩, .int .u8 5, .string ⟨#[]⟩, .int .u8 0, .int .i64 0, .int .u64 0, .string ⟨#[]⟩, .int .u8 1, .string ⟨#[97]⟩, .int .u8 0, .int .i64 0, .int .u64 0, .string ⟨#[]⟩, .int .u8 1, .string ⟨#[]⟩, .int .u8 1, .int .i64 1, .int .u64 0, .string ⟨#[]⟩, .int .u8 2, .string ⟨#[]⟩, .int .u8 0, .int .i64 0, .int .u64 0, .string ⟨#[]⟩, .int .u8 2, .string ⟨#[32]⟩, .int .u8 0, .int .i64 0, .int .u64 0, .string ⟨#[]⟩, .int .u8 2, .string ⟨#[97, 32, 98]⟩, .int .u8 0, .int .i64 0, .int .u64 0, .string ⟨#[]⟩, .int .u8 3, .string ⟨#[49, 50, 51, 52, 53, 54, 55, 56, 57, 48, 49, 50, 51, 52, 53, 54, 55, 56, 57, 48, 49]⟩, .int .u8 0, .int .i64 0, .int .u64 0, .string ⟨#[]⟩, .int .u8 2, .string ⟨#[97]⟩, .int .u8 1, .int .i64 1, .int .u64 0, .string ⟨#[]⟩, .int .u8 4, .string ⟨#[97]⟩, .int .u8 0, .int .i64 0, .int .u64 0, .string ⟨#[]⟩, .int .u8 4, .string ⟨#[]⟩, .int .u8 1, .int .i64 1, .int .u64 0, .string ⟨#[]⟩, .int .u8 4, .string ⟨#[97]⟩, .int .u8 9, .int .i64 0, .int .u64 0, .string ⟨#[]⟩, .int .u8 3, .string ⟨#[127]⟩, .int .u8 0, .int .i64 0, .int .u64 0, .string ⟨#[]⟩] 31) := ⟨_, rfl⟩
      rw [← hW3]
      have xD := Lib.hid (show RdA W3 wr.heap.size bdA by rw [hW3]; exact rdA_bdA (heap_alloc_new wr _))
      have hb3 := Lib.hid (show Below wr.heap.size wr W3 by rw [hW3]; exact below_a wr _)
      obtain ⟨gB, hgB⟩ : ∃ g, g = wr.heap.size := ⟨_, rfl⟩
      rw [← hgB] at xD
      rw [← hgB]
      (try replace r1 := Lib.hid (rowB r1.out hb3.out (Array.getElem?_eq_some_iff.1 r1.out).1))
      (try replace hG := Lib.hid (hG.out.mono hb3.out))
      replace hS0 := Lib.hid (hS0.out.trans (Below.mono hb3.out hS0.out.size))
      clear hW3 hgB hb3 r1
      go_wp2
      go_loopw [13] (fun i wq => ∃ j : Nat, j ≤ 13 ∧ i = .int .i64 (j : Int) ∧ Below W3.heap.size W3 wq) (fun i _ => 13 - (intOf i).toNat)
      case atStart => exact ⟨0, Nat.zero_le _, rfl, Below.refl _ _⟩
      case round =>
        obtain ⟨j, hj, rfl, hb0⟩ := hrel
        have hS := Lib.hid hb0
        replace xD := Lib.hid (xD.out.mono hb0)
        have hGr := Lib.hid (hG.out.mono hb0)
        clear hb0
        by_cases hlt : j < 13
        · have hjl := Lib.hid hlt
          have hjI : (j : Int) < 13 := by omega
          have m1 := Lib.hid (show RdC wr gB (j * 6) (nthA bdA j).c from ⟨xD.out.1, xD.out.2 j hlt⟩)
          obtain ⟨o, hF0⟩ := bad_pack j hlt
          generalize (nthA bdA j).c = C at *
          have hF := Lib.hid hF0
          clear hF0
          have di := Lib.hid (show (Tryz.prog.info? 24).map (·.size) = some (u8s (zerosB 32)).size by rw [u8s_size, zerosB_length]; kernel_rfl)
          go_upto_region 19 with (first | (refine wpList_load_midO rfl 31 _ rfl gB (j * 6) rfl C _ m1.out.2 Tryz.underlying31 rfl (info_act6 hF.out.six) ?_) | (go_at_call 37; (with_reducible refine (hF.out.wit _).mono ?_); rintro e9 w4 ⟨rfl, q2⟩; (try replace m1 := Lib.hid (m1.out.mono q2)); (try replace hGr := Lib.hid (hGr.out.mono q2)); replace hS := Lib.hid (hS.out.trans (Below.mono q2 hS.out.size)); clear q2) | (go_at_call 40; (with_reducible refine (hF.out.msg _).mono ?_); rintro e9 w4 ⟨rfl, q2⟩; (try replace m1 := Lib.hid (m1.out.mono q2)); (try replace hGr := Lib.hid (hGr.out.mono q2)); replace hS := Lib.hid (hS.out.trans (Below.mono q2 hS.out.size)); clear q2))
          go_upto_region 20 with (first | (refine wpList_load_midO rfl 31 _ rfl gB (j * 6) rfl C _ m1.out.2 Tryz.underlying31 rfl (info_act6 hF.out.six) ?_) | (go_at_call 37; (with_reducible refine (hF.out.wit _).mono ?_); rintro e9 w4 ⟨rfl, q2⟩; (try replace m1 := Lib.hid (m1.out.mono q2)); (try replace hGr := Lib.hid (hGr.out.mono q2)); replace hS := Lib.hid (hS.out.trans (Below.mono q2 hS.out.size)); clear q2) | (go_at_call 36; (with_reducible refine (hF.out.enc _).mono ?_); rintro e9 w4 ⟨rfl, q2⟩; (try replace m1 := Lib.hid (m1.out.mono q2)); (try replace hGr := Lib.hid (hGr.out.mono q2)); replace hS := Lib.hid (hS.out.trans (Below.mono q2 hS.out.size)); clear q2))
          go_upto_region 21 with (first | (refine wpList_load_midO rfl 31 _ rfl gB (j * 6) rfl C _ m1.out.2 Tryz.underlying31 rfl (info_act6 hF.out.six) ?_) | (go_at_call 37; (with_reducible refine (hF.out.wit _).mono ?_); rintro e9 w4 ⟨rfl, q2⟩; (try replace m1 := Lib.hid (m1.out.mono q2)); (try replace hGr := Lib.hid (hGr.out.mono q2)); replace hS := Lib.hid (hS.out.trans (Below.mono q2 hS.out.size)); clear q2) | (go_at_call 10; (with_reducible refine (hF.out.idn _).mono ?_); rintro e9 w4 ⟨rfl, q2⟩; (try replace m1 := Lib.hid (m1.out.mono q2)); (try replace hGr := Lib.hid (hGr.out.mono q2)); replace hS := Lib.hid (hS.out.trans (Below.mono q2 hS.out.size)); clear q2) | (refine storeNew _ rfl 24 _ _ rfl (u8s (zerosB 32)) 24 rfl rfl di.out rfl (u8s_one _) ?_; intro wx hrx hbx; (try replace m1 := Lib.hid (m1.out.mono hbx)); (try replace hGr := Lib.hid (hGr.out.mono hbx)); replace hS := Lib.hid (hS.out.trans (Below.mono hbx hS.out.size)); have r7 := Lib.hid hrx; clear hrx hbx))
          clear r7
          go_upto_region 22 with (first | (refine wpList_load_midO rfl 31 _ rfl gB (j * 6) rfl C _ m1.out.2 Tryz.underlying31 rfl (info_act6 hF.out.six) ?_) | (go_at_call 37; (with_reducible refine (hF.out.wit _).mono ?_); rintro e9 w4 ⟨rfl, q2⟩; (try replace m1 := Lib.hid (m1.out.mono q2)); (try replace hGr := Lib.hid (hGr.out.mono q2)); replace hS := Lib.hid (hS.out.trans (Below.mono q2 hS.out.size)); clear q2) | (go_at_call 41; (with_reducible refine (hF.out.sgn _).mono ?_); rintro e9 w4 ⟨rfl, q2⟩; (try replace m1 := Lib.hid (m1.out.mono q2)); (try replace hGr := Lib.hid (hGr.out.mono q2)); replace hS := Lib.hid (hS.out.trans (Below.mono q2 hS.out.size)); clear q2) | (refine storeNew _ rfl 35 _ _ rfl (zO.c (.slice none 0 0)) 35 rfl rfl info_op rfl (op_one zO none 0 0) ?_; intro wx hrx hbx; (try replace m1 := Lib.hid (m1.out.mono hbx)); (try replace hGr := Lib.hid (hGr.out.mono hbx)); replace hS := Lib.hid (hS.out.trans (Below.mono hbx hS.out.size)); have r8 := Lib.hid hrx; clear hrx hbx))
          clear r8
          go_wp2_with (first
            | (refine wpList_load_midO rfl 31 _ rfl gB (j * 6) rfl C _ m1.out.2 Tryz.underlying31 rfl (info_act6 hF.out.six) ?_)
            | (go_at_call 37; (with_reducible refine (hF.out.wit _).mono ?_); rintro e9 w4 ⟨rfl, q2⟩; (try replace m1 := Lib.hid (m1.out.mono q2)); (try replace hGr := Lib.hid (hGr.out.mono q2)); replace hS := Lib.hid (hS.out.trans (Below.mono q2 hS.out.size)); clear q2)
            | (go_at_call 39; (with_reducible refine (hF.out.act _).mono ?_); rintro e9 w4 ⟨rfl, q2⟩; (try replace m1 := Lib.hid (m1.out.mono q2)); (try replace hGr := Lib.hid (hGr.out.mono q2)); replace hS := Lib.hid (hS.out.trans (Below.mono q2 hS.out.size)); clear q2)
            | (go_at_call 42; (with_reducible refine (hF.out.chk _).mono ?_); rintro e9 w4 ⟨rfl, q2⟩; (try replace m1 := Lib.hid (m1.out.mono q2)); (try replace hGr := Lib.hid (hGr.out.mono q2)); replace hS := Lib.hid (hS.out.trans (Below.mono q2 hS.out.size)); clear q2)
            | (go_at_call 19; (with_reducible refine (hF.out.ver _ hGr.out).mono ?_); rintro e9 w4 ⟨rfl, q2⟩; (try replace m1 := Lib.hid (m1.out.mono q2)); (try replace hGr := Lib.hid (hGr.out.mono q2)); replace hS := Lib.hid (hS.out.trans (Below.mono q2 hS.out.size)); clear q2))
          have hw1 : IntKind.i64.wrap ((j : Int) + 1) = ((j + 1 : Nat) : Int) := by rw [IntWalk.i64_in _ (by omega)]; omega
          go_roundw
          case rel => exact ⟨j + 1, by have := hjl.out; omega, by go_num, hS.out⟩
          case measure => simp [intOf]; have := hjl.out; omega
        · obtain rfl : j = 13 := by omega
          clear hlt
          replace hS0 := Lib.hid (hS0.out.trans (Below.mono hS.out hS0.out.size))
          replace hG := Lib.hid (hG.out.mono hS.out)
          clear hS xD hGr
          have hw4 := Lib.hid hS0.out.size
          go_upto_region 25 with (go_at_call 43; (with_reducible refine (given_any _).mono ?_); rintro e9 w4 ⟨rfl, q2⟩; replace hw4 := Lib.hid (Nat.le_trans hw4.out q2.size); (try replace hG := Lib.hid (hG.out.mono q2)); replace hS0 := Lib.hid (hS0.out.trans (Below.mono q2 hS0.out.size)); clear q2)
          obtain ⟨W5, hW5⟩ : ∃ W, W = (((w4.alloc (.cells #[.int .u32 (gO.au : Int), .slice none 0 0, .int .u64 (gO.st : Int), .int .u8 gO.k, .string gO.key, .int .u8 gO.v.k, .int .i64 gO.v.n, .int .u64 (gO.v.b : Int), .string gO.v.s, .int .u32 (gO.e : Int), .int .u32 (gO.s : Int)] 35)).alloc (.cells #[.int .u32 (gO.au : Int), .slice none 0 0, .int .u64 (gO.st : Int), .int .u8 gO.k, .string gO.key, .int .u8 gO.v.k, .int .i64 gO.v.n, .int .u64 (gO.v.b : Int), .string gO.v.s, .int .u32 (gO.e : Int), .int .u32 (gO.s : Int)] 35)).alloc (.cells #[.int .u32 (gO.au : Int), .slice none 0 0, .int .u64 (gO.st : Int), .int .u8 gO.k, .string gO.key, .int .u8 gO.v.k, .int .i64 gO.v.n, .int .u64 (gO.v.b : Int), .string gO.v.s, .int .u32 (gO.e : Int), .int .u32 (gO.s : Int)] 35)).alloc (.cells #[.int .u32 (gO.au : Int), .slice none 0 0, .int .u64 (gO.st : Int), .int .u8 gO.k, .string gO.key, .int .u8 gO.v.k, .int .i64 gO.v.n, .int .u64 (gO.v.b : Int), .string gO.v.s, .int .u32 (gO.e : Int), .int .u32 (gO.s : Int)] 35) := ⟨_, rfl⟩
          rw [← hW5]
          have hb5 := Lib.hid (show Below w4.heap.size w4 W5 by rw [hW5]; exact ((((Below.refl w4.heap.size w4).alloc (Nat.le_refl _) _).alloc (by simp) _).alloc (by simp; omega) _).alloc (by simp; omega) _)
          have s1 := Lib.hid (show W5.heap[w4.heap.size]? = some (.cells (gO.c (.slice none 0 0)) 35 (0, 0)) by rw [hW5]; exact row4 w4 _ _ _ _ 0 (by decide))
          have s2 := Lib.hid (show W5.heap[w4.heap.size + 1]? = some (.cells (gO.c (.slice none 0 0)) 35 (0, 0)) by rw [hW5]; exact row4 w4 _ _ _ _ 1 (by decide))
          have s3 := Lib.hid (show W5.heap[w4.heap.size + 2]? = some (.cells (gO.c (.slice none 0 0)) 35 (0, 0)) by rw [hW5]; exact row4 w4 _ _ _ _ 2 (by decide))
          have s4 := Lib.hid (show W5.heap[w4.heap.size + 3]? = some (.cells (gO.c (.slice none 0 0)) 35 (0, 0)) by rw [hW5]; exact row4 w4 _ _ _ _ 3 (by decide))
          replace hG := Lib.hid (hG.out.mono hb5.out)
          replace hS0 := Lib.hid (hS0.out.trans (Below.mono hb5.out hS0.out.size))
          obtain ⟨g1, hg1⟩ : ∃ g, g = w4.heap.size := ⟨_, rfl⟩
          obtain ⟨g2, hg2⟩ : ∃ g, g = w4.heap.size + 1 := ⟨_, rfl⟩
          obtain ⟨g3, hg3⟩ : ∃ g, g = w4.heap.size + 2 := ⟨_, rfl⟩
          obtain ⟨g4, hg4⟩ : ∃ g, g = w4.heap.size + 3 := ⟨_, rfl⟩
          have hd := Lib.hid (show w.heap.size ≤ g1 ∧ g1 < g2 ∧ g2 < g3 ∧ g3 < g4 by have := hw4.out; omega)
          rw [← hg1] at s1; rw [← hg2] at s2; rw [← hg3] at s3; rw [← hg4] at s4
          simp only [show w4.heap.size + 1 + 1 = w4.heap.size + 2 from rfl, show w4.heap.size + 2 + 1 = w4.heap.size + 3 from rfl]
          rw [← hg4, ← hg3, ← hg2, ← hg1]
          clear hW5 hb5 hg1 hg2 hg3 hg4 hw4
          have m5x := m5.out
          have kc : W5.cell? ⟨g1, 1, none⟩ = some (.slice none 0 0) := by rw [cell_of_row _ _ _ _ _ _ s1.out]; rfl
          have kf : W5.frozen? ⟨g1, 1, none⟩ = false := frozen_of_row _ _ _ _ _ s1.out
          have kl : g1 < W5.heap.size := (Array.getElem?_eq_some_iff.1 s1.out).1
          go_upto_region 26 with fail
          clear kc kf kl
          obtain ⟨W6, hW6⟩ : ∃ W, W = (W5.setCell ⟨g1, 1, none⟩ (.slice (some ⟨W5.heap.size, 0, none⟩) 5 5)).alloc (.cells (u8s (zerosB 160)) 24) := ⟨_, rfl⟩
          rw [← hW6]
          have hsz : (W5.setCell ⟨g1, 1, none⟩ (.slice (some ⟨W5.heap.size, 0, none⟩) 5 5)).heap.size = W5.heap.size := World.size_setCell _ _ _
          have hq := Lib.hid (show W6.heap[W5.heap.size]? = some (.cells (u8s (zerosB 160)) 24 (0, 0)) by rw [hW6]; have h := heap_alloc_new (W5.setCell ⟨g1, 1, none⟩ (.slice (some ⟨W5.heap.size, 0, none⟩) 5 5)) (.cells (u8s (zerosB 160)) 24); rw [hsz] at h; exact h)
          have s1n := Lib.hid (show W6.heap[g1]? = some (.cells (manyO.c (.slice (some ⟨W5.heap.size, 0, none⟩) 5 5)) 35 (0, 0)) by rw [hW6]; exact rowB (show (W5.setCell ⟨g1, 1, none⟩ (.slice (some ⟨W5.heap.size, 0, none⟩) 5 5)).heap[g1]? = some (.cells (manyO.c (.slice (some ⟨W5.heap.size, 0, none⟩) 5 5)) 35 (0, 0)) from setc s1.out 1 _ manyO (.slice (some ⟨W5.heap.size, 0, none⟩) 5 5) rfl) (below_a _ _) (by rw [hsz]; exact (Array.getElem?_eq_some_iff.1 s1.out).1))
          have s2n := Lib.hid (show W6.heap[g2]? = some (.cells (gO.c (.slice none 0 0)) 35 (0, 0)) by rw [hW6]; exact rowB (show (W5.setCell ⟨g1, 1, none⟩ (.slice (some ⟨W5.heap.size, 0, none⟩) 5 5)).heap[g2]? = some (.cells (gO.c (.slice none 0 0)) 35 (0, 0)) from (setCell_rows g1 1 _ g2 (by have := hd.out; omega)).trans s2.out) (below_a _ _) (by rw [hsz]; exact (Array.getElem?_eq_some_iff.1 s2.out).1))
          have s3n := Lib.hid (show W6.heap[g3]? = some (.cells (gO.c (.slice none 0 0)) 35 (0, 0)) by rw [hW6]; exact rowB (show (W5.setCell ⟨g1, 1, none⟩ (.slice (some ⟨W5.heap.size, 0, none⟩) 5 5)).heap[g3]? = some (.cells (gO.c (.slice none 0 0)) 35 (0, 0)) from (setCell_rows g1 1 _ g3 (by have := hd.out; omega)).trans s3.out) (below_a _ _) (by rw [hsz]; exact (Array.getElem?_eq_some_iff.1 s3.out).1))
          have s4n := Lib.hid (show W6.heap[g4]? = some (.cells (gO.c (.slice none 0 0)) 35 (0, 0)) by rw [hW6]; exact rowB (show (W5.setCell ⟨g1, 1, none⟩ (.slice (some ⟨W5.heap.size, 0, none⟩) 5 5)).heap[g4]? = some (.cells (gO.c (.slice none 0 0)) 35 (0, 0)) from (setCell_rows g1 1 _ g4 (by have := hd.out; omega)).trans s4.out) (below_a _ _) (by rw [hsz]; exact (Array.getElem?_eq_some_iff.1 s4.out).1))
          have pk := Lib.hid (show ∀ q, q ≠ g1 → q < W5.heap.size → W6.heap[q]? = W5.heap[q]? by intro q hne hlt; rw [hW6]; exact ((below_a (W5.setCell ⟨g1, 1, none⟩ (.slice (some ⟨W5.heap.size, 0, none⟩) 5 5)) _).block q (by rw [hsz]; exact hlt)).trans (setCell_rows g1 1 _ q hne))
          replace hS0 := Lib.hid (show Below w.heap.size w W6 by rw [hW6]; exact Below.alloc (Below.setCell hS0.out (p := (⟨g1, 1, none⟩ : Addr)) (by have := hd.out; show _ ≤ g1; omega) (.slice (some ⟨W5.heap.size, 0, none⟩) 5 5)) (by rw [hsz]; exact hS0.out.size) _)
          clear s1 s2 s3 s4
          have s1 := s1n
          have s2 := s2n
          have s3 := s3n
          have s4 := s4n
          clear s1n s2n s3n s4n
          obtain ⟨q1, hq1⟩ : ∃ g, g = W5.heap.size := ⟨_, rfl⟩
          rw [← hq1] at hq s1
          rw [← hq1]
          have p1 := hq
          clear hq1 hq
          clear hW6 hsz
          clear m5x m5
          have l1 := Lib.hid (Array.getElem?_eq_some_iff.1 p1.out).1
          have l2 := Lib.hid (show q1 ≠ g1 ∧ q1 ≠ g2 ∧ q1 ≠ g3 ∧ q1 ≠ g4 from ⟨rowne p1.out s1.out (by decide), rowne p1.out s2.out (by decide), rowne p1.out s3.out (by decide), rowne p1.out s4.out (by decide)⟩)
          have kc : W6.cell? ⟨g2, 1, none⟩ = some (.slice none 0 0) := by rw [cell_of_row _ _ _ _ _ _ s2.out]; rfl
          have kf : W6.frozen? ⟨g2, 1, none⟩ = false := frozen_of_row _ _ _ _ _ s2.out
          have kl : g2 < W6.heap.size := (Array.getElem?_eq_some_iff.1 s2.out).1
          go_upto_region 27 with fail
          clear kc kf kl
          obtain ⟨W7, hW7⟩ : ∃ W, W = (W6.setCell ⟨g2, 1, none⟩ (.slice (some ⟨W6.heap.size, 0, none⟩) 2 2)).alloc (.cells #[.int .u8 1, .int .u8 0, .int .u8 0, .int .u8 0, .int .u8 0, .int .u8 0, .int .u8 0, .int .u8 0, .int .u8 0, .int .u8 0, .int .u8 0, .int .u8 0, .int .u8 0, .int .u8 0, .int .u8 0, .int .u8 0, .int .u8 0, .int .u8 0, .int .u8 0, .int .u8 0, .int .u8 0, .int .u8 0, .int .u8 0, .int .u8 0, .int .u8 0, .int .u8 0, .int .u8 0, .int .u8 0, .int .u8 0, .int .u8 0, .int .u8 0, .int .u8 0, .int .u8 1, .int .u8 0, .int .u8 0, .int .u8 0, .int .u8 0, .int .u8 0, .int .u8 0, .int .u8 0, .int .u8 0, .int .u8 0, .int .u8 0, .int .u8 0, .int .u8 0, .int .u8 0, .int .u8 0, .int .u8 0, .int .u8 0, .int .u8 0, .int .u8 0, .int .u8 0, .int .u8 0, .int .u8 0, .int .u8 0, .int .u8 0, .int .u8 0, .int .u8 0, .int .u8 0, .int .u8 0, .int .u8 0, .int .u8 0, .int .u8 0, .int .u8 0] 24) := ⟨_, rfl⟩
          rw [← hW7]
          have hsz : (W6.setCell ⟨g2, 1, none⟩ (.slice (some ⟨W6.heap.size, 0, none⟩) 2 2)).heap.size = W6.heap.size := World.size_setCell _ _ _
          have hq := Lib.hid (show W7.heap[W6.heap.size]? = some (.cells (u8s idsO) 24 (0, 0)) by rw [hW7]; have h := heap_alloc_new (W6.setCell ⟨g2, 1, none⟩ (.slice (some ⟨W6.heap.size, 0, none⟩) 2 2)) (.cells (u8s idsO) 24); rw [hsz] at h; exact h)
          have s1n := Lib.hid (show W7.heap[g1]? = some (.cells (manyO.c (.slice (some ⟨q1, 0, none⟩) 5 5)) 35 (0, 0)) by rw [hW7]; exact rowB (show (W6.setCell ⟨g2, 1, none⟩ (.slice (some ⟨W6.heap.size, 0, none⟩) 2 2)).heap[g1]? = some (.cells (manyO.c (.slice (some ⟨q1, 0, none⟩) 5 5)) 35 (0, 0)) from (setCell_rows g2 1 _ g1 (by have := hd.out; omega)).trans s1.out) (below_a _ _) (by rw [hsz]; exact (Array.getElem?_eq_some_iff.1 s1.out).1))
          have s2n := Lib.hid (show W7.heap[g2]? = some (.cells (twiceO.c (.slice (some ⟨W6.heap.size, 0, none⟩) 2 2)) 35 (0, 0)) by rw [hW7]; exact rowB (show (W6.setCell ⟨g2, 1, none⟩ (.slice (some ⟨W6.heap.size, 0, none⟩) 2 2)).heap[g2]? = some (.cells (twiceO.c (.slice (some ⟨W6.heap.size, 0, none⟩) 2 2)) 35 (0, 0)) from setc s2.out 1 _ twiceO (.slice (some ⟨W6.heap.size, 0, none⟩) 2 2) rfl) (below_a _ _) (by rw [hsz]; exact (Array.getElem?_eq_some_iff.1 s2.out).1))
          have s3n := Lib.hid (show W7.heap[g3]? = some (.cells (gO.c (.slice none 0 0)) 35 (0, 0)) by rw [hW7]; exact rowB (show (W6.setCell ⟨g2, 1, none⟩ (.slice (some ⟨W6.heap.size, 0, none⟩) 2 2)).heap[g3]? = some (.cells (gO.c (.slice none 0 0)) 35 (0, 0)) from (setCell_rows g2 1 _ g3 (by have := hd.out; omega)).trans s3.out) (below_a _ _) (by rw [hsz]; exact (Array.getElem?_eq_some_iff.1 s3.out).1))
          have s4n := Lib.hid (show W7.heap[g4]? = some (.cells (gO.c (.slice none 0 0)) 35 (0, 0)) by rw [hW7]; exact rowB (show (W6.setCell ⟨g2, 1, none⟩ (.slice (some ⟨W6.heap.size, 0, none⟩) 2 2)).heap[g4]? = some (.cells (gO.c (.slice none 0 0)) 35 (0, 0)) from (setCell_rows g2 1 _ g4 (by have := hd.out; omega)).trans s4.out) (below_a _ _) (by rw [hsz]; exact (Array.getElem?_eq_some_iff.1 s4.out).1))
          have pk := Lib.hid (show ∀ q, q ≠ g2 → q < W6.heap.size → W7.heap[q]? = W6.heap[q]? by intro q hne hlt; rw [hW7]; exact ((below_a (W6.setCell ⟨g2, 1, none⟩ (.slice (some ⟨W6.heap.size, 0, none⟩) 2 2)) _).block q (by rw [hsz]; exact hlt)).trans (setCell_rows g2 1 _ q hne))
          replace hS0 := Lib.hid (show Below w.heap.size w W7 by rw [hW7]; exact Below.alloc (Below.setCell hS0.out (p := (⟨g2, 1, none⟩ : Addr)) (by have := hd.out; show _ ≤ g2; omega) (.slice (some ⟨W6.heap.size, 0, none⟩) 2 2)) (by rw [hsz]; exact hS0.out.size) _)
          clear s1 s2 s3 s4
          have s1 := s1n
          have s2 := s2n
          have s3 := s3n
          have s4 := s4n
          clear s1n s2n s3n s4n
          obtain ⟨q2, hq2⟩ : ∃ g, g = W6.heap.size := ⟨_, rfl⟩
          rw [← hq2] at hq s2
          rw [← hq2]
          have p2 := hq
          clear hq2 hq
          clear hW7 hsz
          have p1 := Lib.hid (show W7.heap[q1]? = some (.cells (u8s (zerosB 160)) 24 (0, 0)) from (pk.out _ l2.out.2.1 l1.out).trans p1.out)
          have l3 := Lib.hid (show q1 ≠ g3 ∧ q1 ≠ g4 ∧ q2 ≠ g3 ∧ q2 ≠ g4 from ⟨rowne p1.out s3.out (by decide), rowne p1.out s4.out (by decide), rowne p2.out s3.out (by decide), rowne p2.out s4.out (by decide)⟩)
          have kc : W7.cell? ⟨g3, 2, none⟩ = some (.int .u64 7) := by rw [cell_of_row _ _ _ _ _ _ s3.out]; rfl
          have kf : W7.frozen? ⟨g3, 2, none⟩ = false := frozen_of_row _ _ _ _ _ s3.out
          have kl : g3 < W7.heap.size := (Array.getElem?_eq_some_iff.1 s3.out).1
          go_upto_region 28 with fail
          clear kc kf kl
          obtain ⟨W8, hW8⟩ : ∃ W, W = (W7.setCell ⟨g3, 2, none⟩ (.int .u64 1000000000001)) := ⟨_, rfl⟩
          rw [← hW8]
          have hsz : (W7.setCell ⟨g3, 2, none⟩ (.int .u64 1000000000001)).heap.size = W7.heap.size := World.size_setCell _ _ _
          have s1n := Lib.hid (show W8.heap[g1]? = some (.cells (manyO.c (.slice (some ⟨q1, 0, none⟩) 5 5)) 35 (0, 0)) by rw [hW8]; exact (setCell_rows g3 2 _ g1 (by have := hd.out; omega)).trans s1.out)
          have s2n := Lib.hid (show W8.heap[g2]? = some (.cells (twiceO.c (.slice (some ⟨q2, 0, none⟩) 2 2)) 35 (0, 0)) by rw [hW8]; exact (setCell_rows g3 2 _ g2 (by have := hd.out; omega)).trans s2.out)
          have s3n := Lib.hid (show W8.heap[g3]? = some (.cells (lateO.c (.slice none 0 0)) 35 (0, 0)) by rw [hW8]; exact setc s3.out 2 _ lateO (.slice none 0 0) rfl)
          have s4n := Lib.hid (show W8.heap[g4]? = some (.cells (gO.c (.slice none 0 0)) 35 (0, 0)) by rw [hW8]; exact (setCell_rows g3 2 _ g4 (by have := hd.out; omega)).trans s4.out)
          have pk := Lib.hid (show ∀ q, q ≠ g3 → q < W7.heap.size → W8.heap[q]? = W7.heap[q]? by intro q hne hlt; rw [hW8]; exact setCell_rows g3 2 _ q hne)
          replace hS0 := Lib.hid (show Below w.heap.size w W8 by rw [hW8]; exact Below.setCell hS0.out (p := (⟨g3, 2, none⟩ : Addr)) (by have := hd.out; show _ ≤ g3; omega) (.int .u64 1000000000001))
          clear s1 s2 s3 s4
          have s1 := s1n
          have s2 := s2n
          have s3 := s3n
          have s4 := s4n
          clear s1n s2n s3n s4n
          clear hW8 hsz
          have p1 := Lib.hid (show W8.heap[q1]? = some (.cells (u8s (zerosB 160)) 24 (0, 0)) from (pk.out _ l3.out.1 (Array.getElem?_eq_some_iff.1 p1.out).1).trans p1.out)
          have p2 := Lib.hid (show W8.heap[q2]? = some (.cells (u8s idsO) 24 (0, 0)) from (pk.out _ l3.out.2.2.1 (Array.getElem?_eq_some_iff.1 p2.out).1).trans p2.out)
          have kc : W8.cell? ⟨g4, 10, none⟩ = some (.int .u32 6) := by rw [cell_of_row _ _ _ _ _ _ s4.out]; rfl
          have kf : W8.frozen? ⟨g4, 10, none⟩ = false := frozen_of_row _ _ _ _ _ s4.out
          have kl : g4 < W8.heap.size := (Array.getElem?_eq_some_iff.1 s4.out).1
          go_upto_region 29 with fail
          clear kc kf kl
          obtain ⟨W9, hW9⟩ : ∃ W, W = (W8.setCell ⟨g4, 10, none⟩ (.int .u32 500000003)) := ⟨_, rfl⟩
          rw [← hW9]
          have hsz : (W8.setCell ⟨g4, 10, none⟩ (.int .u32 500000003)).heap.size = W8.heap.size := World.size_setCell _ _ _
          have s1n := Lib.hid (show W9.heap[g1]? = some (.cells (manyO.c (.slice (some ⟨q1, 0, none⟩) 5 5)) 35 (0, 0)) by rw [hW9]; exact (setCell_rows g4 10 _ g1 (by have := hd.out; omega)).trans s1.out)
          have s2n := Lib.hid (show W9.heap[g2]? = some (.cells (twiceO.c (.slice (some ⟨q2, 0, none⟩) 2 2)) 35 (0, 0)) by rw [hW9]; exact (setCell_rows g4 10 _ g2 (by have := hd.out; omega)).trans s2.out)
          have s3n := Lib.hid (show W9.heap[g3]? = some (.cells (lateO.c (.slice none 0 0)) 35 (0, 0)) by rw [hW9]; exact (setCell_rows g4 10 _ g3 (by have := hd.out; omega)).trans s3.out)
          have s4n := Lib.hid (show W9.heap[g4]? = some (.cells (wideO.c (.slice none 0 0)) 35 (0, 0)) by rw [hW9]; exact setc s4.out 10 _ wideO (.slice none 0 0) rfl)
          have pk := Lib.hid (show ∀ q, q ≠ g4 → q < W8.heap.size → W9.heap[q]? = W8.heap[q]? by intro q hne hlt; rw [hW9]; exact setCell_rows g4 10 _ q hne)
          replace hS0 := Lib.hid (show Below w.heap.size w W9 by rw [hW9]; exact Below.setCell hS0.out (p := (⟨g4, 10, none⟩ : Addr)) (by have := hd.out; show _ ≤ g4; omega) (.int .u32 500000003))
          clear s1 s2 s3 s4
          have s1 := s1n
          have s2 := s2n
          have s3 := s3n
          have s4 := s4n
          clear s1n s2n s3n s4n
          clear hW9 hsz
          have p1 := Lib.hid (show W9.heap[q1]? = some (.cells (u8s (zerosB 160)) 24 (0, 0)) from (pk.out _ l3.out.2.1 (Array.getElem?_eq_some_iff.1 p1.out).1).trans p1.out)
          have p2 := Lib.hid (show W9.heap[q2]? = some (.cells (u8s idsO) 24 (0, 0)) from (pk.out _ l3.out.2.2.2 (Array.getElem?_eq_some_iff.1 p2.out).1).trans p2.out)
          have xP1 := Lib.hid (rdI_row p1.out 5 (by decide) (by decide))
          have xP2 := Lib.hid (rdI_row p2.out 2 (by decide) (by decide))
          clear p1 p2 pk l3 l2 hG hd
          go_upto_region 30 with (first | (refine wpList_load_row_g rfl 35 _ rfl g4 rfl 35 (wideO.c (.slice none 0 0)) (0, 0) _ s4.out Tryz.underlying35 rfl info_op ?_) | (go_at_call 40; (with_reducible refine (ms_wide _).mono ?_); rintro e9 w4 ⟨ma, mc, rfl, q2⟩; (try replace s1 := Lib.hid (rowB s1.out q2 (Array.getElem?_eq_some_iff.1 s1.out).1)); (try replace s2 := Lib.hid (rowB s2.out q2 (Array.getElem?_eq_some_iff.1 s2.out).1)); (try replace s3 := Lib.hid (rowB s3.out q2 (Array.getElem?_eq_some_iff.1 s3.out).1)); (try replace s4 := Lib.hid (rowB s4.out q2 (Array.getElem?_eq_some_iff.1 s4.out).1)); (try replace xP1 := Lib.hid (xP1.out.mono q2)); (try replace xP2 := Lib.hid (xP2.out.mono q2)); replace hS0 := Lib.hid (hS0.out.trans (Below.mono q2 hS0.out.size)); clear q2))
          go_upto_region 31 with (first | (refine wpList_load_row_g rfl 35 _ rfl g1 rfl 35 (manyO.c (.slice (some ⟨q1, 0, none⟩) 5 5)) (0, 0) _ s1.out Tryz.underlying35 rfl info_op ?_) | (go_at_call 41; (with_reducible refine (sg_arg _ _ xP1.out).mono ?_); rintro e9 w4 ⟨rfl, q2⟩; (try replace s1 := Lib.hid (rowB s1.out q2 (Array.getElem?_eq_some_iff.1 s1.out).1)); (try replace s2 := Lib.hid (rowB s2.out q2 (Array.getElem?_eq_some_iff.1 s2.out).1)); (try replace s3 := Lib.hid (rowB s3.out q2 (Array.getElem?_eq_some_iff.1 s3.out).1)); (try replace s4 := Lib.hid (rowB s4.out q2 (Array.getElem?_eq_some_iff.1 s4.out).1)); (try replace xP1 := Lib.hid (xP1.out.mono q2)); (try replace xP2 := Lib.hid (xP2.out.mono q2)); replace hS0 := Lib.hid (hS0.out.trans (Below.mono q2 hS0.out.size)); clear q2) | (refine storeNew _ rfl 35 _ _ rfl (zO.c (.slice none 0 0)) 35 rfl rfl info_op rfl (op_one zO none 0 0) ?_; intro wx hrx hbx; (try replace s1 := Lib.hid (rowB s1.out hbx (Array.getElem?_eq_some_iff.1 s1.out).1)); (try replace s2 := Lib.hid (rowB s2.out hbx (Array.getElem?_eq_some_iff.1 s2.out).1)); (try replace s3 := Lib.hid (rowB s3.out hbx (Array.getElem?_eq_some_iff.1 s3.out).1)); (try replace s4 := Lib.hid (rowB s4.out hbx (Array.getElem?_eq_some_iff.1 s4.out).1)); (try replace xP1 := Lib.hid (xP1.out.mono hbx)); (try replace xP2 := Lib.hid (xP2.out.mono hbx)); replace hS0 := Lib.hid (hS0.out.trans (Below.mono hbx hS0.out.size)); have r8 := Lib.hid hrx; clear hrx hbx))
          clear r8
          go_upto_region 32 with (first | (refine wpList_load_row_g rfl 35 _ rfl g1 rfl 35 (manyO.c (.slice (some ⟨q1, 0, none⟩) 5 5)) (0, 0) _ s1.out Tryz.underlying35 rfl info_op ?_) | (go_at_call 41; (with_reducible refine (sg_many _ _ xP1.out).mono ?_); rintro e9 w4 ⟨rfl, q2⟩; (try replace s1 := Lib.hid (rowB s1.out q2 (Array.getElem?_eq_some_iff.1 s1.out).1)); (try replace s2 := Lib.hid (rowB s2.out q2 (Array.getElem?_eq_some_iff.1 s2.out).1)); (try replace s3 := Lib.hid (rowB s3.out q2 (Array.getElem?_eq_some_iff.1 s3.out).1)); (try replace s4 := Lib.hid (rowB s4.out q2 (Array.getElem?_eq_some_iff.1 s4.out).1)); (try replace xP1 := Lib.hid (xP1.out.mono q2)); (try replace xP2 := Lib.hid (xP2.out.mono q2)); replace hS0 := Lib.hid (hS0.out.trans (Below.mono q2 hS0.out.size)); clear q2) | (refine storeNew _ rfl 35 _ _ rfl (zO.c (.slice none 0 0)) 35 rfl rfl info_op rfl (op_one zO none 0 0) ?_; intro wx hrx hbx; (try replace s1 := Lib.hid (rowB s1.out hbx (Array.getElem?_eq_some_iff.1 s1.out).1)); (try replace s2 := Lib.hid (rowB s2.out hbx (Array.getElem?_eq_some_iff.1 s2.out).1)); (try replace s3 := Lib.hid (rowB s3.out hbx (Array.getElem?_eq_some_iff.1 s3.out).1)); (try replace s4 := Lib.hid (rowB s4.out hbx (Array.getElem?_eq_some_iff.1 s4.out).1)); (try replace xP1 := Lib.hid (xP1.out.mono hbx)); (try replace xP2 := Lib.hid (xP2.out.mono hbx)); replace hS0 := Lib.hid (hS0.out.trans (Below.mono hbx hS0.out.size)); have r8 := Lib.hid hrx; clear hrx hbx))
          clear r8
          go_upto_region 33 with (first | (refine wpList_load_row_g rfl 35 _ rfl g2 rfl 35 (twiceO.c (.slice (some ⟨q2, 0, none⟩) 2 2)) (0, 0) _ s2.out Tryz.underlying35 rfl info_op ?_) | (go_at_call 41; (with_reducible refine (sg_twice _ _ xP2.out).mono ?_); rintro e9 w4 ⟨rfl, q2⟩; (try replace s1 := Lib.hid (rowB s1.out q2 (Array.getElem?_eq_some_iff.1 s1.out).1)); (try replace s2 := Lib.hid (rowB s2.out q2 (Array.getElem?_eq_some_iff.1 s2.out).1)); (try replace s3 := Lib.hid (rowB s3.out q2 (Array.getElem?_eq_some_iff.1 s3.out).1)); (try replace s4 := Lib.hid (rowB s4.out q2 (Array.getElem?_eq_some_iff.1 s4.out).1)); (try replace xP1 := Lib.hid (xP1.out.mono q2)); (try replace xP2 := Lib.hid (xP2.out.mono q2)); replace hS0 := Lib.hid (hS0.out.trans (Below.mono q2 hS0.out.size)); clear q2) | (refine storeNew _ rfl 35 _ _ rfl (zO.c (.slice none 0 0)) 35 rfl rfl info_op rfl (op_one zO none 0 0) ?_; intro wx hrx hbx; (try replace s1 := Lib.hid (rowB s1.out hbx (Array.getElem?_eq_some_iff.1 s1.out).1)); (try replace s2 := Lib.hid (rowB s2.out hbx (Array.getElem?_eq_some_iff.1 s2.out).1)); (try replace s3 := Lib.hid (rowB s3.out hbx (Array.getElem?_eq_some_iff.1 s3.out).1)); (try replace s4 := Lib.hid (rowB s4.out hbx (Array.getElem?_eq_some_iff.1 s4.out).1)); (try replace xP1 := Lib.hid (xP1.out.mono hbx)); (try replace xP2 := Lib.hid (xP2.out.mono hbx)); replace hS0 := Lib.hid (hS0.out.trans (Below.mono hbx hS0.out.size)); have r8 := Lib.hid hrx; clear hrx hbx))
          clear r8
          go_upto_region 34 with (first | (go_at_call 38; (with_reducible refine (dl0 _).mono ?_); rintro e9 w4 ⟨rfl, q2⟩; (try replace s1 := Lib.hid (rowB s1.out q2 (Array.getElem?_eq_some_iff.1 s1.out).1)); (try replace s2 := Lib.hid (rowB s2.out q2 (Array.getElem?_eq_some_iff.1 s2.out).1)); (try replace s3 := Lib.hid (rowB s3.out q2 (Array.getElem?_eq_some_iff.1 s3.out).1)); (try replace s4 := Lib.hid (rowB s4.out q2 (Array.getElem?_eq_some_iff.1 s4.out).1)); (try replace xP1 := Lib.hid (xP1.out.mono q2)); (try replace xP2 := Lib.hid (xP2.out.mono q2)); replace hS0 := Lib.hid (hS0.out.trans (Below.mono q2 hS0.out.size)); clear q2) | (refine storeNew _ rfl 35 _ _ rfl (zO.c (.slice none 0 0)) 35 rfl rfl info_op rfl (op_one zO none 0 0) ?_; intro wx hrx hbx; (try replace s1 := Lib.hid (rowB s1.out hbx (Array.getElem?_eq_some_iff.1 s1.out).1)); (try replace s2 := Lib.hid (rowB s2.out hbx (Array.getElem?_eq_some_iff.1 s2.out).1)); (try replace s3 := Lib.hid (rowB s3.out hbx (Array.getElem?_eq_some_iff.1 s3.out).1)); (try replace s4 := Lib.hid (rowB s4.out hbx (Array.getElem?_eq_some_iff.1 s4.out).1)); (try replace xP1 := Lib.hid (xP1.out.mono hbx)); (try replace xP2 := Lib.hid (xP2.out.mono hbx)); replace hS0 := Lib.hid (hS0.out.trans (Below.mono hbx hS0.out.size)); have r8 := Lib.hid hrx; clear hrx hbx))
          clear r8
          go_upto_region 35 with (first | (go_at_call 38; (with_reducible refine (dl1 _).mono ?_); rintro e9 w4 ⟨rfl, q2⟩; (try replace s1 := Lib.hid (rowB s1.out q2 (Array.getElem?_eq_some_iff.1 s1.out).1)); (try replace s2 := Lib.hid (rowB s2.out q2 (Array.getElem?_eq_some_iff.1 s2.out).1)); (try replace s3 := Lib.hid (rowB s3.out q2 (Array.getElem?_eq_some_iff.1 s3.out).1)); (try replace s4 := Lib.hid (rowB s4.out q2 (Array.getElem?_eq_some_iff.1 s4.out).1)); (try replace xP1 := Lib.hid (xP1.out.mono q2)); (try replace xP2 := Lib.hid (xP2.out.mono q2)); replace hS0 := Lib.hid (hS0.out.trans (Below.mono q2 hS0.out.size)); clear q2) | (refine storeNew _ rfl 35 _ _ rfl (zO.c (.slice none 0 0)) 35 rfl rfl info_op rfl (op_one zO none 0 0) ?_; intro wx hrx hbx; (try replace s1 := Lib.hid (rowB s1.out hbx (Array.getElem?_eq_some_iff.1 s1.out).1)); (try replace s2 := Lib.hid (rowB s2.out hbx (Array.getElem?_eq_some_iff.1 s2.out).1)); (try replace s3 := Lib.hid (rowB s3.out hbx (Array.getElem?_eq_some_iff.1 s3.out).1)); (try replace s4 := Lib.hid (rowB s4.out hbx (Array.getElem?_eq_some_iff.1 s4.out).1)); (try replace xP1 := Lib.hid (xP1.out.mono hbx)); (try replace xP2 := Lib.hid (xP2.out.mono hbx)); replace hS0 := Lib.hid (hS0.out.trans (Below.mono hbx hS0.out.size)); have r8 := Lib.hid hrx; clear hrx hbx))
          clear r8
          go_upto_region 36 with (first | (go_at_call 38; (with_reducible refine (dl2 _).mono ?_); rintro e9 w4 ⟨rfl, q2⟩; (try replace s1 := Lib.hid (rowB s1.out q2 (Array.getElem?_eq_some_iff.1 s1.out).1)); (try replace s2 := Lib.hid (rowB s2.out q2 (Array.getElem?_eq_some_iff.1 s2.out).1)); (try replace s3 := Lib.hid (rowB s3.out q2 (Array.getElem?_eq_some_iff.1 s3.out).1)); (try replace s4 := Lib.hid (rowB s4.out q2 (Array.getElem?_eq_some_iff.1 s4.out).1)); (try replace xP1 := Lib.hid (xP1.out.mono q2)); (try replace xP2 := Lib.hid (xP2.out.mono q2)); replace hS0 := Lib.hid (hS0.out.trans (Below.mono q2 hS0.out.size)); clear q2) | (refine storeNew _ rfl 35 _ _ rfl (zO.c (.slice none 0 0)) 35 rfl rfl info_op rfl (op_one zO none 0 0) ?_; intro wx hrx hbx; (try replace s1 := Lib.hid (rowB s1.out hbx (Array.getElem?_eq_some_iff.1 s1.out).1)); (try replace s2 := Lib.hid (rowB s2.out hbx (Array.getElem?_eq_some_iff.1 s2.out).1)); (try replace s3 := Lib.hid (rowB s3.out hbx (Array.getElem?_eq_some_iff.1 s3.out).1)); (try replace s4 := Lib.hid (rowB s4.out hbx (Array.getElem?_eq_some_iff.1 s4.out).1)); (try replace xP1 := Lib.hid (xP1.out.mono hbx)); (try replace xP2 := Lib.hid (xP2.out.mono hbx)); replace hS0 := Lib.hid (hS0.out.trans (Below.mono hbx hS0.out.size)); have r8 := Lib.hid hrx; clear hrx hbx))
          clear r8
          go_upto_region 37 with (first | (go_at_call 38; (with_reducible refine (dl3 _).mono ?_); rintro e9 w4 ⟨rfl, q2⟩; (try replace s1 := Lib.hid (rowB s1.out q2 (Array.getElem?_eq_some_iff.1 s1.out).1)); (try replace s2 := Lib.hid (rowB s2.out q2 (Array.getElem?_eq_some_iff.1 s2.out).1)); (try replace s3 := Lib.hid (rowB s3.out q2 (Array.getElem?_eq_some_iff.1 s3.out).1)); (try replace s4 := Lib.hid (rowB s4.out q2 (Array.getElem?_eq_some_iff.1 s4.out).1)); (try replace xP1 := Lib.hid (xP1.out.mono q2)); (try replace xP2 := Lib.hid (xP2.out.mono q2)); replace hS0 := Lib.hid (hS0.out.trans (Below.mono q2 hS0.out.size)); clear q2) | (refine storeNew _ rfl 35 _ _ rfl (zO.c (.slice none 0 0)) 35 rfl rfl info_op rfl (op_one zO none 0 0) ?_; intro wx hrx hbx; (try replace s1 := Lib.hid (rowB s1.out hbx (Array.getElem?_eq_some_iff.1 s1.out).1)); (try replace s2 := Lib.hid (rowB s2.out hbx (Array.getElem?_eq_some_iff.1 s2.out).1)); (try replace s3 := Lib.hid (rowB s3.out hbx (Array.getElem?_eq_some_iff.1 s3.out).1)); (try replace s4 := Lib.hid (rowB s4.out hbx (Array.getElem?_eq_some_iff.1 s4.out).1)); (try replace xP1 := Lib.hid (xP1.out.mono hbx)); (try replace xP2 := Lib.hid (xP2.out.mono hbx)); replace hS0 := Lib.hid (hS0.out.trans (Below.mono hbx hS0.out.size)); have r8 := Lib.hid hrx; clear hrx hbx))
          clear r8
          go_upto_region 38 with (go_at_call 43; (with_reducible refine (given_any _).mono ?_); rintro e9 w5 ⟨rfl, q2⟩; (try replace s1 := Lib.hid (rowB s1.out q2 (Array.getElem?_eq_some_iff.1 s1.out).1)); (try replace s2 := Lib.hid (rowB s2.out q2 (Array.getElem?_eq_some_iff.1 s2.out).1)); (try replace s3 := Lib.hid (rowB s3.out q2 (Array.getElem?_eq_some_iff.1 s3.out).1)); (try replace s4 := Lib.hid (rowB s4.out q2 (Array.getElem?_eq_some_iff.1 s4.out).1)); (try replace xP1 := Lib.hid (xP1.out.mono q2)); (try replace xP2 := Lib.hid (xP2.out.mono q2)); replace hS0 := Lib.hid (hS0.out.trans (Below.mono q2 hS0.out.size)); clear q2)
          go_upto_region 39 with fail
          obtain ⟨wx, hwx⟩ : ∃ W, W = w5.alloc (.cells #[.int .u32 (gO.au : Int), .slice none 0 0, .int .u64 8, .int .u8 gO.k, .string gO.key, .int .u8 gO.v.k, .int .i64 gO.v.n, .int .u64 (gO.v.b : Int), .string gO.v.s, .int .u32 (gO.e : Int), .int .u32 (gO.s : Int)] 35) := ⟨_, rfl⟩
          rw [← hwx]
          have hb5 := Lib.hid (show Below w5.heap.size w5 wx by rw [hwx]; exact below_a w5 _)
          have s5 := Lib.hid (show wx.heap[w5.heap.size]? = some (.cells (changedO.c (.slice none 0 0)) 35 (0, 0)) by rw [hwx]; exact heap_alloc_new w5 _)
          (try replace s1 := Lib.hid (rowB s1.out hb5.out (Array.getElem?_eq_some_iff.1 s1.out).1))
          (try replace s2 := Lib.hid (rowB s2.out hb5.out (Array.getElem?_eq_some_iff.1 s2.out).1))
          (try replace s3 := Lib.hid (rowB s3.out hb5.out (Array.getElem?_eq_some_iff.1 s3.out).1))
          (try replace s4 := Lib.hid (rowB s4.out hb5.out (Array.getElem?_eq_some_iff.1 s4.out).1))
          (try replace xP1 := Lib.hid (xP1.out.mono hb5.out))
          (try replace xP2 := Lib.hid (xP2.out.mono hb5.out))
          replace hS0 := Lib.hid (hS0.out.trans (Below.mono hb5.out hS0.out.size))
          obtain ⟨g5, hg5⟩ : ∃ g, g = w5.heap.size := ⟨_, rfl⟩
          rw [← hg5] at s5
          rw [← hg5]
          clear hwx hb5 hg5
          go_upto_region 40 with (first | (refine wpList_load_row_g rfl 35 _ rfl g1 rfl 35 (manyO.c (.slice (some ⟨q1, 0, none⟩) 5 5)) (0, 0) _ s1.out Tryz.underlying35 rfl info_op ?_) | (refine wpList_load_row_g rfl 35 _ rfl g2 rfl 35 (twiceO.c (.slice (some ⟨q2, 0, none⟩) 2 2)) (0, 0) _ s2.out Tryz.underlying35 rfl info_op ?_) | (refine wpList_load_row_g rfl 35 _ rfl g3 rfl 35 (lateO.c (.slice none 0 0)) (0, 0) _ s3.out Tryz.underlying35 rfl info_op ?_) | (refine wpList_load_row_g rfl 35 _ rfl g4 rfl 35 (wideO.c (.slice none 0 0)) (0, 0) _ s4.out Tryz.underlying35 rfl info_op ?_) | (go_at_call 42; (with_reducible refine (ck_many _ _ xP1.out).mono ?_); rintro e9 w4 ⟨rfl, q2⟩; (try replace s1 := Lib.hid (rowB s1.out q2 (Array.getElem?_eq_some_iff.1 s1.out).1)); (try replace s2 := Lib.hid (rowB s2.out q2 (Array.getElem?_eq_some_iff.1 s2.out).1)); (try replace s3 := Lib.hid (rowB s3.out q2 (Array.getElem?_eq_some_iff.1 s3.out).1)); (try replace s4 := Lib.hid (rowB s4.out q2 (Array.getElem?_eq_some_iff.1 s4.out).1)); (try replace s5 := Lib.hid (rowB s5.out q2 (Array.getElem?_eq_some_iff.1 s5.out).1)); (try replace xP1 := Lib.hid (xP1.out.mono q2)); (try replace xP2 := Lib.hid (xP2.out.mono q2)); replace hS0 := Lib.hid (hS0.out.trans (Below.mono q2 hS0.out.size)); clear q2) | (go_at_call 42; (with_reducible refine (ck_twice _ _ xP2.out).mono ?_); rintro e9 w4 ⟨rfl, q2⟩; (try replace s1 := Lib.hid (rowB s1.out q2 (Array.getElem?_eq_some_iff.1 s1.out).1)); (try replace s2 := Lib.hid (rowB s2.out q2 (Array.getElem?_eq_some_iff.1 s2.out).1)); (try replace s3 := Lib.hid (rowB s3.out q2 (Array.getElem?_eq_some_iff.1 s3.out).1)); (try replace s4 := Lib.hid (rowB s4.out q2 (Array.getElem?_eq_some_iff.1 s4.out).1)); (try replace s5 := Lib.hid (rowB s5.out q2 (Array.getElem?_eq_some_iff.1 s5.out).1)); (try replace xP1 := Lib.hid (xP1.out.mono q2)); (try replace xP2 := Lib.hid (xP2.out.mono q2)); replace hS0 := Lib.hid (hS0.out.trans (Below.mono q2 hS0.out.size)); clear q2) | (go_at_call 42; (with_reducible refine (ck_late _).mono ?_); rintro e9 w4 ⟨rfl, q2⟩; (try replace s1 := Lib.hid (rowB s1.out q2 (Array.getElem?_eq_some_iff.1 s1.out).1)); (try replace s2 := Lib.hid (rowB s2.out q2 (Array.getElem?_eq_some_iff.1 s2.out).1)); (try replace s3 := Lib.hid (rowB s3.out q2 (Array.getElem?_eq_some_iff.1 s3.out).1)); (try replace s4 := Lib.hid (rowB s4.out q2 (Array.getElem?_eq_some_iff.1 s4.out).1)); (try replace s5 := Lib.hid (rowB s5.out q2 (Array.getElem?_eq_some_iff.1 s5.out).1)); (try replace xP1 := Lib.hid (xP1.out.mono q2)); (try replace xP2 := Lib.hid (xP2.out.mono q2)); replace hS0 := Lib.hid (hS0.out.trans (Below.mono q2 hS0.out.size)); clear q2) | (go_at_call 42; (with_reducible refine (ck_wide _).mono ?_); rintro e9 w4 ⟨rfl, q2⟩; (try replace s1 := Lib.hid (rowB s1.out q2 (Array.getElem?_eq_some_iff.1 s1.out).1)); (try replace s2 := Lib.hid (rowB s2.out q2 (Array.getElem?_eq_some_iff.1 s2.out).1)); (try replace s3 := Lib.hid (rowB s3.out q2 (Array.getElem?_eq_some_iff.1 s3.out).1)); (try replace s4 := Lib.hid (rowB s4.out q2 (Array.getElem?_eq_some_iff.1 s4.out).1)); (try replace s5 := Lib.hid (rowB s5.out q2 (Array.getElem?_eq_some_iff.1 s5.out).1)); (try replace xP1 := Lib.hid (xP1.out.mono q2)); (try replace xP2 := Lib.hid (xP2.out.mono q2)); replace hS0 := Lib.hid (hS0.out.trans (Below.mono q2 hS0.out.size)); clear q2) | (go_at_call 19; (with_reducible refine (vf_wide _ (hGw.out.mono hS0.out)).mono ?_); rintro e9 w4 ⟨rfl, q2⟩; (try replace s1 := Lib.hid (rowB s1.out q2 (Array.getElem?_eq_some_iff.1 s1.out).1)); (try replace s2 := Lib.hid (rowB s2.out q2 (Array.getElem?_eq_some_iff.1 s2.out).1)); (try replace s3 := Lib.hid (rowB s3.out q2 (Array.getElem?_eq_some_iff.1 s3.out).1)); (try replace s4 := Lib.hid (rowB s4.out q2 (Array.getElem?_eq_some_iff.1 s4.out).1)); (try replace s5 := Lib.hid (rowB s5.out q2 (Array.getElem?_eq_some_iff.1 s5.out).1)); (try replace xP1 := Lib.hid (xP1.out.mono q2)); (try replace xP2 := Lib.hid (xP2.out.mono q2)); replace hS0 := Lib.hid (hS0.out.trans (Below.mono q2 hS0.out.size)); clear q2))
          go_wp2_with (first | (refine wpList_load_row_g rfl 35 _ rfl g5 rfl 35 (changedO.c (.slice none 0 0)) (0, 0) _ s5.out Tryz.underlying35 rfl info_op ?_) | (go_at_call 42; (with_reducible refine (ck_changed _).mono ?_); rintro e9 w4 ⟨rfl, q2⟩; (try replace s1 := Lib.hid (rowB s1.out q2 (Array.getElem?_eq_some_iff.1 s1.out).1)); (try replace s2 := Lib.hid (rowB s2.out q2 (Array.getElem?_eq_some_iff.1 s2.out).1)); (try replace s3 := Lib.hid (rowB s3.out q2 (Array.getElem?_eq_some_iff.1 s3.out).1)); (try replace s4 := Lib.hid (rowB s4.out q2 (Array.getElem?_eq_some_iff.1 s4.out).1)); (try replace s5 := Lib.hid (rowB s5.out q2 (Array.getElem?_eq_some_iff.1 s5.out).1)); (try replace xP1 := Lib.hid (xP1.out.mono q2)); (try replace xP2 := Lib.hid (xP2.out.mono q2)); replace hS0 := Lib.hid (hS0.out.trans (Below.mono q2 hS0.out.size)); clear q2) | (go_at_call 44; (with_reducible refine (alive6 _ (hGw.out.mono hS0.out)).mono ?_); rintro e9 w4 ⟨rfl, q2⟩; (try replace s1 := Lib.hid (rowB s1.out q2 (Array.getElem?_eq_some_iff.1 s1.out).1)); (try replace s2 := Lib.hid (rowB s2.out q2 (Array.getElem?_eq_some_iff.1 s2.out).1)); (try replace s3 := Lib.hid (rowB s3.out q2 (Array.getElem?_eq_some_iff.1 s3.out).1)); (try replace s4 := Lib.hid (rowB s4.out q2 (Array.getElem?_eq_some_iff.1 s4.out).1)); (try replace s5 := Lib.hid (rowB s5.out q2 (Array.getElem?_eq_some_iff.1 s5.out).1)); (try replace xP1 := Lib.hid (xP1.out.mono q2)); (try replace xP2 := Lib.hid (xP2.out.mono q2)); replace hS0 := Lib.hid (hS0.out.trans (Below.mono q2 hS0.out.size)); clear q2))
          go_ret
          exact ⟨rfl, hS0.out⟩
end Go.Proofs.YtdlblhoaddfanaaGreatDoor.wir.val.top
namespace Go.Proofs.YtdlblhoaddfanaaGreatDoor
open Go.ChangeShapes Go.WideShapes Go.ChangeAt Go.WideMaps Go.WideElems Go.RowKit Go.YtdlblhoaddfanaaGreatDoor
set_option linter.unusedVariables false
theorem own : ownKnob Tryz.prog.godebug = none := by kernel_rfl
theorem laidOut : laidOutB Tryz.prog = true := by kernel_rfl
theorem gFirst : Tryz.prog.globalNamed "braid/digest.firstWords" = some 0 := by kernel_rfl
theorem gConst : Tryz.prog.globalNamed "braid/digest.constants" = some 2 := by kernel_rfl
theorem tFirst : (Tryz.prog.globals[0]?).map (·.type) = some 144 := by kernel_rfl
theorem tConst : (Tryz.prog.globals[2]?).map (·.type) = some 207 := by kernel_rfl
def laidL : List (String × DataW Unit) := [("braid/digest.firstWords", Rows.laid_braid_digest_firstWords), ("braid/digest.constants", Rows.laid_braid_digest_constants)]
section
variable {H : Type} {enc : TypeId × Value → H} {P : Program} {w : World} {base : Nat} {sp : Nat → Bool} {held : Bool}
def theInt : Value → Int
  | .int _ k => k
  | _ => 0
theorem trod_ints {fuel : Nat} {t e : TypeId} {n : Nat} {kd : IntKind} {cs : List Value} {x : DataW H × List MemPlace} (ht : P.underlying t = some (.array n e)) (he : P.underlying e = some (.int kd)) (hc : P.cellsOf e = 1) (hct : P.cellsOf t = n)
    (h : DataW.trod enc P w base sp held fuel t cs = some x) : ∃ ks : List Int, cs = ks.map (Value.int kd) ∧ ks.length = n ∧ (∀ k ∈ ks, (Lit.int kd k).wf = true) ∧ x.1 = .agg (ks.map fun k => .lit (.int kd k)) := by
  obtain ⟨xs, m, rfl, rfl, hl, hn, hel⟩ := DataW.trod_array ht h
  have hlen : cs.length = n := hl.trans hct
  have key : ∀ i, i < n → ∃ k, cs[i]? = some (.int kd k) ∧ (Lit.int kd k).wf = true ∧ xs[i]? = some (.lit (.int kd k), []) := by
    intro i hi
    have hx : xs[i]? = some xs[i] := List.getElem?_eq_getElem (by omega)
    have h1 := hel i hi
    rw [hc, Nat.mul_one, hx] at h1
    obtain ⟨k, e1, e2, e3⟩ := DataW.trod_int he h1
    refine ⟨k, ?_, e3, by rw [hx, e2]⟩
    have e4 : ((cs.drop i).take 1)[0]? = some (.int kd k) := by rw [e1]; rfl
    simpa [List.getElem?_take, List.getElem?_drop] using e4
  refine ⟨cs.map theInt, ?_, by simp [hlen], ?_, ?_⟩
  · apply List.ext_getElem?
    intro i
    by_cases hi : i < n
    · obtain ⟨k, e1, _, _⟩ := key i hi
      simp [e1, theInt]
    · rw [List.getElem?_eq_none (by omega), List.getElem?_eq_none (by simp; omega)]
  · intro k hk
    obtain ⟨i, hi, rfl⟩ := List.getElem_of_mem hk
    have hi' : i < n := by simpa [hlen] using hi
    obtain ⟨k, e1, e2, _⟩ := key i hi'
    have : (cs.map theInt)[i]? = some k := by simp [e1, theInt]
    rw [List.getElem?_eq_getElem hi] at this
    rw [Option.some.inj this]; exact e2
  · show DataW.agg _ = DataW.agg _
    congr 1
    apply List.ext_getElem?
    intro i
    by_cases hi : i < n
    · obtain ⟨k, e1, _, e3⟩ := key i hi
      simp [e1, e3, theInt]
    · rw [List.getElem?_eq_none (by simp; omega), List.getElem?_eq_none (by simp; omega)]
theorem trodAll_stays (hl : laidOutB P = true) {W W' : World} {sp' : Nat → Bool} : ∀ {ts : List TypeId} {vs : List Value} {ds : List (DataW H)} {ps : List MemPlace}, (∀ t ∈ ts, P.readableRec t = true ∧ t < P.types.size) →
    DataW.TrodAll enc P W base (fun _ => true) true ts vs ds ps → (∀ p ∈ ps, W.sameAt W' p) → (∀ p ∈ ps, sp' p.block = true) → DataW.TrodAll enc P W' base sp' true ts vs ds ps
  | [], [], [], _, _, h, _, _ => h
  | [], [], _ :: _, _, _, h, _, _ => h.elim
  | [], _ :: _, _, _, _, h, _, _ => by cases ‹List (DataW H)› <;> exact h.elim
  | _ :: _, [], _, _, _, h, _, _ => by cases ‹List (DataW H)› <;> exact h.elim
  | _ :: _, _ :: _, [], _, _, h, _, _ => h.elim
  | t :: ts, v :: vs, d :: ds, ps, ht, h, hs, hp => by
    obtain ⟨p, q, h1, h2, rfl⟩ := h
    obtain ⟨r1, r2⟩ := ht t List.mem_cons_self
    exact ⟨p, q, Trod_stays hl r1 r2 h1 (fun x hx => hs x (List.mem_append_left _ hx)) (fun x hx => hp x (List.mem_append_left _ hx)),
      trodAll_stays hl (fun u hu => ht u (List.mem_cons_of_mem _ hu)) h2 (fun x hx => hs x (List.mem_append_right _ hx)) (fun x hx => hp x (List.mem_append_right _ hx)), rfl⟩
/-- A law's end: true, in a world whose old memory is as' it was. -/
theorem law_post {f : Func} {s : ChangeSpec} {apart fresh handsOn : Bool} {W W' : World} {args : Array Value} {v : Value} {ds gs : List (DataW H)} {before : List MemPlace} (hl : laidOutB P = true)
    (hts : ∀ t ∈ f.params.toList, P.readableRec t = true ∧ t < P.types.size) (hvs : varsRowed P s.vars = true)
    (hW : DataW.Whole enc P f.params.toList s.vars apart W args.toList ds gs before) (hb : Below W.heap.size W W')
    (hres : ∀ (b : Nat) (sp : Nat → Bool) (hd : Bool), DataW.TrodAll enc P W' b sp hd f.resultTypes.toList (v.resultList f.resultTypes.size) (s.fn H (ds ++ gs)).results [])
    (hargs : (s.fn H (ds ++ gs)).args = ds) (hvars : (s.fn H (ds ++ gs)).vars = gs) :
    s.post enc P f apart fresh handsOn false W args v W' := by
  have hW2 := hW
  have hlt : ∀ p ∈ before, p.block < W.heap.size := fun p hp => hW.lt p hp
  obtain ⟨p, q, hA, hV, rfl, hfz, hnd⟩ := hW
  refine ⟨ds, gs, p ++ q, [], p, q, hW2, hres _ _ _, ?_, ?_, hb.frame _, fun h => by cases h⟩
  · rw [hargs]
    exact trodAll_stays hl hts hA (fun x hx => hb.same (hlt x (List.mem_append_left _ hx))) (fun x hx => by simpa using hlt x (List.mem_append_left _ hx))
  · rw [hvars]
    exact Below.trodVars hl hb hvs hV
end
theorem u32s_of {cs : Array Value} {ks : List Int} (h : cs.toList = ks.map (Value.int .u32)) : cs = u32s ks := by
  apply Array.toList_inj.1
  rw [h]; simp [u32s]
theorem lits_inj : ∀ {a b : List Int}, (a.map fun k => (DataW.lit (.int .u32 k) : DataW Unit)) = b.map (fun k => .lit (.int .u32 k)) → a = b
  | [], [], _ => rfl
  | [], _ :: _, h => by simp at h
  | _ :: _, [], h => by simp at h
  | a :: xs, b :: ys, h => by
    simp only [List.map_cons, List.cons.injEq, DataW.lit.injEq, Lit.int.injEq, true_and] at h
    rw [h.1, lits_inj h.2]
/-- What the condition on the listed variables gives the walks. -/
theorem of_laid {W : World} (h : laidMetH Tryz.prog laidL W) : ∃ Tg Tf : TypeId, W.heap[2]? = some (.cells (u32s constW) Tg (0, 0)) ∧ W.heap[0]? = some (.cells firstW.cells Tf (0, 0)) := by
  rw [MakeChecks.laidMetH_plain _ _ _ (by kernel_rfl)] at h
  obtain ⟨ps, ⟨g0, t0, cs0, f0, p0, q0, hg0, ht0, hv0, hd0, ⟨g1, t1, cs1, f1, p1, q1, hg1, ht1, hv1, hd1, _, eq1⟩, eq0⟩, _, hm⟩ := h
  obtain rfl := Option.some.inj (gFirst.symm.trans hg0)
  obtain rfl := Option.some.inj (gConst.symm.trans hg1)
  obtain rfl := Option.some.inj (tFirst.symm.trans ht0)
  obtain rfl := Option.some.inj (tConst.symm.trans ht1)
  obtain ⟨k0, a0, l0, _, x0⟩ := trod_ints Tryz.underlying144 Tryz.underlying25 (by kernel_rfl) (by kernel_rfl) hd0
  obtain ⟨k1, a1, l1, _, x1⟩ := trod_ints Tryz.underlying207 Tryz.underlying25 (by kernel_rfl) (by kernel_rfl) hd1
  have c0 := u32s_of a0
  have c1 := u32s_of a1
  have d0 : k0 = firstW.list := lits_inj (DataW.agg.inj (x0.symm.trans rfl))
  have d1 : k1 = constW := lits_inj (DataW.agg.inj (x1.symm.trans rfl))
  have z0 : cs0.size = 8 := by rw [c0]; simpa [u32s] using l0
  have z1 : cs1.size = 64 := by rw [c1]; simpa [u32s] using l1
  have m0 := (hm 0 0 (by rw [eq0]; exact List.mem_append_left _ (List.mem_append_left _ (MemPlace.mem_row.2 ⟨0, by omega, rfl⟩)))).1
  have m1 := (hm 2 0 (by rw [eq0, eq1]; exact List.mem_append_right _ (List.mem_append_left _ (List.mem_append_left _ (MemPlace.mem_row.2 ⟨0, by omega, rfl⟩))))).1
  obtain ⟨e0, T0, m0⟩ := m0
  obtain ⟨e1, T1, m1⟩ := m1
  unfold World.var? at hv0 hv1
  rw [gFirst] at hv0
  rw [gConst] at hv1
  simp only [Option.bind_some, m0, m1, Option.some.injEq] at hv0 hv1
  refine ⟨T1, T0, ?_, ?_⟩
  · rw [m1, hv1, c1, d1]
  · rw [m0, hv0, c0, d0]; rfl
/-- The door's own heap meets the condition. -/
theorem door_met (os : Os) (args : Array Value) : laidMetH Tryz.prog laidL ((World.doorLaid Tryz.prog 400 os).forCall (fun _ _ => 0) ⟨#[], args, []⟩).memory :=
  laidMetH_of_parts3 (fuel := 8) (laidMet_of_run' 8 (by kernel_rfl) (by kernel_rfl)) (by kernel_rfl) (by kernel_rfl)
end Go.Proofs.YtdlblhoaddfanaaGreatDoor
namespace Go.Proofs.YtdlblhoaddfanaaGreatDoor
open Go.ChangeShapes Go.WideShapes Go.ChangeAt Go.WideMaps Go.WideElems Go.RowKit Go.YtdlblhoaddfanaaGreatDoor
set_option linter.unusedVariables false
section
variable {H : Type} {enc : TypeId × Value → H} {P : Program} {W : World}
end
end Go.Proofs.YtdlblhoaddfanaaGreatDoor

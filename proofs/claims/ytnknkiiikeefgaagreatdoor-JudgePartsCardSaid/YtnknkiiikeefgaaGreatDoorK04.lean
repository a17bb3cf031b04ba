/- Layer 6: the reader of operations: ids, keys, values. -/
import Derived.Test.YtnknkiiikeefgaaGreatDoorK03
namespace Go.Proofs.YtnknkiiikeefgaaGreatDoor.wir.val
open Go.RowKit Go.YtnknkiiikeefgaaGreatDoor
set_option linter.unusedVariables false
theorem heldI_but {B g : Nat} {w w' : World} {v : Value} {n : Nat} {F : List Int} (h : HeldI B w v n F) (hg : g < B) (k : w.grownBy w' (some g)) : HeldI B w' v n F := fun wx h1 h2 =>
  h wx (fun i k1 k2 => (h1 i k1 (Nat.lt_of_lt_of_le k2 k.size)).trans (k.block i k2 (fun e => by have := Option.some.inj e; omega))) (Nat.le_trans k.size h2)
theorem butRow {w w' : World} {g k : Nat} {o : Obj} (h : w.grownBy w' (some g)) (hk : w.heap[k]? = some o) (hne : g ≠ k) : w'.heap[k]? = some o :=
  (h.block k (Array.getElem?_eq_some_iff.1 hk).1 (fun e => hne (Option.some.inj e).symm)).trans hk
theorem St.lt {W0 w : World} {g : Nat} {l : List Int} {fl : Bool} (h : St W0 g w l fl) : g < w.heap.size := by
  obtain ⟨_, _, _, _, _, hrow⟩ := h
  exact (Array.getElem?_eq_some_iff.1 hrow).1
theorem St.low {W0 w w' : World} {g B : Nat} {l : List Int} {fl : Bool} (h : St W0 g w l fl) (k : Below B w w') (hg : g < B) (hB : W0.heap.size ≤ B) : St W0 g w' l fl := by
  obtain ⟨hb, hg0, a, c, hr, hrow⟩ := h
  exact ⟨hb.trans (k.mono hB), hg0, a, c, hr, (k.block g hg).trans hrow⟩
theorem but_below {w w2 w9 : World} {r : Option Nat} (h : w.grownBy w2 r) (k : Below w.heap.size w2 w9) : w.grownBy w9 r :=
  ⟨k.os.trans h.os, k.tape.trans h.tape, k.output.trans h.output, Nat.le_trans h.size k.size, fun i hi hn => (k.block i hi).trans (h.block i hi hn)⟩
theorem RdOut.low {α : Type} {W0 w w2 w9 : World} {g : Nat} {l : List Int} {fl : Bool} {r : Option (α × List Int)} {x : α} (h : RdOut W0 g w l fl r x w2) (k : Below w.heap.size w2 w9) (hg : g < w.heap.size) (hB : W0.heap.size ≤ w.heap.size) : RdOut W0 g w l fl r x w9 := by
  obtain ⟨l', fl', q1, q2, q3, q4, q5⟩ := h
  exact ⟨l', fl', q1.low k hg hB, but_below q2 k, q3, q4, q5⟩
set_option maxHeartbeats 1000000 in
set_option maxRecDepth 100000 in
theorem ids_rd {W0 w : World} {g : Nat} {l : List Int} {fl : Bool} (h : St W0 g w l fl) (hl : Bytes l) (hlm : l.length ≤ 1000000) :
    Calls Tryz.prog 114 #[.pointer (some ⟨g, 0, none⟩)] w fun e w' => ∃ (a : Option Addr) (n c : Nat) (F : List Int), e = .returned (.slice a n c) ∧ HeldI w.heap.size w' (.slice a n c) n F ∧ Bytes F ∧ n ≤ 4 ∧ RdOut W0 g w l fl (rIds l) (n, F) w' := by
  obtain ⟨a, c, hr, c0⟩ := h.rd
  have hno : ∀ w1, Below w.heap.size w w1 → rIds l = none → Calls Tryz.prog 156 #[.pointer (some ⟨g, 0, none⟩), .int .i64 0, .int .i64 12] w1 fun e w' => IsRet e ∧ Hid (∃ (a : Option Addr) (n c : Nat) (F : List Int), Value.slice none 0 0 = .slice a n c ∧ HeldI w.heap.size w' (.slice a n c) n F ∧ Bytes F ∧ n ≤ 4 ∧ RdOut W0 g w l fl (rIds l) (n, F) w') := fun w1 hb1 hn =>
    (skip_bad (h.kept hb1) 0 12 rfl).mono fun e w' ⟨q0, q1, q2⟩ => ⟨q0, none, 0, 0, [], rfl, heldI_nil _ _, (fun i => by simp [ith]), by omega, l, true, q1, but_trans (but_of hb1) q2, Nat.le_refl _, hl, .inl ⟨rfl, hn⟩⟩
  cases hre : readC l 4 32 with
  | none =>
    have hn : rIds l = none := by unfold rIds; rw [hre]
    have hN := Lib.hid (readIDs_no l _ 4 (by omega) (by omega) w hr hl hlm hre)
    have hS := Lib.hid (hno w (Below.refl _ _) hn)
    clear hno h hl hr hn hre
    generalize rIds l = RN at *
    generalize l.length = N at *
    go_enter Tryz.func114, Tryz.ntmps114
    go_wp2_with (first
      | (go_at_call 155; (with_reducible refine (hN.out).mono ?_); rintro e w1 ⟨rfl, rfl⟩)
      | (go_at_call 156; (with_reducible refine (hS.out).mono ?_); rintro e w2 ⟨⟨z, rfl⟩, q1⟩; have q1 := Lib.hid q1))
    go_ret
    obtain ⟨a, n, c, F, h1, h2⟩ := q1.out.out
    exact ⟨a, n, c, F, by rw [← h1]; rfl, h2⟩
  | some p =>
    obtain ⟨n, u⟩ := p
    have hN := Lib.hid (readIDs_ok l _ 4 (by omega) (by omega) w hr hl hlm n u hre)
    obtain ⟨c1, c2, c3⟩ := readC_some hre
    obtain ⟨a1, a2, a3, a4⟩ := readF_some hl c1
    have hlen : ((l.drop u).take (n * 32)).length = 32 * n := by rw [List.length_take, List.length_drop]; omega
    cases hri : riseF ((l.drop u).take (n * 32)) n with
    | false =>
      have hn : rIds l = none := by unfold rIds; rw [hre]; simp only; rw [if_neg (by rw [hri]; decide)]
      have hS := Lib.hid (fun w1 hb1 => hno w1 hb1 hn)
      clear hno h hl hr hn hre c1 c2 c3 a1 a2 a3 a4 hlen
      generalize rIds l = RN at *
      generalize l.length = N at *
      go_enter Tryz.func114, Tryz.ntmps114
      go_wp2_with (first
        | (go_at_call 155; (with_reducible refine (hN.out).mono ?_); intro e w1 hpost; unfold readIDsPost at hpost; rw [hri, if_neg (by decide)] at hpost; obtain ⟨hb1, rfl⟩ := hpost; have hS1 := Lib.hid (hS.out w1 hb1); clear hb1)
        | (go_at_call 156; (with_reducible refine (hS1.out).mono ?_); rintro e w2 ⟨⟨z, rfl⟩, q1⟩; have q1 := Lib.hid q1))
      go_ret
      obtain ⟨a, n, c, F, h1, h2⟩ := q1.out.out
      exact ⟨a, n, c, F, by rw [← h1]; rfl, h2⟩
    | true =>
      have hn : rIds l = some ((n, (l.drop u).take (n * 32)), l.drop (u + n * 32)) := by unfold rIds; rw [hre]; simp only; rw [if_pos hri]
      have hS := Lib.hid (fun w1 (hb1 : Below w.heap.size w w1) (hrow : w1.heap[w.heap.size]? = some (.cells (u8s ((l.drop u).take (n * 32))) 24 (0, 0))) => (skip_ok (h.kept hb1) (u + n * 32) (by omega) hlm).mono (R' := fun e w' => IsRet e ∧ Hid (HeldI w.heap.size w' (.slice (some ⟨w.heap.size, 0, none⟩) n n) n ((l.drop u).take (n * 32)) ∧ Bytes ((l.drop u).take (n * 32)) ∧ n ≤ 4 ∧ RdOut W0 g w l fl (rIds l) (n, (l.drop u).take (n * 32)) w')) fun e w' ⟨q0, q1, q2⟩ => ⟨q0,
        heldI_but (heldI_row hrow n hlen (by omega) (Nat.le_refl _)) h.lt q2, bytes_take _ _ (bytes_drop _ _ hl), by omega, _, _, q1, but_trans (but_of hb1) q2, by rw [List.length_drop]; omega, bytes_drop _ _ hl, .inr ⟨rfl, hn⟩⟩)
      obtain ⟨V, hV⟩ : ∃ V, u + n * 32 = V := ⟨_, rfl⟩
      rw [hV] at hN hS
      clear hV hno h hl hr hn hre c1 c2 c3 a1 a2 a3 a4 hlen
      generalize rIds l = RN at *
      generalize l.length = N at *
      go_enter Tryz.func114, Tryz.ntmps114
      go_wp2_with (first
        | (go_at_call 155; (with_reducible refine (hN.out).mono ?_); intro e w1 hpost; unfold readIDsPost at hpost; rw [hri, if_pos rfl] at hpost; obtain ⟨hb1, rfl, hrow⟩ := hpost; have hS1 := Lib.hid (hS.out w1 hb1 hrow); clear hb1 hrow)
        | (go_at_call 156; (with_reducible refine (hS1.out).mono ?_); rintro e w2 ⟨⟨z, rfl⟩, q1⟩; have q1 := Lib.hid q1))
      go_ret
      exact ⟨_, n, n, _, rfl, q1.out.out⟩
set_option maxHeartbeats 1000000 in
set_option maxRecDepth 100000 in
theorem key_rd {W0 w : World} {g : Nat} {l : List Int} {fl : Bool} (h : St W0 g w l fl) (hl : Bytes l) (hlm : l.length ≤ 1000000) :
    Calls Tryz.prog 158 #[.pointer (some ⟨g, 0, none⟩)] w fun e w' => ∃ s : ByteArray, e = .returned (.string s) ∧ s.size ≤ 20 ∧ RdOut W0 g w l fl (rKey l) s w' := by
  obtain ⟨a, c, hr, c0⟩ := h.rd
  cases hre : readC l 20 1 with
  | none =>
    have hn : rKey l = none := by unfold rKey; rw [hre]
    have hN := Lib.hid (readBytes_no l _ 20 (by omega) (by omega) w hr hl hlm hre)
    have hS := Lib.hid ((skip_bad h 0 12 rfl).mono (R' := fun e w' => IsRet e ∧ Hid (RdOut W0 g w l fl (rKey l) (toS []) w')) fun e w' ⟨q0, q1, q2⟩ => ⟨q0, l, true, q1, q2, Nat.le_refl _, hl, .inl ⟨rfl, hn⟩⟩)
    have hkc := fun wx => run_toS (P := Tryz.prog) (w := wx) (v := .slice none 0 0) (l := []) (.inl ⟨none, 0, rfl, fun _ => rfl, rfl⟩) 83 9 5 Tryz.underlying83 Tryz.underlying5 Tryz.underlying9
    clear h hl hr hn hre
    have hsz := Lib.hid (show (toS []).size ≤ 20 by decide)
    generalize toS [] = s0 at *
    generalize rKey l = RN at *
    generalize l.length = N at *
    go_enter Tryz.func158, Tryz.ntmps158
    go_wp2_with (first
      | (go_at_call 189; (with_reducible refine (hN.out).mono ?_); rintro e w1 ⟨rfl, rfl⟩)
      | (go_at_call 156; (with_reducible refine (hS.out).mono ?_); rintro e w2 ⟨⟨z, rfl⟩, q1⟩; have q1 := Lib.hid q1))
    go_ret
    exact ⟨s0, rfl, hsz.out, q1.out.out⟩
  | some p =>
    obtain ⟨n, u⟩ := p
    have hN := Lib.hid (readBytes_ok l _ 20 (by omega) (by omega) w hr hl hlm n u hre)
    obtain ⟨c1, c2, c3⟩ := readC_some hre
    obtain ⟨a1, a2, a3, a4⟩ := readF_some hl c1
    rw [Nat.div_one] at c3
    have hlen : ((l.drop u).take n).length = n := by rw [List.length_take, List.length_drop]; omega
    have hn : rKey l = some (toS ((l.drop u).take n), l.drop (u + n)) := by unfold rKey; rw [hre]
    have hsz := Lib.hid (show (toS ((l.drop u).take n)).size ≤ 20 by rw [toS_size, hlen]; omega)
    have hS := Lib.hid (fun w1 (hb1 : Below w.heap.size w w1) (hrow : w1.heap[w.heap.size]? = some (.cells (u8s ((l.drop u).take n)) 5 (0, 0))) => (skip_ok (h.kept hb1) (u + n) (by omega) hlm).mono (R' := fun e w' => IsRet e ∧ w'.heap[w.heap.size]? = some (.cells (u8s ((l.drop u).take n)) 5 (0, 0)) ∧ Hid (RdOut W0 g w l fl (rKey l) (toS ((l.drop u).take n)) w')) fun e w' ⟨q0, q1, q2⟩ => ⟨q0,
      butRow q2 hrow (by have := h.lt; omega), _, _, q1, but_trans (but_of hb1) q2, by rw [List.length_drop]; omega, bytes_drop _ _ hl, .inr ⟨rfl, hn⟩⟩)
    have hkc := Lib.hid (fun (wx : World) (hrow : wx.heap[w.heap.size]? = some (.cells (u8s ((l.drop u).take n)) 5 (0, 0))) => run_toS (P := Tryz.prog) (rdB_row hrow n hlen (by unfold maxLen; omega)) 83 9 5 Tryz.underlying83 Tryz.underlying5 Tryz.underlying9)
    obtain ⟨V, hV⟩ : ∃ V, u + n = V := ⟨_, rfl⟩
    rw [hV] at hN hS
    clear hV h hl hr hn hre c1 c2 c3 a1 a2 a3 a4 hlen
    generalize toS ((l.drop u).take n) = s0 at *
    generalize (l.drop u).take n = R at *
    generalize rKey l = RN at *
    generalize l.length = N at *
    go_enter Tryz.func158, Tryz.ntmps158
    go_wp2_with (first
      | (go_at_call 189; (with_reducible refine (hN.out).mono ?_); rintro e w1 ⟨rfl, hrow, hb1⟩; have hS1 := Lib.hid (hS.out w1 hb1 hrow); clear hb1 hrow)
      | (go_at_call 156; (with_reducible refine (hS1.out).mono ?_); rintro e w2 ⟨⟨z, rfl⟩, q0, q1⟩; have q1 := Lib.hid q1; have hk2 := hkc.out w2 q0; clear q0))
    go_ret
    exact ⟨s0, rfl, hsz.out, q1.out.out⟩
set_option maxHeartbeats 1000000 in
set_option maxRecDepth 100000 in
theorem value_rd {W0 w : World} {g : Nat} {l : List Int} {fl : Bool} (h : St W0 g w l fl) (hl : Bytes l) (hlm : l.length ≤ 1000000) :
    Calls Tryz.prog 159 #[.pointer (some ⟨g, 0, none⟩)] w fun e w' => ∃ v : Va, e = .returned v.v ∧ v.fit ∧ RdOut W0 g w l fl (rVal l) v w' := by
  have hlt := Lib.hid h.lt
  have hB0 := below_a w (.cells #[.int .u8 0, .int .i64 0, .int .u64 0, .string ⟨#[]⟩] 29)
  have hrow := Lib.hid (heap_alloc_new w (.cells #[.int .u8 0, .int .i64 0, .int .u64 0, .string ⟨#[]⟩] 29))
  obtain ⟨W, hW⟩ : ∃ W, W = w.alloc (.cells #[.int .u8 0, .int .i64 0, .int .u64 0, .string ⟨#[]⟩] 29) := ⟨_, rfl⟩
  rw [← hW] at hrow hB0
  have hh := h.kept hB0
  obtain ⟨a, c, hr, c0⟩ := hh.rd
  have hWs : w.heap.size < W.heap.size := (Array.getElem?_eq_some_iff.1 hrow.out).1
  have hN := Lib.hid (decode_any l _ W hr hl hlm)
  obtain ⟨v, u, x, hd, hfit, hS⟩ : ∃ (v : Va) (u : Nat) (x : Int), decR l = .tuple #[vA v.k v.n v.b v.s, .int .i64 (u : Int), .int .i64 x] ∧ v.fit ∧ ∀ w1, Below W.heap.size W w1 → Calls Tryz.prog 156 #[.pointer (some ⟨g, 0, none⟩), .int .i64 (u : Int), .int .i64 x] w1 fun e w' => IsRet e ∧ w1.grownBy w' (some g) ∧ Hid (RdOut W0 g w l fl (rVal l) v w') := by
    cases hre : decF l with
    | none =>
      have hn : rVal l = none := by unfold rVal; rw [hre]
      refine ⟨⟨0, 0, 0, ⟨#[]⟩⟩, 0, 12, by unfold decR; rw [hre]; rfl, ⟨by decide, by decide, by decide, by decide⟩, fun w1 hb1 => (skip_bad (hh.kept hb1) _ 12 rfl).mono fun e w' ⟨q0, q1, q2⟩ => ⟨q0, q2, l, true, q1, but_trans (but_of (hB0.trans (hb1.mono hB0.size))) q2, Nat.le_refl _, hl, .inl ⟨rfl, hn⟩⟩⟩
    | some p =>
      obtain ⟨v, u⟩ := p
      obtain ⟨a1, a2, a3, a4, a5⟩ := decF_some hl hre
      have hn : rVal l = some (v, l.drop u) := by unfold rVal; rw [hre]
      refine ⟨v, u, 0, by unfold decR; rw [hre], a1, fun w1 hb1 => (skip_ok (hh.kept hb1) u a4 hlm).mono fun e w' ⟨q0, q1, q2⟩ => ⟨q0, q2, _, _, q1, but_trans (but_of (hB0.trans (hb1.mono hB0.size))) q2, by rw [List.length_drop]; omega, bytes_drop _ _ hl, .inr ⟨rfl, hn⟩⟩⟩
  rw [hd] at hN
  have hS := Lib.hid hS
  have hgs := Lib.hid h.ge
  have hb0s := Lib.hid h.b.size
  have hWs' := Lib.hid hWs
  have hfit := Lib.hid hfit
  clear hd hr hh h hl hB0 hWs
  generalize rVal l = RN at *
  generalize l.length = N at *
  obtain ⟨vk, vn, vb, vs⟩ := v
  dsimp only at *
  go_enter Tryz.func159, Tryz.ntmps159
  go_upto_region 1 with fail
  rw [← hW]
  clear hW
  go_upto_region 2 with (go_at_call 190; (with_reducible refine (hN.out).mono ?_); rintro e w1 ⟨rfl, hb1⟩; have hb1 := Lib.hid hb1)
  have hl1 := Lib.hid (heap_alloc_new w1 (.cells (vC vk vn vb vs) 29))
  have hb2 := Lib.hid (hb1.out.alloc hb1.out.size (.cells (vC vk vn vb vs) 29))
  have hS1 := Lib.hid (hS.out _ hb2.out)
  have hrow2 := Lib.hid (rowB hrow.out hb2.out hWs'.out)
  have hw1 := Lib.hid hb1.out.size
  generalize w1.heap.size = g3 at *
  generalize w1.alloc (.cells (vC vk vn vb vs) 29) = w2 at *
  have hg3 := Lib.hid (show g ≠ g3 by have := hlt.out; have := hw1.out; have := hWs'.out; omega)
  have hgw := Lib.hid (show g ≠ w.heap.size by have := hlt.out; omega)
  go_wp2_with (first
    | (go_at_call 156; (with_reducible refine (hS1.out).mono ?_); rintro e w3 ⟨⟨z, rfl⟩, q1, q2⟩; have hl3 := Lib.hid (butRow q1 hl1.out hg3.out); have hrow3 := Lib.hid (butRow q1 hrow2.out hgw.out); have q2 := Lib.hid q2; clear q1)
    | (refine wpList_load_row_g rfl 29 _ rfl g3 rfl 29 (vC vk vn vb vs) (0, 0) _ hl3.out Tryz.underlying29 rfl info_val ?_)
    | (refine storeOver _ w.heap.size _ rfl 29 _ _ rfl (vC vk vn vb vs) 29 hrow3.out rfl rfl info_val rfl (val_one _ _ _ _) ?_; intro w9 hr9 hb9; have hr9' := Lib.hid hr9; have hb9' := Lib.hid hb9; clear hr9 hb9))
  exact bodyPost_ret (results_cell_row rfl _ _ w.heap.size 29 _ _ _ rfl hr9'.out Tryz.underlying29 rfl info_val) rfl ⟨⟨vk, vn, vb, vs⟩, rfl, hfit.out, RdOut.low q2.out.out hb9'.out hlt.out hb0s.out⟩
end Go.Proofs.YtnknkiiikeefgaaGreatDoor.wir.val

/- Texts that the row stands on, part 5. -/
import Derived.Test.YtfaojjleapenaabGreatDoorRNamesJq04
import Derived.BigRegion
namespace Go.Proofs.YtfaojjleapenaabGreatDoor.wir.val
open Go.RowKit Go.YtfaojjleapenaabGreatDoor
set_option linter.unusedVariables false
theorem run_appendIs {P : Program} (w : World) (base : Nat) (t ty e : TypeId) (ht : P.underlying t = some (.slice e)) (hinfo : (P.info? e).map (fun i => (i.zero, i.size, i.bytes)) = some (some (.agg (u8s (zerosB 32))), 32, 32))
    (v : Value) (n : Nat) (F : List Int) (hown : OwnI base e w v n F) (sv : Value) (m : Nat) (G : List Int) (hr : RdI w sv m G) (hlen : n + m ≤ 1000000) (hbase : base ≤ w.heap.size) :
    ∃ v' w', (Builtin.append_ #[t, t] ty #[v, sv]).run P w = .ok v' w' ∧ OwnI base e w' v' (n + m) (F ++ G) ∧ w.grownBy w' v.ownBlock := by
  obtain ⟨i, hi, hz, hs, hb⟩ := info_parts hinfo
  have hlG := hr.len
  rcases hr with ⟨sa, sc, rfl, hsn, rfl, rfl⟩ | ⟨b, o, c, rfl, h1, h2, h3, h4, h5⟩
  · cases sa with
    | some sa =>
      obtain ⟨v', w', hrun, ho, hg, _⟩ := run_append_own (P := P) w base t ty e i (.agg (u8s (zerosB 32))) 32 32 ht hi hz hs hb (by simp [Value.cells, u8s_size, zerosB_length]) (by omega) v n (u8v F) hown sa 0 sc (u8v [])
        (by rw [u8v_length]; rfl) (fun k x hx => by cases hx) (u8v_one []) (by unfold maxLen; omega) (by omega) hbase
      refine ⟨v', w', hrun, ?_, hg⟩
      unfold OwnI
      rw [List.append_nil]
      simpa [u8v] using ho
    | none =>
      obtain rfl := hsn rfl
      refine ⟨v, w, run_append_owned_none (P := P) (w := w) base t ty e i 32 ht hi v n (u8v F) hown, ?_, ⟨rfl, rfl, rfl, Nat.le_refl _, fun _ _ _ => rfl⟩⟩
      rw [List.append_nil]; exact hown
  · obtain ⟨v', w', hrun, ho, hg, _⟩ := run_append_own (P := P) w base t ty e i (.agg (u8s (zerosB 32))) 32 32 ht hi hz hs hb (by simp [Value.cells, u8s_size, zerosB_length]) (by omega) v n (u8v F) hown ⟨b, o, none⟩ m c (u8v G)
      (by rw [u8v_length]; omega) (RdB.src h5) (u8v_one G) (by unfold maxLen; omega) (by omega) hbase
    refine ⟨v', w', hrun, ?_, hg⟩
    unfold OwnI
    rw [u8v_append]; exact ho
theorem appendIs {P : Program} {ops : Array Oper} {rest : List Oper} {o : Oper} {a : Act} {w : World} {Q : Exit → Act → World → Prop} (hgd : o.guard = none) (s x : Operand) (t : TypeId)
    (ho : o.op = .call { callee := .builtin .append, args := #[s, x], argTypes := #[t, t] })
    (base : Nat) (e : TypeId) (ht : P.underlying t = some (.slice e)) (hinfo : (P.info? e).map (fun i => (i.zero, i.size, i.bytes)) = some (some (.agg (u8s (zerosB 32))), 32, 32))
    (v : Value) (hs : a.eval s = v) (n : Nat) (F : List Int) (hown : OwnI base e w v n F) (sv : Value) (hx : a.eval x = sv) (m : Nat) (G : List Int) (hr : RdI w sv m G) (hlen : n + m ≤ 1000000) (hbase : base ≤ w.heap.size)
    (h : ∀ v' w', OwnI base e w' v' (n + m) (F ++ G) → w.grownBy w' v.ownBlock → Stop (wpList P ops Q rest (a.put o.dst v') w')) : wpList P ops Q (o :: rest) a w := by
  refine wpList_plain hgd fun K hK => ?_
  obtain ⟨v', w', hrun, h2, h3⟩ := run_appendIs (P := P) w base t o.type e ht hinfo v n F hown sv m G hr hlen hbase
  unfold Oper.wp execOp
  simp only [ho, resolve, invoke, builtin, Sem.run_bind, Sem.run_pure, Result.andThen_ok, List.map_toArray, List.map_cons, List.map_nil, hs, hx, hrun]
  exact hK _ _ (h v' w' h2 h3).out
theorem ownI_setRow {base : Nat} {E : TypeId} {w : World} {v : Value} {n : Nat} {F : List Int} (h : OwnI base E w v n F) {g : Nat} (hg : g < base) (cs : Array Value) : OwnI base E (w.setRow g cs) v n F := by
  refine ⟨h.1, ?_⟩
  rcases h.2 with hn | ⟨k, cap, cur, rfl, hbg, hk, rest⟩
  · exact .inl hn
  · exact .inr ⟨k, cap, cur, rfl, hbg, (setRow_other w g k cs (by omega)).trans hk, rest⟩
def zO : Od := ⟨0, 0, [], 0, 0, ⟨#[]⟩, ⟨0, 0, 0, ⟨#[]⟩⟩, 0, 0⟩
end Go.Proofs.YtfaojjleapenaabGreatDoor.wir.val
namespace Go.Proofs.YtfaojjleapenaabGreatDoor.wir.val
open Go.RowKit Go.YtfaojjleapenaabGreatDoor
set_option linter.unusedVariables false
end Go.Proofs.YtfaojjleapenaabGreatDoor.wir.val
namespace Go.Proofs.YtfaojjleapenaabGreatDoor.wir.val
open Go.RowKit Go.YtfaojjleapenaabGreatDoor
set_option linter.unusedVariables false
set_option maxHeartbeats 4000000 in
set_option maxRecDepth 100000 in
theorem sameO_yes (o : Od) (hn : o.n ≤ 20) (pv qv : Value) (w : World) (hp : RdI w pv o.n o.F) (hq : RdI w qv o.n o.F) :
    Calls Tryz.prog 11 #[.agg (o.c pv), .agg (o.c qv)] w fun e w' => e = .returned (.bool true) ∧ Below w.heap.size w w' := by
  obtain ⟨pa, pc, rfl⟩ := hp.slice
  obtain ⟨qa, qc, rfl⟩ := hq.slice
  obtain ⟨W, hW⟩ : ∃ W, W = (w.alloc (.cells (o.c (.slice pa o.n pc)) 41)).alloc (.cells (o.c (.slice qa o.n qc)) 41) := ⟨_, rfl⟩
  have hr0 : W.heap[w.heap.size]? = some (.cells (o.c (.slice pa o.n pc)) 41 (0, 0)) := by rw [hW]; exact rowB (heap_alloc_new w _) (below_a _ _) (by simp)
  have hr1 : W.heap[w.heap.size + 1]? = some (.cells (o.c (.slice qa o.n qc)) 41 (0, 0)) := by rw [hW]; exact hn2 w _ _
  have hb0 : Below w.heap.size w W := by rw [hW]; exact ((Below.refl w.heap.size w).alloc (Nat.le_refl _) _).alloc (by simp) _
  have hb1 := Lib.hid hb0
  have hlt := Lib.hid (Array.getElem?_eq_some_iff.1 hr0).1
  have hlt1 := Lib.hid (Array.getElem?_eq_some_iff.1 hr1).1
  have hrows := Lib.hid (fun (wz : World) (h : Below W.heap.size W wz) => cellsO (rowB hr0 h hlt.out))
  have hress := Lib.hid (fun (wz : World) (h : Below W.heap.size W wz) => cellsO (rowB hr1 h hlt1.out))
  have hI := Lib.hid (sameIDs_any o.n o.n o.F o.F _ _ W (by omega) (hp.mono hb0) (hq.mono hb0))
  rw [sameF_self] at hI
  obtain ⟨c0, c1, c2, _, _, c9, c10⟩ := cellsO hr0
  obtain ⟨d0, d1, d2, _, _, d9, d10⟩ := cellsO hr1
  have hqA := Lib.hid (fun wz => show (binOp .eql 37 (aA o.k o.key o.v) (aA o.k o.key o.v)).run Tryz.prog wz = .ok (.bool true) wz by rw [eqlA]; simp [eqB])
  clear hr0 hr1 hb0 hp hq
  go_enter Tryz.func11, Tryz.ntmps11
  go_upto_region 1 with fail
  rw [← hW]
  clear hW
  go_wp2_with (first
    | (go_at_call 32; (with_reducible refine (hI.out).mono ?_); rintro e w3 ⟨rfl, h3⟩; have hB := Lib.hid (h3.below (Below.refl W.heap.size W)); clear h3 c0 c1 c2 c9 c10 d0 d1 d2 d9 d10; obtain ⟨c0, c1, c2, _, _, c9, c10⟩ := hrows.out _ hB.out; obtain ⟨d0, d1, d2, _, _, d9, d10⟩ := hress.out _ hB.out)
    | (refine wpList_midV rfl 37 _ rfl w.heap.size 3 rfl [.int .u8 o.k, .string o.key, .int .u8 o.v.k, .int .i64 o.v.n, .int .u64 (o.v.b : Int), .string o.v.s] _ (hrows.out _ hB.out).2.2.2.1 Tryz.underlying37 rfl info_act ?_)
    | (refine wpList_midV rfl 37 _ rfl (w.heap.size + 1) 3 rfl [.int .u8 o.k, .string o.key, .int .u8 o.v.k, .int .i64 o.v.n, .int .u64 (o.v.b : Int), .string o.v.s] _ (hress.out _ hB.out).2.2.2.1 Tryz.underlying37 rfl info_act ?_)
    | (refine wpList_midV rfl 39 _ rfl w.heap.size 9 rfl [.int .u32 (o.e : Int), .int .u32 (o.s : Int)] _ (hrows.out _ hB.out).2.2.2.2.1 Tryz.underlying39 rfl info_sig ?_)
    | (refine wpList_midV rfl 39 _ rfl (w.heap.size + 1) 9 rfl [.int .u32 (o.e : Int), .int .u32 (o.s : Int)] _ (hress.out _ hB.out).2.2.2.2.1 Tryz.underlying39 rfl info_sig ?_)
    | (refine wpList_eqlS rfl 37 _ _ rfl (aC o.k o.key o.v) (aC o.k o.key o.v) rfl rfl (by kernel_rfl) true (hqA.out _) ?_))
  go_ret
  exact ⟨rfl, hb1.out.trans (hB.out.mono hb1.out.size)⟩
/-- The two variables that digests read. -/
def GlQ (Tg Tf : TypeId) (w : World) : Prop := w.heap[1]? = some (.cells (u32s constW) Tg (0, 0)) ∧ w.heap[0]? = some (.cells firstW.cells Tf (0, 0))
theorem GlQ.mono {Tg Tf : TypeId} {w w' : World} (h : GlQ Tg Tf w) (hb : Below w.heap.size w w') : GlQ Tg Tf w' :=
  ⟨(hb.block _ (Array.getElem?_eq_some_iff.1 h.1).1).trans h.1, (hb.block _ (Array.getElem?_eq_some_iff.1 h.2).1).trans h.2⟩
end Go.Proofs.YtfaojjleapenaabGreatDoor.wir.val
namespace Go.Proofs.YtfaojjleapenaabGreatDoor.wir.val
open Go.RowKit Go.YtfaojjleapenaabGreatDoor
set_option linter.unusedVariables false
theorem same_true (va vb : Value) (a : List Int) (w : World) (hm : a.length ≤ 140737488355328) (h1 : RdB w va a) (h2 : RdB w vb a) :
    Calls Tryz.prog 10 #[va, vb] w fun e w' => e = .returned (.bool true) ∧ Below w.heap.size w w' := by
  have h := same_any va vb a a w hm h1 h2
  rw [sameF_self] at h
  exact h.mono fun e w' ⟨he, hd⟩ => ⟨he, hd.below (Below.refl _ _)⟩
end Go.Proofs.YtfaojjleapenaabGreatDoor.wir.val
namespace Go.Proofs.YtfaojjleapenaabGreatDoor.wir.val
open Go.RowKit Go.YtfaojjleapenaabGreatDoor
set_option linter.unusedVariables false
theorem eleven_of {w : World} {g : Nat} {x0 x1 x2 x3 x4 x5 x6 x7 x8 x9 x10 : Value} {T : TypeId} (h : w.heap[g]? = some (.cells #[x0, x1, x2, x3, x4, x5, x6, x7, x8, x9, x10] T (0, 0))) :
    (w.cell? ⟨g, 0, none⟩ = some x0 ∧ w.cell? ⟨g, 1, none⟩ = some x1 ∧ w.cell? ⟨g, 2, none⟩ = some x2 ∧ w.cell? ⟨g, 3, none⟩ = some x3 ∧ w.cell? ⟨g, 4, none⟩ = some x4 ∧ w.cell? ⟨g, 5, none⟩ = some x5 ∧ w.cell? ⟨g, 6, none⟩ = some x6 ∧ w.cell? ⟨g, 7, none⟩ = some x7 ∧ w.cell? ⟨g, 8, none⟩ = some x8 ∧ w.cell? ⟨g, 9, none⟩ = some x9 ∧ w.cell? ⟨g, 10, none⟩ = some x10) ∧
    w.frozen? ⟨g, 0, none⟩ = false ∧ w.frozen? ⟨g, 1, none⟩ = false ∧ w.frozen? ⟨g, 2, none⟩ = false ∧ w.frozen? ⟨g, 3, none⟩ = false ∧ w.frozen? ⟨g, 4, none⟩ = false ∧ w.frozen? ⟨g, 5, none⟩ = false ∧ w.frozen? ⟨g, 6, none⟩ = false ∧ w.frozen? ⟨g, 7, none⟩ = false ∧ w.frozen? ⟨g, 8, none⟩ = false ∧ w.frozen? ⟨g, 9, none⟩ = false ∧ w.frozen? ⟨g, 10, none⟩ = false :=
  ⟨⟨cell_of_row _ _ _ _ _ _ h, cell_of_row _ _ _ _ _ _ h, cell_of_row _ _ _ _ _ _ h, cell_of_row _ _ _ _ _ _ h, cell_of_row _ _ _ _ _ _ h, cell_of_row _ _ _ _ _ _ h, cell_of_row _ _ _ _ _ _ h, cell_of_row _ _ _ _ _ _ h, cell_of_row _ _ _ _ _ _ h, cell_of_row _ _ _ _ _ _ h, cell_of_row _ _ _ _ _ _ h⟩, frozen_of_row _ _ _ _ _ h, frozen_of_row _ _ _ _ _ h, frozen_of_row _ _ _ _ _ h, frozen_of_row _ _ _ _ _ h, frozen_of_row _ _ _ _ _ h, frozen_of_row _ _ _ _ _ h, frozen_of_row _ _ _ _ _ h, frozen_of_row _ _ _ _ _ h, frozen_of_row _ _ _ _ _ h, frozen_of_row _ _ _ _ _ h, frozen_of_row _ _ _ _ _ h⟩
theorem heldI_set {B k i : Nat} {w : World} {v x : Value} {n : Nat} {F : List Int} (h : HeldI B w v n F) (hk : k < B) : HeldI B (w.setCell ⟨k, i, none⟩ x) v n F :=
  heldI_but h hk (but_cell w k i x)
theorem heldI_setRow {B k : Nat} {w : World} {v : Value} {n : Nat} {F : List Int} (h : HeldI B w v n F) (hk : k < B) (cs : Array Value) : HeldI B (w.setRow k cs) v n F := fun wx h1 h2 =>
  have hs : w.heap.size ≤ (w.setRow k cs).heap.size := (below_setRow' (B := 0) (g := k) (Below.refl 0 w) (Nat.zero_le _) cs).size
  h wx (fun i k1 k2 => (h1 i k1 (Nat.lt_of_lt_of_le k2 hs)).trans (setRow_other w k i cs (by omega))) (Nat.le_trans hs h2)
theorem rOp_first {l : List Int} (h : rNext l = none) : rOp l = none := by unfold rOp; rw [if_pos (rNext_none h)]
theorem rOp_mark {l l1 : List Int} {x : Int} (h : rNext l = some (x, l1)) (hx : ¬ x = 111) : rOp l = none := by
  obtain ⟨a1, a2, a3⟩ := rNext_some h
  unfold rOp; rw [if_neg a1, if_neg (by rw [a2]; exact hx)]
theorem rOp_go {l l1 : List Int} {x : Int} (h : rNext l = some (x, l1)) (hx : x = 111) : rOp l = (match rSmall l1 with
    | none => none
    | some a => match rIds a.2 with
      | none => none
      | some i => match rNum i.2 with
        | none => none
        | some t => match rAct t.2 with
          | none => none
          | some c => match rSmall c.2 with
            | none => none
            | some x => match rSmall x.2 with
              | none => none
              | some y => some (⟨a.1, i.1.1, i.1.2, t.1, c.1.k, c.1.key, c.1.v, x.1, y.1⟩, y.2)) := by
  obtain ⟨a1, a2, a3⟩ := rNext_some h
  unfold rOp; rw [if_neg a1, if_pos (by rw [a2]; exact hx), a3]
  all_goals rfl
theorem op_ends {l l1 l2 l3 l4 l5 l6 l7 F : List Int} {fl f1 f1' f2 f3 f4 f5 f6 f7 : Bool} {x : Int} {au n st e s : Nat} {c : Ac} (q1 : Ends fl (rNext l) x l1 f1) (hx : f1' = if x = 111 then f1 else true)
    (q2 : Ends f1' (rSmall l1) au l2 f2) (q3 : Ends f2 (rIds l2) (n, F) l3 f3) (q4 : Ends f3 (rNum l3) st l4 f4) (q5 : Ends f4 (rAct l4) c l5 f5) (q6 : Ends f5 (rSmall l5) e l6 f6) (q7 : Ends f6 (rSmall l6) s l7 f7) :
    Ends fl (rOp l) (⟨au, n, F, st, c.k, c.key, c.v, e, s⟩ : Od) l7 f7 := by
  have up : f1' = true → f7 = true := fun h => q7.up (q6.up (q5.up (q4.up (q3.up (q2.up h)))))
  rcases q1 with ⟨h1, h2⟩ | ⟨h1, h2⟩
  · refine .inl ⟨up ?_, rOp_first h2⟩
    rw [hx]; split
    · exact h1
    · rfl
  by_cases h111 : x = 111
  · rw [if_pos h111] at hx
    have hg := rOp_go h2 h111
    rcases q2 with ⟨a1, a2⟩ | ⟨a1, a2⟩
    · exact .inl ⟨q7.up (q6.up (q5.up (q4.up (q3.up a1)))), by rw [hg, a2]⟩
    rcases q3 with ⟨b1, b2⟩ | ⟨b1, b2⟩
    · exact .inl ⟨q7.up (q6.up (q5.up (q4.up b1))), by rw [hg, a2]; simp only [b2]⟩
    rcases q4 with ⟨c1, c2⟩ | ⟨c1, c2⟩
    · exact .inl ⟨q7.up (q6.up (q5.up c1)), by rw [hg, a2]; simp only [b2, c2]⟩
    rcases q5 with ⟨d1, d2⟩ | ⟨d1, d2⟩
    · exact .inl ⟨q7.up (q6.up d1), by rw [hg, a2]; simp only [b2, c2, d2]⟩
    rcases q6 with ⟨e1, e2⟩ | ⟨e1, e2⟩
    · exact .inl ⟨q7.up e1, by rw [hg, a2]; simp only [b2, c2, d2, e2]⟩
    rcases q7 with ⟨g1, g2⟩ | ⟨g1, g2⟩
    · exact .inl ⟨g1, by rw [hg, a2]; simp only [b2, c2, d2, e2, g2]⟩
    · exact .inr ⟨by rw [g1, e1, d1, c1, b1, a1, hx, h1], by rw [hg, a2]; simp only [b2, c2, d2, e2, g2]⟩
  · exact .inl ⟨up (by rw [hx, if_neg h111]), rOp_mark h2 h111⟩
set_option maxHeartbeats 4000000 in
set_option maxRecDepth 100000 in
theorem operation_rd {W0 w : World} {g : Nat} {l : List Int} {fl : Bool} (h : St W0 g w l fl) (hl : Bytes l) (hlm : l.length ≤ 1000000) :
    Calls Tryz.prog 36 #[.pointer (some ⟨g, 0, none⟩)] w fun e w' => ∃ (o : Od) (a : Option Addr) (c : Nat), e = .returned (.agg (o.c (.slice a o.n c))) ∧ o.Fit ∧ o.n ≤ 4 ∧ HeldI w.heap.size w' (.slice a o.n c) o.n o.F ∧ RdOut W0 g w l fl (rOp l) o w' := by
  have hlt := Lib.hid h.lt
  have hB0 := below_a w (.cells #[.int .u32 0, .slice none 0 0, .int .u64 0, .int .u8 0, .string ⟨#[]⟩, .int .u8 0, .int .i64 0, .int .u64 0, .string ⟨#[]⟩, .int .u32 0, .int .u32 0] 41)
  have hrow := Lib.hid (heap_alloc_new w (.cells #[.int .u32 0, .slice none 0 0, .int .u64 0, .int .u8 0, .string ⟨#[]⟩, .int .u8 0, .int .i64 0, .int .u64 0, .string ⟨#[]⟩, .int .u32 0, .int .u32 0] 41))
  obtain ⟨W, hW⟩ : ∃ W, W = w.alloc (.cells #[.int .u32 0, .slice none 0 0, .int .u64 0, .int .u8 0, .string ⟨#[]⟩, .int .u8 0, .int .i64 0, .int .u64 0, .string ⟨#[]⟩, .int .u32 0, .int .u32 0] 41) := ⟨_, rfl⟩
  rw [← hW] at hrow hB0
  have hX := Lib.hid (next_any (h.kept hB0) hl hlm)
  have hWs := Lib.hid (show w.heap.size < W.heap.size from (Array.getElem?_eq_some_iff.1 hrow.out).1)
  have hbs := Lib.hid h.b.size
  have hg0 := Lib.hid (but_of (r := some g) hB0)
  have hll := Lib.hid hlm
  clear h hl hB0 hlm
  go_enter Tryz.func36, Tryz.ntmps36
  go_upto_region 1 with fail
  rw [← hW]
  clear hW
  go_upto_if 6 with (go_at_call 65; (with_reducible refine (hX.out).mono ?_); rintro e w1 ⟨x, rfl, hx, l1, f1, q1, q2, q3, q4, q5⟩; have hx := Lib.hid hx; have q1 := Lib.hid q1; have q2 := Lib.hid q2; have q3 := Lib.hid q3; have q4 := Lib.hid q4; have q5 := Lib.hid q5; have hrow1 := Lib.hid (butRow q2.out hrow.out (by have := hlt.out; omega)))
  by_cases hx1 : x = 111
  · have t1 : (x != 111) = false := by rw [hx1]; rfl
    obtain ⟨f1x, hfx0⟩ : ∃ f, f = f1 := ⟨_, rfl⟩
    have hfx := Lib.hid (show f1x = if x = 111 then f1 else true by rw [if_pos hx1]; exact hfx0)
    rw [← hfx0] at q1
    clear hfx0
    go_upto_region 4 with fail
    have hl := Lib.hid (heap_alloc_new w1 (.cells #[.int .u32 0, .slice none 0 0, .int .u64 0, .int .u8 0, .string ⟨#[]⟩, .int .u8 0, .int .i64 0, .int .u64 0, .string ⟨#[]⟩, .int .u32 0, .int .u32 0] 41))
    have hbz := below_a w1 (.cells #[.int .u32 0, .slice none 0 0, .int .u64 0, .int .u8 0, .string ⟨#[]⟩, .int .u8 0, .int .i64 0, .int .u64 0, .string ⟨#[]⟩, .int .u32 0, .int .u32 0] 41)
    have ss := Lib.hid (q1.out.kept hbz)
    have gg := Lib.hid (but_trans (but_trans hg0.out q2.out) (but_of (r := some g) hbz))
    have hr := Lib.hid (rowB hrow1.out hbz (Array.getElem?_eq_some_iff.1 hrow1.out).1)
    have hg3 := Lib.hid (show w.heap.size < w1.heap.size from Nat.lt_of_lt_of_le hWs.out q2.out.size)
    have hWz := Lib.hid (show w.heap.size ≤ w1.heap.size from Nat.le_of_lt hg3.out)
    clear hbz q1 q2 hrow1 hrow hX hg0
    generalize w1.heap.size = g3 at *
    generalize w1.alloc (.cells #[.int .u32 0, .slice none 0 0, .int .u64 0, .int .u8 0, .string ⟨#[]⟩, .int .u8 0, .int .i64 0, .int .u64 0, .string ⟨#[]⟩, .int .u32 0, .int .u32 0] 41) = wy at *
    have hgg3 := Lib.hid (show g ≠ g3 by have := hlt.out; have := hg3.out; omega)
    have hgw := Lib.hid (show g ≠ w.heap.size by have := hlt.out; omega)
    have hWg3 := Lib.hid (show W0.heap.size ≤ g3 by have := hbs.out; have := hg3.out; omega)
    have hne := Lib.hid (show w.heap.size ≠ g3 by have := hg3.out; omega)
    have hle := Lib.hid (Nat.le_of_lt hg3.out)
    have hM := Lib.hid (small_rd ss.out q4.out (by have := hll.out; have := q3.out; omega))
    go_upto_region 5 with (go_at_call 66; (with_reducible refine (hM.out).mono ?_); rintro e wz ⟨au, rfl, hau, l2, f2, ra, rb, z1c, z1d, z1e⟩; have hau := Lib.hid hau; have ra := Lib.hid ra; have rb := Lib.hid rb; have z1c := Lib.hid z1c; have z1d := Lib.hid z1d; have z1e := Lib.hid z1e; replace hl := Lib.hid (butRow rb.out hl.out hgg3.out); obtain ⟨⟨k0, k1, k2, k3, k4, k5, k6, k7, k8, k9, k10⟩, y0, y1, y2, y3, y4, y5, y6, y7, y8, y9, y10⟩ := eleven_of hl.out)
    have hlx := Lib.hid (show (wz.setCell ⟨g3, 0, none⟩ (.int .u32 (au : Int))).heap[g3]? = some (.cells #[.int .u32 (au : Int), .slice none 0 0, .int .u64 0, .int .u8 0, .string ⟨#[]⟩, .int .u8 0, .int .i64 0, .int .u64 0, .string ⟨#[]⟩, .int .u32 0, .int .u32 0] 41 (0, 0)) from (setCell_row hl.out 0 (.int .u32 (au : Int))))
    have sx := Lib.hid (ra.out.other hgg3.out hWg3.out 0 (.int .u32 (au : Int)))
    have gx := Lib.hid (but_set (but_trans gg.out rb.out) g3 0 (.int .u32 (au : Int)) hle.out)
    have rx := Lib.hid ((setCell_rows (w := wz) g3 0 (.int .u32 (au : Int)) w.heap.size hne.out).trans (butRow rb.out hr.out hgw.out))
    clear hl ss gg hr ra rb hM k0 y0 k1 y1 k2 y2 k3 y3 k4 y4 k5 y5 k6 y6 k7 y7 k8 y8 k9 y9 k10 y10
    have hl := hlx; have ss := sx; have gg := gx; have hr := rx; clear hlx sx gx rx
    generalize (wz.setCell ⟨g3, 0, none⟩ (.int .u32 (au : Int))) = wy1 at *
    have hlo := hl
    have hM := Lib.hid (ids_rd ss.out z1d.out (by have := hll.out; have := q3.out; have := z1c.out; omega))
    go_upto_region 6 with (go_at_call 67; (with_reducible refine (hM.out).mono ?_); rintro e wz ⟨ia, n, ic, F, rfl, hI, hFb, hn4, l3, f3, ra, rb, z2c, z2d, z2e⟩; have hI := Lib.hid hI; have hFb := Lib.hid hFb; have hn4 := Lib.hid hn4; have ra := Lib.hid ra; have rb := Lib.hid rb; have z2c := Lib.hid z2c; have z2d := Lib.hid z2d; have z2e := Lib.hid z2e; replace hl := Lib.hid (butRow rb.out hl.out hgg3.out); obtain ⟨⟨k0, k1, k2, k3, k4, k5, k6, k7, k8, k9, k10⟩, y0, y1, y2, y3, y4, y5, y6, y7, y8, y9, y10⟩ := eleven_of hl.out)
    have hgI := Lib.hid (show g < wy1.heap.size from ss.out.lt)
    have hg3I := Lib.hid (show g3 < wy1.heap.size from (Array.getElem?_eq_some_iff.1 hlo.out).1)
    have hWI := Lib.hid (show w.heap.size < wy1.heap.size from Nat.lt_trans hg3.out hg3I.out)
    have hlx := Lib.hid (show (wz.setCell ⟨g3, 1, none⟩ (.slice ia n ic)).heap[g3]? = some (.cells #[.int .u32 (au : Int), .slice ia n ic, .int .u64 0, .int .u8 0, .string ⟨#[]⟩, .int .u8 0, .int .i64 0, .int .u64 0, .string ⟨#[]⟩, .int .u32 0, .int .u32 0] 41 (0, 0)) from (setCell_row hl.out 1 (.slice ia n ic)))
    have sx := Lib.hid (ra.out.other hgg3.out hWg3.out 1 (.slice ia n ic))
    have gx := Lib.hid (but_set (but_trans gg.out rb.out) g3 1 (.slice ia n ic) hle.out)
    have rx := Lib.hid ((setCell_rows (w := wz) g3 1 (.slice ia n ic) w.heap.size hne.out).trans (butRow rb.out hr.out hgw.out))
    replace hI := Lib.hid (heldI_set (k := g3) (i := 1) (x := .slice ia n ic) hI.out hg3I.out)
    clear hl ss gg hr ra rb hM k0 y0 k1 y1 k2 y2 k3 y3 k4 y4 k5 y5 k6 y6 k7 y7 k8 y8 k9 y9 k10 y10
    have hl := hlx; have ss := sx; have gg := gx; have hr := rx; clear hlx sx gx rx
    generalize (wz.setCell ⟨g3, 1, none⟩ (.slice ia n ic)) = wy2 at *
    have hM := Lib.hid (number_rd ss.out z2d.out (by have := hll.out; have := q3.out; have := z1c.out; have := z2c.out; omega))
    go_upto_region 7 with (go_at_call 68; (with_reducible refine (hM.out).mono ?_); rintro e wz ⟨st, rfl, hst, l4, f4, ra, rb, z3c, z3d, z3e⟩; have hst := Lib.hid hst; have ra := Lib.hid ra; have rb := Lib.hid rb; have z3c := Lib.hid z3c; have z3d := Lib.hid z3d; have z3e := Lib.hid z3e; replace hl := Lib.hid (butRow rb.out hl.out hgg3.out); obtain ⟨⟨k0, k1, k2, k3, k4, k5, k6, k7, k8, k9, k10⟩, y0, y1, y2, y3, y4, y5, y6, y7, y8, y9, y10⟩ := eleven_of hl.out)
    replace hI := Lib.hid (heldI_but hI.out hgI.out rb.out)
    have hlx := Lib.hid (show (wz.setCell ⟨g3, 2, none⟩ (.int .u64 (st : Int))).heap[g3]? = some (.cells #[.int .u32 (au : Int), .slice ia n ic, .int .u64 (st : Int), .int .u8 0, .string ⟨#[]⟩, .int .u8 0, .int .i64 0, .int .u64 0, .string ⟨#[]⟩, .int .u32 0, .int .u32 0] 41 (0, 0)) from (setCell_row hl.out 2 (.int .u64 (st : Int))))
    have sx := Lib.hid (ra.out.other hgg3.out hWg3.out 2 (.int .u64 (st : Int)))
    have gx := Lib.hid (but_set (but_trans gg.out rb.out) g3 2 (.int .u64 (st : Int)) hle.out)
    have rx := Lib.hid ((setCell_rows (w := wz) g3 2 (.int .u64 (st : Int)) w.heap.size hne.out).trans (butRow rb.out hr.out hgw.out))
    replace hI := Lib.hid (heldI_set (k := g3) (i := 2) (x := .int .u64 (st : Int)) hI.out hg3I.out)
    clear hl ss gg hr ra rb hM k0 y0 k1 y1 k2 y2 k3 y3 k4 y4 k5 y5 k6 y6 k7 y7 k8 y8 k9 y9 k10 y10
    have hl := hlx; have ss := sx; have gg := gx; have hr := rx; clear hlx sx gx rx
    generalize (wz.setCell ⟨g3, 2, none⟩ (.int .u64 (st : Int))) = wy3 at *
    have hM := Lib.hid (act_rd ss.out z3d.out (by have := hll.out; have := q3.out; have := z1c.out; have := z2c.out; have := z3c.out; omega))
    go_upto_region 8 with (go_at_call 69; (with_reducible refine (hM.out).mono ?_); rintro e wz ⟨⟨ck, ckey, vk, vn, vb, vs⟩, rfl, hck, hckey, hcv, l5, f5, ra, rb, z4c, z4d, z4e⟩; dsimp only at *; have hck := Lib.hid hck; have hckey := Lib.hid hckey; have hcv := Lib.hid hcv; have ra := Lib.hid ra; have rb := Lib.hid rb; have z4c := Lib.hid z4c; have z4d := Lib.hid z4d; have z4e := Lib.hid z4e; replace hl := Lib.hid (butRow rb.out hl.out hgg3.out); obtain ⟨⟨k0, k1, k2, k3, k4, k5, k6, k7, k8, k9, k10⟩, y0, y1, y2, y3, y4, y5, y6, y7, y8, y9, y10⟩ := eleven_of hl.out)
    replace hI := Lib.hid (heldI_but hI.out hgI.out rb.out)
    have hlx := Lib.hid (show ((((((wz.setCell ⟨g3, 3, none⟩ (.int .u8 ck)).setCell ⟨g3, 4, none⟩ (.string ckey)).setCell ⟨g3, 5, none⟩ (.int .u8 vk)).setCell ⟨g3, 6, none⟩ (.int .i64 vn)).setCell ⟨g3, 7, none⟩ (.int .u64 (vb : Int))).setCell ⟨g3, 8, none⟩ (.string vs)).heap[g3]? = some (.cells #[.int .u32 (au : Int), .slice ia n ic, .int .u64 (st : Int), .int .u8 ck, .string ckey, .int .u8 vk, .int .i64 vn, .int .u64 (vb : Int), .string vs, .int .u32 0, .int .u32 0] 41 (0, 0)) from (setCell_row (setCell_row (setCell_row (setCell_row (setCell_row (setCell_row hl.out 3 (.int .u8 ck)) 4 (.string ckey)) 5 (.int .u8 vk)) 6 (.int .i64 vn)) 7 (.int .u64 (vb : Int))) 8 (.string vs)))
    have sx := Lib.hid ((((((ra.out.other hgg3.out hWg3.out 3 (.int .u8 ck)).other hgg3.out hWg3.out 4 (.string ckey)).other hgg3.out hWg3.out 5 (.int .u8 vk)).other hgg3.out hWg3.out 6 (.int .i64 vn)).other hgg3.out hWg3.out 7 (.int .u64 (vb : Int))).other hgg3.out hWg3.out 8 (.string vs))
    have gx := Lib.hid (but_set (but_set (but_set (but_set (but_set (but_set (but_trans gg.out rb.out) g3 3 (.int .u8 ck) hle.out) g3 4 (.string ckey) hle.out) g3 5 (.int .u8 vk) hle.out) g3 6 (.int .i64 vn) hle.out) g3 7 (.int .u64 (vb : Int)) hle.out) g3 8 (.string vs) hle.out)
    have rx := Lib.hid ((setCell_rows (w := (((((wz.setCell ⟨g3, 3, none⟩ (.int .u8 ck)).setCell ⟨g3, 4, none⟩ (.string ckey)).setCell ⟨g3, 5, none⟩ (.int .u8 vk)).setCell ⟨g3, 6, none⟩ (.int .i64 vn)).setCell ⟨g3, 7, none⟩ (.int .u64 (vb : Int)))) g3 8 (.string vs) w.heap.size hne.out).trans ((setCell_rows (w := ((((wz.setCell ⟨g3, 3, none⟩ (.int .u8 ck)).setCell ⟨g3, 4, none⟩ (.string ckey)).setCell ⟨g3, 5, none⟩ (.int .u8 vk)).setCell ⟨g3, 6, none⟩ (.int .i64 vn))) g3 7 (.int .u64 (vb : Int)) w.heap.size hne.out).trans ((setCell_rows (w := (((wz.setCell ⟨g3, 3, none⟩ (.int .u8 ck)).setCell ⟨g3, 4, none⟩ (.string ckey)).setCell ⟨g3, 5, none⟩ (.int .u8 vk))) g3 6 (.int .i64 vn) w.heap.size hne.out).trans ((setCell_rows (w := ((wz.setCell ⟨g3, 3, none⟩ (.int .u8 ck)).setCell ⟨g3, 4, none⟩ (.string ckey))) g3 5 (.int .u8 vk) w.heap.size hne.out).trans ((setCell_rows (w := (wz.setCell ⟨g3, 3, none⟩ (.int .u8 ck))) g3 4 (.string ckey) w.heap.size hne.out).trans ((setCell_rows (w := wz) g3 3 (.int .u8 ck) w.heap.size hne.out).trans (butRow rb.out hr.out hgw.out)))))))
    replace hI := Lib.hid (heldI_set (k := g3) (i := 8) (x := .string vs) (heldI_set (k := g3) (i := 7) (x := .int .u64 (vb : Int)) (heldI_set (k := g3) (i := 6) (x := .int .i64 vn) (heldI_set (k := g3) (i := 5) (x := .int .u8 vk) (heldI_set (k := g3) (i := 4) (x := .string ckey) (heldI_set (k := g3) (i := 3) (x := .int .u8 ck) hI.out hg3I.out) hg3I.out) hg3I.out) hg3I.out) hg3I.out) hg3I.out)
    clear hl ss gg hr ra rb hM k0 y0 k1 y1 k2 y2 k3 y3 k4 y4 k5 y5 k6 y6 k7 y7 k8 y8 k9 y9 k10 y10
    have hl := hlx; have ss := sx; have gg := gx; have hr := rx; clear hlx sx gx rx
    generalize ((((((wz.setCell ⟨g3, 3, none⟩ (.int .u8 ck)).setCell ⟨g3, 4, none⟩ (.string ckey)).setCell ⟨g3, 5, none⟩ (.int .u8 vk)).setCell ⟨g3, 6, none⟩ (.int .i64 vn)).setCell ⟨g3, 7, none⟩ (.int .u64 (vb : Int))).setCell ⟨g3, 8, none⟩ (.string vs)) = wy4 at *
    have hM := Lib.hid (small_rd ss.out z4d.out (by have := hll.out; have := q3.out; have := z1c.out; have := z2c.out; have := z3c.out; have := z4c.out; omega))
    go_upto_region 9 with (go_at_call 66; (with_reducible refine (hM.out).mono ?_); rintro e wz ⟨ee, rfl, hee, l6, f6, ra, rb, z5c, z5d, z5e⟩; have hee := Lib.hid hee; have ra := Lib.hid ra; have rb := Lib.hid rb; have z5c := Lib.hid z5c; have z5d := Lib.hid z5d; have z5e := Lib.hid z5e; replace hl := Lib.hid (butRow rb.out hl.out hgg3.out); obtain ⟨⟨k0, k1, k2, k3, k4, k5, k6, k7, k8, k9, k10⟩, y0, y1, y2, y3, y4, y5, y6, y7, y8, y9, y10⟩ := eleven_of hl.out)
    replace hI := Lib.hid (heldI_but hI.out hgI.out rb.out)
    have hlx := Lib.hid (show (wz.setCell ⟨g3, 9, none⟩ (.int .u32 (ee : Int))).heap[g3]? = some (.cells #[.int .u32 (au : Int), .slice ia n ic, .int .u64 (st : Int), .int .u8 ck, .string ckey, .int .u8 vk, .int .i64 vn, .int .u64 (vb : Int), .string vs, .int .u32 (ee : Int), .int .u32 0] 41 (0, 0)) from (setCell_row hl.out 9 (.int .u32 (ee : Int))))
    have sx := Lib.hid (ra.out.other hgg3.out hWg3.out 9 (.int .u32 (ee : Int)))
    have gx := Lib.hid (but_set (but_trans gg.out rb.out) g3 9 (.int .u32 (ee : Int)) hle.out)
    have rx := Lib.hid ((setCell_rows (w := wz) g3 9 (.int .u32 (ee : Int)) w.heap.size hne.out).trans (butRow rb.out hr.out hgw.out))
    replace hI := Lib.hid (heldI_set (k := g3) (i := 9) (x := .int .u32 (ee : Int)) hI.out hg3I.out)
    clear hl ss gg hr ra rb hM k0 y0 k1 y1 k2 y2 k3 y3 k4 y4 k5 y5 k6 y6 k7 y7 k8 y8 k9 y9 k10 y10
    have hl := hlx; have ss := sx; have gg := gx; have hr := rx; clear hlx sx gx rx
    generalize (wz.setCell ⟨g3, 9, none⟩ (.int .u32 (ee : Int))) = wy5 at *
    have hM := Lib.hid (small_rd ss.out z5d.out (by have := hll.out; have := q3.out; have := z1c.out; have := z2c.out; have := z3c.out; have := z4c.out; have := z5c.out; omega))
    go_upto_region 10 with (go_at_call 66; (with_reducible refine (hM.out).mono ?_); rintro e wz ⟨es, rfl, hes, l7, f7, ra, rb, z6c, z6d, z6e⟩; have hes := Lib.hid hes; have ra := Lib.hid ra; have rb := Lib.hid rb; have z6c := Lib.hid z6c; have z6d := Lib.hid z6d; have z6e := Lib.hid z6e; replace hl := Lib.hid (butRow rb.out hl.out hgg3.out); obtain ⟨⟨k0, k1, k2, k3, k4, k5, k6, k7, k8, k9, k10⟩, y0, y1, y2, y3, y4, y5, y6, y7, y8, y9, y10⟩ := eleven_of hl.out)
    replace hI := Lib.hid (heldI_but hI.out hgI.out rb.out)
    have hlx := Lib.hid (show (wz.setCell ⟨g3, 10, none⟩ (.int .u32 (es : Int))).heap[g3]? = some (.cells #[.int .u32 (au : Int), .slice ia n ic, .int .u64 (st : Int), .int .u8 ck, .string ckey, .int .u8 vk, .int .i64 vn, .int .u64 (vb : Int), .string vs, .int .u32 (ee : Int), .int .u32 (es : Int)] 41 (0, 0)) from (setCell_row hl.out 10 (.int .u32 (es : Int))))
    have sx := Lib.hid (ra.out.other hgg3.out hWg3.out 10 (.int .u32 (es : Int)))
    have gx := Lib.hid (but_set (but_trans gg.out rb.out) g3 10 (.int .u32 (es : Int)) hle.out)
    have rx := Lib.hid ((setCell_rows (w := wz) g3 10 (.int .u32 (es : Int)) w.heap.size hne.out).trans (butRow rb.out hr.out hgw.out))
    replace hI := Lib.hid (heldI_set (k := g3) (i := 10) (x := .int .u32 (es : Int)) hI.out hg3I.out)
    clear hl ss gg hr ra rb hM k0 y0 k1 y1 k2 y2 k3 y3 k4 y4 k5 y5 k6 y6 k7 y7 k8 y8 k9 y9 k10 y10
    have hl := hlx; have ss := sx; have gg := gx; have hr := rx; clear hlx sx gx rx
    generalize (wz.setCell ⟨g3, 10, none⟩ (.int .u32 (es : Int))) = wy6 at *
    have hE := Lib.hid (op_ends (c := ⟨ck, ckey, vk, vn, vb, vs⟩) q5.out hfx.out z1e.out z2e.out z3e.out z4e.out z5e.out z6e.out)
    have hR := Lib.hid (show RdOut W0 g w l fl (rOp l) (⟨au, n, F, st, ck, ckey, ⟨vk, vn, vb, vs⟩, ee, es⟩ : Od) wy6 from ⟨l7, f7, ss.out, gg.out, by have := q3.out; have := z1c.out; have := z2c.out; have := z3c.out; have := z4c.out; have := z5c.out; have := z6c.out; omega, z6d.out, hE.out⟩)
    clear q5 z1e z2e z3e z4e z5e z6e hE ss gg
    go_wp2_with (first
      | (refine wpList_load_row_g rfl 41 _ rfl g3 rfl 41 ((⟨au, n, F, st, ck, ckey, ⟨vk, vn, vb, vs⟩, ee, es⟩ : Od).c (.slice ia n ic)) (0, 0) _ hl.out Tryz.underlying41 rfl info_op ?_)
      | (refine wpList_store_row rfl 41 _ _ rfl w.heap.size ((⟨au, n, F, st, ck, ckey, ⟨vk, vn, vb, vs⟩, ee, es⟩ : Od).c (.slice ia n ic)) rfl rfl 41 _ hr.out info_op rfl (op_one ⟨au, n, F, st, ck, ckey, ⟨vk, vn, vb, vs⟩, ee, es⟩ ia n ic) ?_; have hr9 := Lib.hid (setRow_heap _ _ _ ((⟨au, n, F, st, ck, ckey, ⟨vk, vn, vb, vs⟩, ee, es⟩ : Od).c (.slice ia n ic)) _ _ hr.out); have hb9 := Lib.hid (below_setRow' (B := w.heap.size) (g := w.heap.size) (Below.refl _ wy6) (Nat.le_refl _) ((⟨au, n, F, st, ck, ckey, ⟨vk, vn, vb, vs⟩, ee, es⟩ : Od).c (.slice ia n ic)))))
    exact bodyPost_ret (results_cell_row rfl _ _ w.heap.size 41 _ _ _ rfl hr9.out Tryz.underlying41 rfl info_op) rfl ⟨⟨au, n, F, st, ck, ckey, ⟨vk, vn, vb, vs⟩, ee, es⟩, ia, ic, rfl, ⟨hau.out, hFb.out, Nat.le_trans hn4.out (by decide), hst.out, hck.out, Nat.le_trans hckey.out (by decide), hcv.out, hee.out, hes.out⟩, hn4.out, heldI_lower (heldI_setRow hI.out hWI.out _) (Nat.le_of_lt hWI.out), RdOut.low hR.out hb9.out hlt.out hbs.out⟩
  · have t1 : (x != 111) = true := by simpa using hx1
    obtain ⟨f1x, hfx0⟩ : ∃ f, f = true := ⟨_, rfl⟩
    have hfx := Lib.hid (show f1x = if x = 111 then f1 else true by rw [if_neg hx1]; exact hfx0)
    obtain ⟨_, _, a1, c1, _, hrg⟩ := q1.out
    have u1 : w1.cell? ⟨g, 1, none⟩ = some (.bool f1) := cell_of_row _ _ _ _ _ _ hrg
    have y1 := frozen_of_row w1 g 1 _ _ hrg
    clear hrg
    go_upto_region 3 with fail
    replace q1 := Lib.hid q1.out.fail
    replace q2 := Lib.hid (but_trans q2.out (but_cell w1 g 1 (.bool true)))
    replace hrow1 := Lib.hid ((setCell_rows (w := w1) g 1 (.bool true) w.heap.size (by have := hlt.out; omega)).trans hrow1.out)
    clear u1 y1
    obtain ⟨w0y, hw0⟩ : ∃ w0y, w0y = w1.setCell ⟨g, 1, none⟩ (.bool true) := ⟨_, rfl⟩
    rw [← hw0] at q1 q2 hrow1 ⊢
    rw [← hfx0] at q1
    clear hfx0 hw0
    go_upto_region 4 with fail
    have hl := Lib.hid (heap_alloc_new w0y (.cells #[.int .u32 0, .slice none 0 0, .int .u64 0, .int .u8 0, .string ⟨#[]⟩, .int .u8 0, .int .i64 0, .int .u64 0, .string ⟨#[]⟩, .int .u32 0, .int .u32 0] 41))
    have hbz := below_a w0y (.cells #[.int .u32 0, .slice none 0 0, .int .u64 0, .int .u8 0, .string ⟨#[]⟩, .int .u8 0, .int .i64 0, .int .u64 0, .string ⟨#[]⟩, .int .u32 0, .int .u32 0] 41)
    have ss := Lib.hid (q1.out.kept hbz)
    have gg := Lib.hid (but_trans (but_trans hg0.out q2.out) (but_of (r := some g) hbz))
    have hr := Lib.hid (rowB hrow1.out hbz (Array.getElem?_eq_some_iff.1 hrow1.out).1)
    have hg3 := Lib.hid (show w.heap.size < w0y.heap.size from Nat.lt_of_lt_of_le hWs.out q2.out.size)
    have hWz := Lib.hid (show w.heap.size ≤ w0y.heap.size from Nat.le_of_lt hg3.out)
    clear hbz q1 q2 hrow1 hrow hX hg0
    generalize w0y.heap.size = g3 at *
    generalize w0y.alloc (.cells #[.int .u32 0, .slice none 0 0, .int .u64 0, .int .u8 0, .string ⟨#[]⟩, .int .u8 0, .int .i64 0, .int .u64 0, .string ⟨#[]⟩, .int .u32 0, .int .u32 0] 41) = wy at *
    have hgg3 := Lib.hid (show g ≠ g3 by have := hlt.out; have := hg3.out; omega)
    have hgw := Lib.hid (show g ≠ w.heap.size by have := hlt.out; omega)
    have hWg3 := Lib.hid (show W0.heap.size ≤ g3 by have := hbs.out; have := hg3.out; omega)
    have hne := Lib.hid (show w.heap.size ≠ g3 by have := hg3.out; omega)
    have hle := Lib.hid (Nat.le_of_lt hg3.out)
    have hM := Lib.hid (small_rd ss.out q4.out (by have := hll.out; have := q3.out; omega))
    go_upto_region 5 with (go_at_call 66; (with_reducible refine (hM.out).mono ?_); rintro e wz ⟨au, rfl, hau, l2, f2, ra, rb, z1c, z1d, z1e⟩; have hau := Lib.hid hau; have ra := Lib.hid ra; have rb := Lib.hid rb; have z1c := Lib.hid z1c; have z1d := Lib.hid z1d; have z1e := Lib.hid z1e; replace hl := Lib.hid (butRow rb.out hl.out hgg3.out); obtain ⟨⟨k0, k1, k2, k3, k4, k5, k6, k7, k8, k9, k10⟩, y0, y1, y2, y3, y4, y5, y6, y7, y8, y9, y10⟩ := eleven_of hl.out)
    have hlx := Lib.hid (show (wz.setCell ⟨g3, 0, none⟩ (.int .u32 (au : Int))).heap[g3]? = some (.cells #[.int .u32 (au : Int), .slice none 0 0, .int .u64 0, .int .u8 0, .string ⟨#[]⟩, .int .u8 0, .int .i64 0, .int .u64 0, .string ⟨#[]⟩, .int .u32 0, .int .u32 0] 41 (0, 0)) from (setCell_row hl.out 0 (.int .u32 (au : Int))))
    have sx := Lib.hid (ra.out.other hgg3.out hWg3.out 0 (.int .u32 (au : Int)))
    have gx := Lib.hid (but_set (but_trans gg.out rb.out) g3 0 (.int .u32 (au : Int)) hle.out)
    have rx := Lib.hid ((setCell_rows (w := wz) g3 0 (.int .u32 (au : Int)) w.heap.size hne.out).trans (butRow rb.out hr.out hgw.out))
    clear hl ss gg hr ra rb hM k0 y0 k1 y1 k2 y2 k3 y3 k4 y4 k5 y5 k6 y6 k7 y7 k8 y8 k9 y9 k10 y10
    have hl := hlx; have ss := sx; have gg := gx; have hr := rx; clear hlx sx gx rx
    generalize (wz.setCell ⟨g3, 0, none⟩ (.int .u32 (au : Int))) = wy1 at *
    have hlo := hl
    have hM := Lib.hid (ids_rd ss.out z1d.out (by have := hll.out; have := q3.out; have := z1c.out; omega))
    go_upto_region 6 with (go_at_call 67; (with_reducible refine (hM.out).mono ?_); rintro e wz ⟨ia, n, ic, F, rfl, hI, hFb, hn4, l3, f3, ra, rb, z2c, z2d, z2e⟩; have hI := Lib.hid hI; have hFb := Lib.hid hFb; have hn4 := Lib.hid hn4; have ra := Lib.hid ra; have rb := Lib.hid rb; have z2c := Lib.hid z2c; have z2d := Lib.hid z2d; have z2e := Lib.hid z2e; replace hl := Lib.hid (butRow rb.out hl.out hgg3.out); obtain ⟨⟨k0, k1, k2, k3, k4, k5, k6, k7, k8, k9, k10⟩, y0, y1, y2, y3, y4, y5, y6, y7, y8, y9, y10⟩ := eleven_of hl.out)
    have hgI := Lib.hid (show g < wy1.heap.size from ss.out.lt)
    have hg3I := Lib.hid (show g3 < wy1.heap.size from (Array.getElem?_eq_some_iff.1 hlo.out).1)
    have hWI := Lib.hid (show w.heap.size < wy1.heap.size from Nat.lt_trans hg3.out hg3I.out)
    have hlx := Lib.hid (show (wz.setCell ⟨g3, 1, none⟩ (.slice ia n ic)).heap[g3]? = some (.cells #[.int .u32 (au : Int), .slice ia n ic, .int .u64 0, .int .u8 0, .string ⟨#[]⟩, .int .u8 0, .int .i64 0, .int .u64 0, .string ⟨#[]⟩, .int .u32 0, .int .u32 0] 41 (0, 0)) from (setCell_row hl.out 1 (.slice ia n ic)))
    have sx := Lib.hid (ra.out.other hgg3.out hWg3.out 1 (.slice ia n ic))
    have gx := Lib.hid (but_set (but_trans gg.out rb.out) g3 1 (.slice ia n ic) hle.out)
    have rx := Lib.hid ((setCell_rows (w := wz) g3 1 (.slice ia n ic) w.heap.size hne.out).trans (butRow rb.out hr.out hgw.out))
    replace hI := Lib.hid (heldI_set (k := g3) (i := 1) (x := .slice ia n ic) hI.out hg3I.out)
    clear hl ss gg hr ra rb hM k0 y0 k1 y1 k2 y2 k3 y3 k4 y4 k5 y5 k6 y6 k7 y7 k8 y8 k9 y9 k10 y10
    have hl := hlx; have ss := sx; have gg := gx; have hr := rx; clear hlx sx gx rx
    generalize (wz.setCell ⟨g3, 1, none⟩ (.slice ia n ic)) = wy2 at *
    have hM := Lib.hid (number_rd ss.out z2d.out (by have := hll.out; have := q3.out; have := z1c.out; have := z2c.out; omega))
    go_upto_region 7 with (go_at_call 68; (with_reducible refine (hM.out).mono ?_); rintro e wz ⟨st, rfl, hst, l4, f4, ra, rb, z3c, z3d, z3e⟩; have hst := Lib.hid hst; have ra := Lib.hid ra; have rb := Lib.hid rb; have z3c := Lib.hid z3c; have z3d := Lib.hid z3d; have z3e := Lib.hid z3e; replace hl := Lib.hid (butRow rb.out hl.out hgg3.out); obtain ⟨⟨k0, k1, k2, k3, k4, k5, k6, k7, k8, k9, k10⟩, y0, y1, y2, y3, y4, y5, y6, y7, y8, y9, y10⟩ := eleven_of hl.out)
    replace hI := Lib.hid (heldI_but hI.out hgI.out rb.out)
    have hlx := Lib.hid (show (wz.setCell ⟨g3, 2, none⟩ (.int .u64 (st : Int))).heap[g3]? = some (.cells #[.int .u32 (au : Int), .slice ia n ic, .int .u64 (st : Int), .int .u8 0, .string ⟨#[]⟩, .int .u8 0, .int .i64 0, .int .u64 0, .string ⟨#[]⟩, .int .u32 0, .int .u32 0] 41 (0, 0)) from (setCell_row hl.out 2 (.int .u64 (st : Int))))
    have sx := Lib.hid (ra.out.other hgg3.out hWg3.out 2 (.int .u64 (st : Int)))
    have gx := Lib.hid (but_set (but_trans gg.out rb.out) g3 2 (.int .u64 (st : Int)) hle.out)
    have rx := Lib.hid ((setCell_rows (w := wz) g3 2 (.int .u64 (st : Int)) w.heap.size hne.out).trans (butRow rb.out hr.out hgw.out))
    replace hI := Lib.hid (heldI_set (k := g3) (i := 2) (x := .int .u64 (st : Int)) hI.out hg3I.out)
    clear hl ss gg hr ra rb hM k0 y0 k1 y1 k2 y2 k3 y3 k4 y4 k5 y5 k6 y6 k7 y7 k8 y8 k9 y9 k10 y10
    have hl := hlx; have ss := sx; have gg := gx; have hr := rx; clear hlx sx gx rx
    generalize (wz.setCell ⟨g3, 2, none⟩ (.int .u64 (st : Int))) = wy3 at *
    have hM := Lib.hid (act_rd ss.out z3d.out (by have := hll.out; have := q3.out; have := z1c.out; have := z2c.out; have := z3c.out; omega))
    go_upto_region 8 with (go_at_call 69; (with_reducible refine (hM.out).mono ?_); rintro e wz ⟨⟨ck, ckey, vk, vn, vb, vs⟩, rfl, hck, hckey, hcv, l5, f5, ra, rb, z4c, z4d, z4e⟩; dsimp only at *; have hck := Lib.hid hck; have hckey := Lib.hid hckey; have hcv := Lib.hid hcv; have ra := Lib.hid ra; have rb := Lib.hid rb; have z4c := Lib.hid z4c; have z4d := Lib.hid z4d; have z4e := Lib.hid z4e; replace hl := Lib.hid (butRow rb.out hl.out hgg3.out); obtain ⟨⟨k0, k1, k2, k3, k4, k5, k6, k7, k8, k9, k10⟩, y0, y1, y2, y3, y4, y5, y6, y7, y8, y9, y10⟩ := eleven_of hl.out)
    replace hI := Lib.hid (heldI_but hI.out hgI.out rb.out)
    have hlx := Lib.hid (show ((((((wz.setCell ⟨g3, 3, none⟩ (.int .u8 ck)).setCell ⟨g3, 4, none⟩ (.string ckey)).setCell ⟨g3, 5, none⟩ (.int .u8 vk)).setCell ⟨g3, 6, none⟩ (.int .i64 vn)).setCell ⟨g3, 7, none⟩ (.int .u64 (vb : Int))).setCell ⟨g3, 8, none⟩ (.string vs)).heap[g3]? = some (.cells #[.int .u32 (au : Int), .slice ia n ic, .int .u64 (st : Int), .int .u8 ck, .string ckey, .int .u8 vk, .int .i64 vn, .int .u64 (vb : Int), .string vs, .int .u32 0, .int .u32 0] 41 (0, 0)) from (setCell_row (setCell_row (setCell_row (setCell_row (setCell_row (setCell_row hl.out 3 (.int .u8 ck)) 4 (.string ckey)) 5 (.int .u8 vk)) 6 (.int .i64 vn)) 7 (.int .u64 (vb : Int))) 8 (.string vs)))
    have sx := Lib.hid ((((((ra.out.other hgg3.out hWg3.out 3 (.int .u8 ck)).other hgg3.out hWg3.out 4 (.string ckey)).other hgg3.out hWg3.out 5 (.int .u8 vk)).other hgg3.out hWg3.out 6 (.int .i64 vn)).other hgg3.out hWg3.out 7 (.int .u64 (vb : Int))).other hgg3.out hWg3.out 8 (.string vs))
    have gx := Lib.hid (but_set (but_set (but_set (but_set (but_set (but_set (but_trans gg.out rb.out) g3 3 (.int .u8 ck) hle.out) g3 4 (.string ckey) hle.out) g3 5 (.int .u8 vk) hle.out) g3 6 (.int .i64 vn) hle.out) g3 7 (.int .u64 (vb : Int)) hle.out) g3 8 (.string vs) hle.out)
    have rx := Lib.hid ((setCell_rows (w := (((((wz.setCell ⟨g3, 3, none⟩ (.int .u8 ck)).setCell ⟨g3, 4, none⟩ (.string ckey)).setCell ⟨g3, 5, none⟩ (.int .u8 vk)).setCell ⟨g3, 6, none⟩ (.int .i64 vn)).setCell ⟨g3, 7, none⟩ (.int .u64 (vb : Int)))) g3 8 (.string vs) w.heap.size hne.out).trans ((setCell_rows (w := ((((wz.setCell ⟨g3, 3, none⟩ (.int .u8 ck)).setCell ⟨g3, 4, none⟩ (.string ckey)).setCell ⟨g3, 5, none⟩ (.int .u8 vk)).setCell ⟨g3, 6, none⟩ (.int .i64 vn))) g3 7 (.int .u64 (vb : Int)) w.heap.size hne.out).trans ((setCell_rows (w := (((wz.setCell ⟨g3, 3, none⟩ (.int .u8 ck)).setCell ⟨g3, 4, none⟩ (.string ckey)).setCell ⟨g3, 5, none⟩ (.int .u8 vk))) g3 6 (.int .i64 vn) w.heap.size hne.out).trans ((setCell_rows (w := ((wz.setCell ⟨g3, 3, none⟩ (.int .u8 ck)).setCell ⟨g3, 4, none⟩ (.string ckey))) g3 5 (.int .u8 vk) w.heap.size hne.out).trans ((setCell_rows (w := (wz.setCell ⟨g3, 3, none⟩ (.int .u8 ck))) g3 4 (.string ckey) w.heap.size hne.out).trans ((setCell_rows (w := wz) g3 3 (.int .u8 ck) w.heap.size hne.out).trans (butRow rb.out hr.out hgw.out)))))))
    replace hI := Lib.hid (heldI_set (k := g3) (i := 8) (x := .string vs) (heldI_set (k := g3) (i := 7) (x := .int .u64 (vb : Int)) (heldI_set (k := g3) (i := 6) (x := .int .i64 vn) (heldI_set (k := g3) (i := 5) (x := .int .u8 vk) (heldI_set (k := g3) (i := 4) (x := .string ckey) (heldI_set (k := g3) (i := 3) (x := .int .u8 ck) hI.out hg3I.out) hg3I.out) hg3I.out) hg3I.out) hg3I.out) hg3I.out)
    clear hl ss gg hr ra rb hM k0 y0 k1 y1 k2 y2 k3 y3 k4 y4 k5 y5 k6 y6 k7 y7 k8 y8 k9 y9 k10 y10
    have hl := hlx; have ss := sx; have gg := gx; have hr := rx; clear hlx sx gx rx
    generalize ((((((wz.setCell ⟨g3, 3, none⟩ (.int .u8 ck)).setCell ⟨g3, 4, none⟩ (.string ckey)).setCell ⟨g3, 5, none⟩ (.int .u8 vk)).setCell ⟨g3, 6, none⟩ (.int .i64 vn)).setCell ⟨g3, 7, none⟩ (.int .u64 (vb : Int))).setCell ⟨g3, 8, none⟩ (.string vs)) = wy4 at *
    have hM := Lib.hid (small_rd ss.out z4d.out (by have := hll.out; have := q3.out; have := z1c.out; have := z2c.out; have := z3c.out; have := z4c.out; omega))
    go_upto_region 9 with (go_at_call 66; (with_reducible refine (hM.out).mono ?_); rintro e wz ⟨ee, rfl, hee, l6, f6, ra, rb, z5c, z5d, z5e⟩; have hee := Lib.hid hee; have ra := Lib.hid ra; have rb := Lib.hid rb; have z5c := Lib.hid z5c; have z5d := Lib.hid z5d; have z5e := Lib.hid z5e; replace hl := Lib.hid (butRow rb.out hl.out hgg3.out); obtain ⟨⟨k0, k1, k2, k3, k4, k5, k6, k7, k8, k9, k10⟩, y0, y1, y2, y3, y4, y5, y6, y7, y8, y9, y10⟩ := eleven_of hl.out)
    replace hI := Lib.hid (heldI_but hI.out hgI.out rb.out)
    have hlx := Lib.hid (show (wz.setCell ⟨g3, 9, none⟩ (.int .u32 (ee : Int))).heap[g3]? = some (.cells #[.int .u32 (au : Int), .slice ia n ic, .int .u64 (st : Int), .int .u8 ck, .string ckey, .int .u8 vk, .int .i64 vn, .int .u64 (vb : Int), .string vs, .int .u32 (ee : Int), .int .u32 0] 41 (0, 0)) from (setCell_row hl.out 9 (.int .u32 (ee : Int))))
    have sx := Lib.hid (ra.out.other hgg3.out hWg3.out 9 (.int .u32 (ee : Int)))
    have gx := Lib.hid (but_set (but_trans gg.out rb.out) g3 9 (.int .u32 (ee : Int)) hle.out)
    have rx := Lib.hid ((setCell_rows (w := wz) g3 9 (.int .u32 (ee : Int)) w.heap.size hne.out).trans (butRow rb.out hr.out hgw.out))
    replace hI := Lib.hid (heldI_set (k := g3) (i := 9) (x := .int .u32 (ee : Int)) hI.out hg3I.out)
    clear hl ss gg hr ra rb hM k0 y0 k1 y1 k2 y2 k3 y3 k4 y4 k5 y5 k6 y6 k7 y7 k8 y8 k9 y9 k10 y10
    have hl := hlx; have ss := sx; have gg := gx; have hr := rx; clear hlx sx gx rx
    generalize (wz.setCell ⟨g3, 9, none⟩ (.int .u32 (ee : Int))) = wy5 at *
    have hM := Lib.hid (small_rd ss.out z5d.out (by have := hll.out; have := q3.out; have := z1c.out; have := z2c.out; have := z3c.out; have := z4c.out; have := z5c.out; omega))
    go_upto_region 10 with (go_at_call 66; (with_reducible refine (hM.out).mono ?_); rintro e wz ⟨es, rfl, hes, l7, f7, ra, rb, z6c, z6d, z6e⟩; have hes := Lib.hid hes; have ra := Lib.hid ra; have rb := Lib.hid rb; have z6c := Lib.hid z6c; have z6d := Lib.hid z6d; have z6e := Lib.hid z6e; replace hl := Lib.hid (butRow rb.out hl.out hgg3.out); obtain ⟨⟨k0, k1, k2, k3, k4, k5, k6, k7, k8, k9, k10⟩, y0, y1, y2, y3, y4, y5, y6, y7, y8, y9, y10⟩ := eleven_of hl.out)
    replace hI := Lib.hid (heldI_but hI.out hgI.out rb.out)
    have hlx := Lib.hid (show (wz.setCell ⟨g3, 10, none⟩ (.int .u32 (es : Int))).heap[g3]? = some (.cells #[.int .u32 (au : Int), .slice ia n ic, .int .u64 (st : Int), .int .u8 ck, .string ckey, .int .u8 vk, .int .i64 vn, .int .u64 (vb : Int), .string vs, .int .u32 (ee : Int), .int .u32 (es : Int)] 41 (0, 0)) from (setCell_row hl.out 10 (.int .u32 (es : Int))))
    have sx := Lib.hid (ra.out.other hgg3.out hWg3.out 10 (.int .u32 (es : Int)))
    have gx := Lib.hid (but_set (but_trans gg.out rb.out) g3 10 (.int .u32 (es : Int)) hle.out)
    have rx := Lib.hid ((setCell_rows (w := wz) g3 10 (.int .u32 (es : Int)) w.heap.size hne.out).trans (butRow rb.out hr.out hgw.out))
    replace hI := Lib.hid (heldI_set (k := g3) (i := 10) (x := .int .u32 (es : Int)) hI.out hg3I.out)
    clear hl ss gg hr ra rb hM k0 y0 k1 y1 k2 y2 k3 y3 k4 y4 k5 y5 k6 y6 k7 y7 k8 y8 k9 y9 k10 y10
    have hl := hlx; have ss := sx; have gg := gx; have hr := rx; clear hlx sx gx rx
    generalize (wz.setCell ⟨g3, 10, none⟩ (.int .u32 (es : Int))) = wy6 at *
    have hE := Lib.hid (op_ends (c := ⟨ck, ckey, vk, vn, vb, vs⟩) q5.out hfx.out z1e.out z2e.out z3e.out z4e.out z5e.out z6e.out)
    have hR := Lib.hid (show RdOut W0 g w l fl (rOp l) (⟨au, n, F, st, ck, ckey, ⟨vk, vn, vb, vs⟩, ee, es⟩ : Od) wy6 from ⟨l7, f7, ss.out, gg.out, by have := q3.out; have := z1c.out; have := z2c.out; have := z3c.out; have := z4c.out; have := z5c.out; have := z6c.out; omega, z6d.out, hE.out⟩)
    clear q5 z1e z2e z3e z4e z5e z6e hE ss gg
    go_wp2_with (first
      | (refine wpList_load_row_g rfl 41 _ rfl g3 rfl 41 ((⟨au, n, F, st, ck, ckey, ⟨vk, vn, vb, vs⟩, ee, es⟩ : Od).c (.slice ia n ic)) (0, 0) _ hl.out Tryz.underlying41 rfl info_op ?_)
      | (refine wpList_store_row rfl 41 _ _ rfl w.heap.size ((⟨au, n, F, st, ck, ckey, ⟨vk, vn, vb, vs⟩, ee, es⟩ : Od).c (.slice ia n ic)) rfl rfl 41 _ hr.out info_op rfl (op_one ⟨au, n, F, st, ck, ckey, ⟨vk, vn, vb, vs⟩, ee, es⟩ ia n ic) ?_; have hr9 := Lib.hid (setRow_heap _ _ _ ((⟨au, n, F, st, ck, ckey, ⟨vk, vn, vb, vs⟩, ee, es⟩ : Od).c (.slice ia n ic)) _ _ hr.out); have hb9 := Lib.hid (below_setRow' (B := w.heap.size) (g := w.heap.size) (Below.refl _ wy6) (Nat.le_refl _) ((⟨au, n, F, st, ck, ckey, ⟨vk, vn, vb, vs⟩, ee, es⟩ : Od).c (.slice ia n ic)))))
    exact bodyPost_ret (results_cell_row rfl _ _ w.heap.size 41 _ _ _ rfl hr9.out Tryz.underlying41 rfl info_op) rfl ⟨⟨au, n, F, st, ck, ckey, ⟨vk, vn, vb, vs⟩, ee, es⟩, ia, ic, rfl, ⟨hau.out, hFb.out, Nat.le_trans hn4.out (by decide), hst.out, hck.out, Nat.le_trans hckey.out (by decide), hcv.out, hee.out, hes.out⟩, hn4.out, heldI_lower (heldI_setRow hI.out hWI.out _) (Nat.le_of_lt hWI.out), RdOut.low hR.out hb9.out hlt.out hbs.out⟩
end Go.Proofs.YtfaojjleapenaabGreatDoor.wir.val
namespace Go.Proofs.YtfaojjleapenaabGreatDoor.grp
open Go.RowKit
set_option linter.unusedVariables false
theorem inG_lt {a : Nat} (h : inG a = true) : a < GP := ((inG_iff a).1 h).2.1
theorem inG_u32 {a : Nat} (h : inG a = true) : a < 4294967296 := by have := inG_lt h; unfold GP at this; omega
theorem GP_u32 {a : Nat} (h : a < GP) : a < 4294967296 := by unfold GP at h; omega
theorem mul_ok (a b : Nat) (ha : inG a = true) (hb : inG b = true) (w : World) : Calls Tryz.prog 103 #[.int .u32 (a : Int), .int .u32 (b : Int)] w fun e w' => e = .returned (.tuple #[.int .u32 ((a * b % GP : Nat) : Int), .int .i64 0]) ∧ Grown w w' := by
  have hE0 := every_is a b w.heap.size (w.alloc (.cells #[.int .u32 (a : Int), .int .u32 (b : Int)] 31)) (inG_u32 ha) (inG_u32 hb) (by simp) (by simp)
  rw [ha, hb] at hE0
  have hE := Lib.hid hE0; have la := Lib.hid (inG_lt ha); have lb := Lib.hid (inG_lt hb)
  clear hE0 ha hb
  go_enter Tryz.func103, Tryz.ntmps103
  go_wp2_with (first | (go_at_call 82; refine (hE.out).mono ?_; rintro e w' ⟨rfl, g1⟩; have g1' := Lib.hid g1; clear g1) | (go_at_call 84; refine (products_any _ _).mono ?_; rintro e w' ⟨rfl, rfl⟩) | (go_at_call 109; refine (times_GP _ _ _ _ (by simp) la.out lb.out).mono ?_; rintro e w' ⟨rfl, rfl⟩))
  go_ret2
  exact ⟨rfl, (Grown.trans' ((Grown.refl _).alloc _ _) g1'.out).alloc _ _⟩
theorem pow_ok (a n : Nat) (ha : inG a = true) (hn : n < 18446744073709551616) (w : World) : Calls Tryz.prog 101 #[.int .u32 (a : Int), .int .u64 (n : Int)] w fun e w' => e = .returned (.tuple #[.int .u32 (pw a n : Int), .int .i64 0]) ∧ Grown w w' := by
  have hI0 := is_any a (inG_u32 ha)
  rw [ha] at hI0
  have hI := Lib.hid hI0; have hP := Lib.hid (power_any a n (inG_lt ha) hn)
  clear hI0 ha hn
  go_enter Tryz.func101, Tryz.ntmps101
  go_wp2_with (first | (go_at_call 43; refine (hI.out _).mono ?_; rintro e w' ⟨rfl, g1⟩; have g1' := Lib.hid g1; clear g1) | (go_at_call 75; refine (hP.out _).mono ?_; rintro e w' ⟨rfl, g2⟩; have g2' := Lib.hid g2; clear g2))
  go_ret2
  exact ⟨rfl, Grown.trans' g1'.out g2'.out⟩
theorem inv_ok (a : Nat) (ha : inG a = true) (w : World) : Calls Tryz.prog 102 #[.int .u32 (a : Int)] w fun e w' => e = .returned (.tuple #[.int .u32 (pw a 500000002 : Int), .int .i64 0]) ∧ Grown w w' := by
  have hP := Lib.hid (pow_ok a 500000002 ha (by decide))
  clear ha
  go_enter Tryz.func102, Tryz.ntmps102
  go_wp2_with (go_at_call 101; refine (hP.out _).mono ?_; rintro e w' ⟨rfl, g1⟩; have g1' := Lib.hid g1; clear g1)
  go_ret2
  exact ⟨rfl, g1'.out⟩
theorem base_any (n : Nat) (hn : n < 18446744073709551616) (w : World) : Calls Tryz.prog 52 #[.int .u64 (n : Int)] w fun e w' => e = .returned (.int .u32 (pw 4 n : Int)) ∧ Grown w w' := by
  have hP := Lib.hid (power_any 4 n (by decide) hn)
  clear hn
  go_enter Tryz.func52, Tryz.ntmps52
  go_wp2_with (go_at_call 75; refine (hP.out _).mono ?_; rintro e w' ⟨rfl, g1⟩; have g1' := Lib.hid g1; clear g1)
  go_ret
  exact ⟨rfl, g1'.out⟩
end Go.Proofs.YtfaojjleapenaabGreatDoor.grp
namespace Go.Proofs.YtfaojjleapenaabGreatDoor.grp
open Go.RowKit
set_option linter.unusedVariables false
theorem pw_eq (a n : Nat) (hn : n < 2 ^ 64) : pw a n = pwF 64 1 a n := by
  rw [pwF_eq 64 1 a n hn (by decide), Nat.one_mul]; exact (Nat.mod_eq_of_lt (pw_lt _ _)).symm
theorem inG_eq (a : Nat) : inG a = decide (1 ≤ a ∧ a < GP ∧ pwF 64 1 a 500000003 = 1) := by unfold inG; rw [pw_eq _ _ (by decide)]
theorem in4 : inG 4 = true := by rw [inG_eq]; decide +kernel
end Go.Proofs.YtfaojjleapenaabGreatDoor.grp
namespace Go.Proofs.YtfaojjleapenaabGreatDoor.grp
open Go.RowKit
set_option linter.unusedVariables false
theorem inv_mul (a : Nat) (h : inG a = true) : a * pw a 500000002 % GP = 1 := by
  obtain ⟨_, hl, h⟩ := (inG_iff a).1 h
  have e := pw_add a 1 500000002
  rw [pw_one a hl, show 1 + 500000002 = 500000003 from rfl, h] at e
  exact e.symm
end Go.Proofs.YtfaojjleapenaabGreatDoor.grp
namespace Go.Proofs.YtfaojjleapenaabGreatDoor
open Go.RowKit Go.YtfaojjleapenaabGreatDoor
set_option linter.unusedVariables false
variable {Tg Tf : TypeId}
def numN (D : List Int) : Nat → Int
  | 0 => 0
  | k + 1 => numN D k * 256 + ith D k
theorem numN_in (D : List Int) (hD : Bytes D) (k : Nat) : 0 ≤ numN D k ∧ numN D k < 256 ^ k := by
  induction k with
  | zero => exact ⟨Int.le_refl _, by rw [Int.pow_zero]; exact Int.zero_lt_one⟩
  | succ k ih =>
    have h := hD k
    show 0 ≤ numN D k * 256 + ith D k ∧ numN D k * 256 + ith D k < 256 ^ (k + 1)
    rw [Int.pow_succ]; omega
theorem numN_7 (D : List Int) (hD : Bytes D) (k : Nat) (hk : k ≤ 7) : 0 ≤ numN D k ∧ numN D k < 72057594037927936 := by
  have h := numN_in D hD k
  refine ⟨h.1, Int.lt_of_lt_of_le h.2 ?_⟩
  have h2 : (256 : Nat) ^ k ≤ 72057594037927936 := (show (256 : Nat) ^ k ≤ 256 ^ 7 from Nat.pow_le_pow_right (by decide) hk)
  rw [show (256 : Int) ^ k = ((256 ^ k : Nat) : Int) by rw [Int.natCast_pow]; rfl]
  exact Int.ofNat_le.2 h2
set_option maxRecDepth 10000 in
theorem or_byte (x b : Int) (hx : 0 ≤ x ∧ x < 72057594037927936) (hb : 0 ≤ b ∧ b < 256) : bits BinOp.or IntKind.u64 (x * 256) b = x * 256 + b := by
  obtain ⟨n, rfl⟩ := Int.eq_ofNat_of_zero_le hx.1
  obtain ⟨m, rfl⟩ := Int.eq_ofNat_of_zero_le hb.1
  have h1 : (BitVec.ofInt 64 ((n : Int) * 256)).toNat = 2 ^ 8 * n := by
    rw [show (n : Int) * 256 = ((2 ^ 8 * n : Nat) : Int) by omega, BitVec.ofInt_natCast, BitVec.toNat_ofNat]; omega
  have h2 : (BitVec.ofInt 64 (m : Int)).toNat = m := by
    rw [BitVec.ofInt_natCast, BitVec.toNat_ofNat]; omega
  show IntKind.u64.wrap ((BitVec.ofInt 64 ((n : Int) * 256) ||| BitVec.ofInt 64 (m : Int)).toNat : Int) = _
  rw [BitVec.toNat_or, h1, h2, ← Nat.two_pow_add_eq_or_of_lt (by omega) n, IntKind.wrap_u64]
  omega
set_option maxRecDepth 100000 in
theorem numberOf_any (D : List Int) (w : World) (hl : D.length = 32) (hD : Bytes D) :
    Calls Tryz.prog 108 #[.agg (u8s D)] w fun e w' => e = .returned (.int .u64 (numN D 8)) ∧ Below w.heap.size w w' := by
  have hc := fun k (hk : k < 32) => (show (w.alloc (.cells (u8s D) 43)).cell? ⟨w.heap.size, k, none⟩ = some (.int .u8 (ith D k)) from by
    rw [cell_of_row _ _ _ _ _ _ (heap_alloc_new w _)]; exact u8s_get _ _ (by omega))
  have hc' := Lib.hid hc; have hl' := Lib.hid hl; have hD' := Lib.hid hD
  clear hc hl hD
  go_enter Tryz.func108, Tryz.ntmps108
  go_wp2
  go_loop [3, 8] (fun n i => ∃ k : Nat, k ≤ 8 ∧ i = .int .i64 k ∧ n = .int .u64 (numN D k)) (fun _ i => match i with | .int _ m => 8 - m.toNat | _ => 0)
  case atStart => exact ⟨0, by omega, rfl, rfl⟩
  case round =>
    obtain ⟨k, hk, rfl, rfl⟩ := hrel
    by_cases hlt : k < 8
    · have hck := hc'.out k (by omega)
      have hb := hD'.out k
      have hx := numN_7 D hD'.out k (by omega)
      have hor := Lib.hid (or_byte _ _ hx hb)
      have hnx : numN D (k + 1) = numN D k * 256 + ith D k := rfl
      generalize hY : numN D (k + 1) = y at hnx
      generalize hX : numN D k = x at *
      have hnx' := Lib.hid hnx; have hY' := Lib.hid hY
      clear hnx hX hY
      generalize ith D k = b at *
      go_wp2
      refine ⟨⟨k + 1, by omega, rfl, ?_⟩, ?_⟩
      · rw [hor.out, ← hnx'.out, hY'.out]
      · show 8 - ((k : Int) + 1).toNat < 8 - (k : Int).toNat
        omega
    · obtain rfl : k = 8 := by omega
      go_wp2
      go_ret
      exact ⟨rfl, (Below.refl _ _).alloc (Nat.le_refl _) _⟩
theorem tooLong_any (a : Option Addr) (n c : Nat) (w : World) : Calls Tryz.prog 76 #[.slice a n c] w fun e w' => e = .returned (.bool (decide (9991 < n))) ∧ w' = w := by
  go_enter Tryz.func76, Tryz.ntmps76
  go_wp2
  go_ret
  exact ⟨by congr 2; simp; omega, rfl⟩
theorem check_any (a : Nat) (w : World) : Calls Tryz.prog 72 #[.int .u32 (a : Int)] w fun e w' => e = .returned (.int .i64 (if 1 ≤ a ∧ a < 500000003 then 0 else 2)) ∧ w' = w := by
  by_cases h : 1 ≤ a ∧ a < 500000003
  · rw [if_pos h]
    obtain ⟨h1, h2⟩ := h
    go_enter Tryz.func72, Tryz.ntmps72
    go_wp2
    all_goals
      go_ret
      exact ⟨rfl, rfl⟩
  · rw [if_neg h]
    by_cases h1 : a = 0
    · subst h1
      go_enter Tryz.func72, Tryz.ntmps72
      go_wp2
      all_goals
        go_ret
        exact ⟨rfl, rfl⟩
    · have h2 : ¬ a < 500000003 := by omega
      have h3 : 1 ≤ a := by omega
      clear h h1
      go_enter Tryz.func72, Tryz.ntmps72
      go_wp2
      all_goals
        go_ret
        exact ⟨rfl, rfl⟩
end Go.Proofs.YtfaojjleapenaabGreatDoor
namespace Go.Proofs.YtfaojjleapenaabGreatDoor
open Go.RowKit Go.YtfaojjleapenaabGreatDoor
set_option linter.unusedVariables false
variable {Tg Tf : TypeId}
def headF (mark : Int) (nums : List Int) : Nat → List Int
  | 0 => [mark]
  | k + 1 => headF mark nums k ++ be4 (ith nums k)
theorem headF_length (mark : Int) (nums : List Int) (k : Nat) : (headF mark nums k).length = 4 * k + 1 := by
  induction k with
  | zero => rfl
  | succ k ih => simp [headF, ih, be4]; omega
theorem list_all32 (v : V8) (h : v.ok) : All32 v.list := by
  obtain ⟨h0, h1, h2, h3, h4, h5, h6, h7⟩ := h
  intro i
  match i with
  | 0 => exact h0
  | 1 => exact h1
  | 2 => exact h2
  | 3 => exact h3
  | 4 => exact h4
  | 5 => exact h5
  | 6 => exact h6
  | 7 => exact h7
  | i + 8 => rw [ith_over _ _ (by simp [V8.list])]; exact ⟨by omega, by omega⟩
theorem shaF_bytes (l : List Int) : Bytes (shaF l) := writtenN_bytes _ 8 (list_all32 _ (blocksF_ok _ _ (blocksF_ok _ _ firstW_ok)))
theorem headF_bytes (mark : Int) (nums : List Int) (hm : 0 ≤ mark ∧ mark < 256) (hn : All32 nums) (k : Nat) : Bytes (headF mark nums k) := by
  induction k with
  | zero => exact bytes_one _ hm
  | succ k ih => exact bytes_append _ _ ih (be4_bytes _ (hn k))
theorem rd_four (w : World) (a b c d : Int) : RdB (w.alloc (.cells #[.int .u8 a, .int .u8 b, .int .u8 c, .int .u8 d] 5)) (.slice (some ⟨w.heap.size, 0, none⟩) 4 4) [a, b, c, d] := .inr ⟨w.heap.size, 0, 4, rfl, Nat.le_refl _, by decide, by simp, fun i hi => by
  rw [Nat.zero_add, cell_of_row _ _ _ _ _ _ (heap_alloc_new w _)]
  match i, hi with
  | 0, _ => rfl
  | 1, _ => rfl
  | 2, _ => rfl
  | 3, _ => rfl⟩
theorem rd_two (w : World) (v1 v2 : Value) (a b : List Int) (h1 : RdB w v1 a) (h2 : RdB w v2 b) (la : a.length ≤ 10000) (lb : b.length ≤ 10000) (ba : Bytes a) (bb : Bytes b)
    (hg : w.heap[1]? = some (.cells (u32s constW) Tg (0, 0))) (hgf : w.heap[0]? = some (.cells firstW.cells Tf (0, 0))) :
    Calls Tryz.prog 29 #[.slice (some ⟨w.heap.size, 0, none⟩) 2 2] (w.alloc (.cells #[v1, v2] 22)) fun e w' => e = .returned (.tuple #[.agg (u8s (shaF (a ++ b))), .int .i64 0]) ∧ Below w.heap.size w w' := by
  have hB : Below w.heap.size w (w.alloc (.cells #[v1, v2] 22)) := (Below.refl _ _).alloc (Nat.le_refl _) _
  have h := pieces_any (Tg := Tg) (Tf := Tf) [a, b] (.slice (some ⟨w.heap.size, 0, none⟩) 2 2) w.heap.size 0 2 rfl (w.alloc (.cells #[v1, v2] 22)) (Nat.le_refl _) (by decide) (by simp) (fun i hi => by
    rw [Nat.zero_add]
    match i, hi with
    | 0, _ => exact ⟨_, cell_of_row _ _ _ _ _ _ (heap_alloc_new w _), h1.mono hB⟩
    | 1, _ => exact ⟨_, cell_of_row _ _ _ _ _ _ (heap_alloc_new w _), h2.mono hB⟩) (show 2 ≤ 20 by decide) (fun i => by
    match i with
    | 0 => exact la
    | 1 => exact lb
    | n + 2 => simp [nthL]) (fun i => by
    match i with
    | 0 => exact ba
    | 1 => exact bb
    | n + 2 => intro j; simp [nthL, ith]) ((hB.block _ (Array.getElem?_eq_some_iff.1 hg).1).trans hg) ((hB.block _ (Array.getElem?_eq_some_iff.1 hgf).1).trans hgf)
  rw [show ([a, b] : List (List Int)).flatten = a ++ b by simp] at h
  refine h.mono ?_
  rintro e w' ⟨rfl, hb⟩
  exact ⟨rfl, hB.trans (hb.mono (by simp))⟩
def hashF (mark : Int) (nums m : List Int) : Int := numN (shaF (headF mark nums nums.length ++ m)) 8
set_option maxRecDepth 100000 in
set_option maxHeartbeats 1000000 in
theorem hash_any (mark : Int) (nums m : List Int) (bn : Nat) (TU : TypeId) (mv : Value) (w : World) (hm : RdB w mv m) (hmb : Bytes m) (hml : m.length ≤ 9991) (hmk : 0 ≤ mark ∧ mark < 256) (hn2 : nums.length ≤ 2) (hn32 : All32 nums)
    (hn : w.heap[bn]? = some (.cells (u32s nums) TU (0, 0)))
    (hg : w.heap[1]? = some (.cells (u32s constW) Tg (0, 0))) (hgf : w.heap[0]? = some (.cells firstW.cells Tf (0, 0))) :
    Calls Tryz.prog 81 #[.int .u8 mark, mv, .slice (some ⟨bn, 0, none⟩) nums.length nums.length] w fun e w' => e = .returned (.int .u64 (hashF mark nums m)) ∧ Below w.heap.size w w' := by
  obtain ⟨ma, mc, rfl⟩ := hm.slice
  have hbn : bn < w.heap.size := (Array.getElem?_eq_some_iff.1 hn).1
  have e0 : OwnB w.heap.size 5 (w.alloc (.cells #[.int .u8 mark] 5)) (.slice (some ⟨w.heap.size, 0, none⟩) 1 1) (headF mark nums 0) :=
    ⟨rfl, .inr ⟨w.heap.size, 1, _, rfl, Nat.le_refl _, heap_alloc_new w _, Nat.le_refl _, by decide, rfl, rfl⟩⟩
  have e0' := Lib.hid e0; have hm' := Lib.hid hm; have hn' := Lib.hid hn; have hn32' := Lib.hid hn32; have hmb' := Lib.hid hmb; have hg' := Lib.hid hg; have hgf' := Lib.hid hgf
  clear e0 hm hn hn32 hmb hg hgf
  go_enter Tryz.func81, Tryz.ntmps81
  go_wp2
  go_loopw [7, 16] (fun h i wr => ∃ k : Nat, k ≤ nums.length ∧ i = .int .i64 k ∧ OwnB w.heap.size 5 wr h (headF mark nums k) ∧ Below w.heap.size w wr) (fun _ i _ => match i with | .int _ q => nums.length - q.toNat | _ => 0)
  case atStart => exact ⟨0, Nat.zero_le _, rfl, e0'.out, (Below.refl _ _).alloc (Nat.le_refl _) _⟩
  case round =>
    obtain ⟨k, hk, rfl, ho, hb⟩ := hrel
    obtain ⟨sa, sc, rfl⟩ := ho.rd.slice
    have hlen := headF_length mark nums k
    have hbd : (headF mark nums k).length + 4 ≤ 140737488355328 := by omega
    have hbd' := Lib.hid hbd
    generalize hHL : (headF mark nums k).length = hl at ho hlen ⊢
    have hHL' := Lib.hid hHL; have hlen' := Lib.hid hlen
    clear hHL hlen hbd
    by_cases hlt : k < nums.length
    · have hcell : wr.cell? ⟨bn, k, none⟩ = some (.int .u32 (ith nums k)) := by
        rw [cell_of_row _ _ _ _ _ _ ((hb.block _ hbn).trans hn'.out)]
        rw [u32s_eq]; simpa using u32v_get nums k hlt
      have hx := hn32'.out k
      generalize hX : ith nums k = x at hcell hx
      have hX' := Lib.hid hX; clear hX
      have ho' := Lib.hid ho; have hb' := Lib.hid hb; have hzw := hb.size
      clear ho hb
      obtain ⟨hx0, hx1⟩ := hx
      go_wp2_with (refine appendB rfl _ _ 22 rfl w.heap.size 5 Tryz.underlying22 (by kernel_rfl) _ rfl _ (ho'.out.kept ((Below.refl _ _).alloc (Nat.le_refl _) _)) _ rfl _ (rd_four _ _ _ _ _) (by exact hbd'.out) (by simp; omega) ?_)
      intro v' w' h1 h2
      have hb2 := (ho'.out.kept ((Below.refl _ _).alloc (Nat.le_refl _) _)).below h2 (by simp; omega)
      have h3 : OwnB w.heap.size 5 w' v' (headF mark nums (k + 1)) := by
        have e2 : headF mark nums (k + 1) = headF mark nums k ++ be4 x := by rw [← hX'.out]; rfl
        rw [e2]; exact h1
      have h3' := Lib.hid h3; have hB2 := Lib.hid (hb'.out.trans (((Below.refl _ _).alloc hzw _).trans hb2))
      obtain ⟨va, vc, rfl⟩ := h3.rd.slice
      clear h1 h2 hb2 h3 ho' hX' hHL' hlen' hbd' hcell
      refine Stop.go ?_
      go_wp2
      go_roundw
      case rel => exact ⟨k + 1, by omega, rfl, h3'.out, hB2.out⟩
      case measure => simp; omega
    · obtain rfl : k = nums.length := by omega
      have hg1 := Lib.hid ((hb.block _ (Array.getElem?_eq_some_iff.1 hg'.out).1).trans hg'.out)
      have hgf1 := Lib.hid ((hb.block _ (Array.getElem?_eq_some_iff.1 hgf'.out).1).trans hgf'.out)
      have hm1 := Lib.hid (hm'.out.mono hb)
      have ho1 := Lib.hid ho.rd
      have hB := Lib.hid hb
      have hzw := hb.size
      have hF := Lib.hid (show hashF mark nums m = numN (shaF (headF mark nums nums.length ++ m)) 8 from rfl)
      have hH := Lib.hid (headF_bytes mark nums hmk hn32'.out nums.length)
      have hHl : (headF mark nums nums.length).length ≤ 10000 := by rw [hHL'.out, hlen'.out]; omega
      have hHl' := Lib.hid hHl
      have hp := Lib.hid (rd_two wr (.slice sa hl sc) (.slice ma m.length mc) _ _ ho1.out hm1.out hHl'.out (by omega) hH.out hmb'.out hg1.out hgf1.out)
      have hDl := Lib.hid (shaF_length (headF mark nums nums.length ++ m))
      have hDb := Lib.hid (shaF_bytes (headF mark nums nums.length ++ m))
      clear ho hb ho1 hm1 hg1 hgf1 hH hHl hHl' hHL' hlen' hbd'
      generalize shaF (headF mark nums nums.length ++ m) = D at *
      have hi := Lib.hid (show (Tryz.prog.info? 43).map (·.size) = some (u8s D).size from by rw [u8s_size, hDl.out]; kernel_rfl)
      have hs2 := Lib.hid (show 32 = (u8s D).size by rw [u8s_size, hDl.out])
      go_wp2_with (first | (go_at_call 29; refine (hp.out).mono ?_; rintro e w1 ⟨rfl, hb1⟩; have hb1' := Lib.hid hb1; have hz1 := hb1.size; clear hb1) | (refine storeNew w1 rfl 43 _ _ rfl (u8s D) 43 rfl rfl hi.out (Eq.trans (by kernel_rfl) hs2.out) (u8s_one _) ?_; intro wx hr hb2; have hq := Lib.hid hr; have hb2' := Lib.hid hb2; clear hr hb2; refine Stop.go' _ ?_))
      refine Stop.go ?_
      have hB3 := Lib.hid (hB.out.trans ((hb1'.out.mono hzw).trans (hb2'.out.mono (Nat.le_trans hzw hz1))))
      have hzx := hB3.out.size
      clear hb1' hb2' hp hs2
      go_wp2_with (first | (refine wpList_load_row rfl 43 _ rfl w1.heap.size rfl 43 (u8s D) (0, 0) _ hq.out Tryz.underlying43 rfl hi.out ?_) | (go_at_call 108; refine (numberOf_any D _ hDl.out hDb.out).mono ?_; rintro e w2 ⟨rfl, hb3⟩; have hb3' := Lib.hid hb3; clear hb3))
      go_ret
      exact ⟨ret_int hF.out.symm, hB3.out.trans (hb3'.out.mono hzx)⟩
end Go.Proofs.YtfaojjleapenaabGreatDoor
namespace Go.Proofs.YtfaojjleapenaabGreatDoor
open Go.RowKit Go.YtfaojjleapenaabGreatDoor
set_option linter.unusedVariables false
/-- The listed variables as' they are laid. -/
def GlobW (w : World) : Prop := ∃ Tg Tf : TypeId, w.heap[1]? = some (.cells (u32s constW) Tg (0, 0)) ∧ w.heap[0]? = some (.cells firstW.cells Tf (0, 0))
theorem GlobW.mono {w w' : World} (h : GlobW w) (hb : Below w.heap.size w w') : GlobW w' := by
  obtain ⟨Tg, Tf, h1, h2⟩ := h
  exact ⟨Tg, Tf, (hb.block _ (Array.getElem?_eq_some_iff.1 h1).1).trans h1, (hb.block _ (Array.getElem?_eq_some_iff.1 h2).1).trans h2⟩
def hN (mark : Int) (nums m : List Int) : Nat := (hashF mark nums m).toNat
theorem hN_eq (mark : Int) (nums m : List Int) : hashF mark nums m = (hN mark nums m : Int) := by
  have h := numN_in (shaF (headF mark nums nums.length ++ m)) (shaF_bytes _) 8
  exact (Int.toNat_of_nonneg h.1).symm
def nonceN (a : Nat) (m : List Int) : Nat := hN 110 [(a : Int)] m % 500000002 + 1
def chalN (r y : Nat) (m : List Int) : Nat := hN 99 [(r : Int), (y : Int)] m % 500000003
theorem all32_1 (a : Nat) (ha : a < 4294967296) : All32 [(a : Int)] := all32_snoc [] _ (fun i => by simp [ith, In32]) ⟨by omega, by omega⟩
theorem all32_2 (a b : Nat) (ha : a < 4294967296) (hb : b < 4294967296) : All32 [(a : Int), (b : Int)] := all32_snoc [(a : Int)] _ (all32_1 a ha) ⟨by omega, by omega⟩
theorem hash1 (mark : Int) (hmk : 0 ≤ mark ∧ mark < 256) (a : Nat) (ha : a < 4294967296) (mv : Value) (m : List Int) (w : World) (hm : RdB w mv m) (hmb : Bytes m) (hml : m.length ≤ 9991) (hgl : GlobW w) :
    Calls Tryz.prog 81 #[.int .u8 mark, mv, .slice (some ⟨w.heap.size, 0, none⟩) 1 1] (w.alloc (.cells #[.int .u32 (a : Int)] 31)) fun e w' => e = .returned (.int .u64 (hN mark [(a : Int)] m : Int)) ∧ Below w.heap.size w w' := by
  have hB : Below w.heap.size w (w.alloc (.cells #[.int .u32 (a : Int)] 31)) := (Below.refl _ _).alloc (Nat.le_refl _) _
  obtain ⟨Tg, Tf, h1, h2⟩ := hgl.mono hB
  rw [← hN_eq]
  exact (hash_any (Tg := Tg) (Tf := Tf) mark [(a : Int)] m w.heap.size _ mv _ (hm.mono hB) hmb hml hmk (by simp) (all32_1 a ha) (heap_alloc_new w _) h1 h2).mono fun e w' ⟨he, hb⟩ => ⟨he, hB.trans (hb.mono (by simp))⟩
theorem hash2 (mark : Int) (hmk : 0 ≤ mark ∧ mark < 256) (a b : Nat) (ha : a < 4294967296) (hb : b < 4294967296) (mv : Value) (m : List Int) (w : World) (hm : RdB w mv m) (hmb : Bytes m) (hml : m.length ≤ 9991) (hgl : GlobW w) :
    Calls Tryz.prog 81 #[.int .u8 mark, mv, .slice (some ⟨w.heap.size, 0, none⟩) 2 2] (w.alloc (.cells #[.int .u32 (a : Int), .int .u32 (b : Int)] 31)) fun e w' => e = .returned (.int .u64 (hN mark [(a : Int), (b : Int)] m : Int)) ∧ Below w.heap.size w w' := by
  have hB : Below w.heap.size w (w.alloc (.cells #[.int .u32 (a : Int), .int .u32 (b : Int)] 31)) := (Below.refl _ _).alloc (Nat.le_refl _) _
  obtain ⟨Tg, Tf, h1, h2⟩ := hgl.mono hB
  rw [← hN_eq]
  exact (hash_any (Tg := Tg) (Tf := Tf) mark [(a : Int), (b : Int)] m w.heap.size _ mv _ (hm.mono hB) hmb hml hmk (by simp) (all32_2 a b ha hb) (heap_alloc_new w _) h1 h2).mono fun e w' ⟨he, hb⟩ => ⟨he, hB.trans (hb.mono (by simp))⟩
theorem ret_pair {a b c : Int} (h : a = b) : Ending.returned (.tuple #[.int .u32 a, .int .i64 c]) = .returned (.tuple #[.int .u32 b, .int .i64 c]) := by rw [h]
theorem check_ok (a : Nat) (h : 1 ≤ a ∧ a < 500000003) (w : World) : Calls Tryz.prog 72 #[.int .u32 (a : Int)] w fun e w' => e = .returned (.int .i64 0) ∧ w' = w := by
  have := check_any a w; rw [if_pos h] at this; exact this
theorem public_ok (a : Nat) (h : 1 ≤ a ∧ a < 500000003) (w : World) : Calls Tryz.prog 39 #[.int .u32 (a : Int)] w fun e w' => e = .returned (.tuple #[.int .u32 (grp.pw 4 a : Int), .int .i64 0]) ∧ Below w.heap.size w w' := by
  have hc := Lib.hid (check_ok a h); have hp := Lib.hid (grp.base_any a (by omega))
  have h0 : 1 ≤ a := h.1; have h1 : a < 4294967296 := by omega
  clear h
  go_enter Tryz.func39, Tryz.ntmps39
  go_wp2_with (first | (go_at_call 72; refine (hc.out _).mono ?_; rintro e w' ⟨rfl, rfl⟩) | (go_at_call 52; refine (hp.out _).mono ?_; rintro e w' ⟨rfl, g1⟩; have g1' := Lib.hid g1; clear g1))
  go_ret2
  exact ⟨rfl, g1'.out⟩
theorem nonce_ok (a : Nat) (h : 1 ≤ a ∧ a < 500000003) (mv : Value) (m : List Int) (w : World) (hm : RdB w mv m) (hmb : Bytes m) (hml : m.length ≤ 9991) (hgl : GlobW w) :
    Calls Tryz.prog 50 #[.int .u32 (a : Int), mv] w fun e w' => e = .returned (.tuple #[.int .u32 (nonceN a m : Int), .int .i64 0]) ∧ Below w.heap.size w w' := by
  obtain ⟨ma, mc, rfl⟩ := hm.slice
  have hc := Lib.hid (check_ok a h)
  have hl0 := tooLong_any ma m.length mc
  rw [decide_eq_false (by omega)] at hl0
  have hl := Lib.hid hl0
  have hh := Lib.hid (hash1 110 (by decide) a (by omega) _ m w hm hmb hml hgl)
  unfold nonceN
  clear h hl0 hm hmb hml hgl
  generalize hN 110 [(a : Int)] m = H at *
  generalize m.length = n at *
  go_enter Tryz.func50, Tryz.ntmps50
  go_wp2_with (first | (go_at_call 72; refine (hc.out _).mono ?_; rintro e w' ⟨rfl, rfl⟩) | (go_at_call 76; refine (hl.out _).mono ?_; rintro e w' ⟨rfl, rfl⟩) | (go_at_call 81; refine (hh.out).mono ?_; rintro e w' ⟨rfl, g1⟩; have g1' := Lib.hid g1; clear g1))
  go_ret2
  exact ⟨ret_pair (by omega), g1'.out⟩
theorem chal_ok (r y : Nat) (hr : r < 4294967296) (hy : y < 4294967296) (mv : Value) (m : List Int) (w : World) (hm : RdB w mv m) (hmb : Bytes m) (hml : m.length ≤ 9991) (hgl : GlobW w) :
    Calls Tryz.prog 51 #[.int .u32 (r : Int), .int .u32 (y : Int), mv] w fun e w' => e = .returned (.tuple #[.int .u32 (chalN r y m : Int), .int .i64 0]) ∧ Below w.heap.size w w' := by
  obtain ⟨ma, mc, rfl⟩ := hm.slice
  have hl0 := tooLong_any ma m.length mc
  rw [decide_eq_false (by omega)] at hl0
  have hl := Lib.hid hl0
  have hh := Lib.hid (hash2 99 (by decide) r y hr hy _ m w hm hmb hml hgl)
  unfold chalN
  clear hr hy hl0 hm hmb hml hgl
  generalize hN 99 [(r : Int), (y : Int)] m = H at *
  generalize m.length = n at *
  go_enter Tryz.func51, Tryz.ntmps51
  go_wp2_with (first | (go_at_call 76; refine (hl.out _).mono ?_; rintro e w' ⟨rfl, rfl⟩) | (go_at_call 81; refine (hh.out).mono ?_; rintro e w' ⟨rfl, g1⟩; have g1' := Lib.hid g1; clear g1))
  go_ret2
  exact ⟨ret_pair (by omega), g1'.out⟩
end Go.Proofs.YtfaojjleapenaabGreatDoor
namespace Go.Proofs.YtfaojjleapenaabGreatDoor
open Go.RowKit Go.YtfaojjleapenaabGreatDoor
set_option linter.unusedVariables false
/-- The world 'wi' has what 'w' had, and a row of its own. -/
def Row1 (w wi : World) (cs : Array Value) (T : TypeId) : Prop := Below w.heap.size w wi ∧ wi.heap[w.heap.size]? = some (.cells cs T (0, 0))
theorem Row1.start (w : World) (cs : Array Value) (T : TypeId) : Row1 w (w.alloc (.cells cs T)) cs T := ⟨(Below.refl _ _).alloc (Nat.le_refl _) _, heap_alloc_new w _⟩
theorem Row1.step {w wi wj : World} {cs : Array Value} {T : TypeId} (h : Row1 w wi cs T) (hb : Below wi.heap.size wi wj) : Row1 w wj cs T :=
  ⟨h.1.trans (hb.mono h.1.size), (hb.block _ (Array.getElem?_eq_some_iff.1 h.2).1).trans h.2⟩
theorem Row1.set {w wi : World} {cs : Array Value} {T : TypeId} (h : Row1 w wi cs T) (ds : Array Value) : Row1 w (wi.setRow w.heap.size ds) ds T :=
  ⟨below_setRow' (g := w.heap.size) h.1 (Nat.le_refl _) _, setRow_heap _ _ _ _ _ _ h.2⟩
def eN (a : Nat) (m : List Int) : Nat := chalN (grp.pw 4 (nonceN a m)) (grp.pw 4 a) m
def sN (a : Nat) (m : List Int) : Nat := (nonceN a m + eN a m * a % 500000003) % 500000003
theorem nonceN_lt (a : Nat) (m : List Int) : 1 ≤ nonceN a m ∧ nonceN a m < 500000003 := by unfold nonceN; omega
theorem chalN_lt (r y : Nat) (m : List Int) : chalN r y m < 500000003 := Nat.mod_lt _ (by decide)
theorem pw_u32 (a n : Nat) : grp.pw a n < 4294967296 := grp.GP_u32 (grp.pw_lt a n)
theorem two_one (a b : Int) : (#[Value.int .u32 a, Value.int .u32 b] : Array Value).all (·.oneCell') = true := u32s_one [a, b]
theorem sig_info : (Tryz.prog.info? 39).map (·.size) = some 2 := by kernel_rfl
set_option maxHeartbeats 1000000 in
theorem sign_ok (a : Nat) (h : 1 ≤ a ∧ a < 500000003) (mv : Value) (m : List Int) (w : World) (hm : RdB w mv m) (hmb : Bytes m) (hml : m.length ≤ 9991) (hgl : GlobW w) :
    Calls Tryz.prog 40 #[.int .u32 (a : Int), mv] w fun e w' => e = .returned (.tuple #[.agg #[.int .u32 (eN a m : Int), .int .u32 (sN a m : Int)], .int .i64 0]) ∧ Below w.heap.size w w' := by
  obtain ⟨ma, mc, rfl⟩ := hm.slice
  unfold sN
  have hk := nonceN_lt a m
  have hN := Lib.hid (fun wi (o : Row1 w wi #[.int .u32 0, .int .u32 0] 39) => nonce_ok a h _ m wi (hm.mono o.1) hmb hml (hgl.mono o.1))
  have hC := Lib.hid (fun wi (o : Row1 w wi #[.int .u32 0, .int .u32 0] 39) => chal_ok (grp.pw 4 (nonceN a m)) (grp.pw 4 a) (pw_u32 _ _) (pw_u32 _ _) _ m wi (hm.mono o.1) hmb hml (hgl.mono o.1))
  have hE : chalN (grp.pw 4 (nonceN a m)) (grp.pw 4 a) m = eN a m := rfl
  rw [hE] at hC
  have he := chalN_lt (grp.pw 4 (nonceN a m)) (grp.pw 4 a) m
  rw [hE] at he
  clear hE
  generalize eN a m = E at *
  generalize nonceN a m = K at *
  have hK := Lib.hid (grp.base_any K (by omega)); have hA := Lib.hid (grp.base_any a (by omega))
  generalize grp.pw 4 K = R at *
  generalize grp.pw 4 a = Y at *
  have hT := Lib.hid (grp.times_ok E a he h.2)
  have hP := Lib.hid (grp.plus_ok K (E * a % 500000003) hk.2 (Nat.mod_lt _ (by decide)))
  generalize E * a % 500000003 = P at *
  generalize (K + P) % 500000003 = S at *
  have hR := Lib.hid (Row1.start w #[.int .u32 0, .int .u32 0] 39)
  generalize m.length = n at *
  have ha := h.1; have hk1 := hk.1; have hk2 := hk.2
  have ha2 := h.2
  clear hm hmb hgl h hk
  go_enter Tryz.func40, Tryz.ntmps40
  go_wp2_with (first | (go_at_call 50; refine (hN.out _ hR.out).mono ?_; rintro e w' ⟨rfl, g⟩; have hR := Lib.hid (hR.out.step g); clear g) | (go_at_call 52; (first | (with_reducible refine (hK.out _).mono ?_) | (with_reducible refine (hA.out _).mono ?_)); rintro e w' ⟨rfl, g⟩; have hR := Lib.hid (hR.out.step g); clear g) | (go_at_call 51; refine (hC.out _ hR.out).mono ?_; rintro e w' ⟨rfl, g⟩; have hR := Lib.hid (hR.out.step g); clear g) | (go_at_call 53; refine (hT.out _).mono ?_; rintro e w' ⟨rfl, g⟩; have hR := Lib.hid (hR.out.step g); clear g) | (go_at_call 54; refine (hP.out _).mono ?_; rintro e w' ⟨rfl, g⟩; have hR := Lib.hid (hR.out.step g); clear g) | (refine wpList_store_row rfl 39 _ _ rfl w.heap.size #[.int .u32 (E : Int), .int .u32 (S : Int)] rfl rfl 39 _ hR.out.2 sig_info rfl (two_one _ _) ?_; have hR := Lib.hid (hR.out.set #[.int .u32 (E : Int), .int .u32 (S : Int)])))
  try simp only [Exit.inBlock, Exit.then]
  exact bodyPost_ret (results_row_tmp rfl _ _ w.heap.size 39 _ _ _ rfl hR.out.2 Tryz.underlying39 rfl sig_info) rfl ⟨rfl, hR.out.1⟩
end Go.Proofs.YtfaojjleapenaabGreatDoor
namespace Go.Proofs.YtfaojjleapenaabGreatDoor
open Go.RowKit Go.YtfaojjleapenaabGreatDoor
set_option linter.unusedVariables false
/-- The number that S and E give for a public key. -/
def rN (y S E : Nat) : Nat := grp.pw 4 S * grp.pw (grp.pw y E) 500000002 % grp.GP
def rightB (y : Nat) (m : List Int) (S E : Nat) : Bool := decide (E < 500000003) && (decide (S < 500000003) && decide (chalN (rN y S E) y m = E))
theorem dec_eq (a b : Nat) : ((a : Int) == (b : Int)) = decide (a = b) := by
  rw [Bool.eq_iff_iff, beq_iff_eq, decide_eq_true_iff]; omega
theorem dec_eq' (a b : Nat) : decide ((a : Int) = (b : Int)) = decide (a = b) := decide_eq_decide.2 (by omega)
set_option maxHeartbeats 1000000 in
theorem right_any (y : Nat) (hy : grp.inG y = true) (S E : Nat) (hS : S < 4294967296) (hE : E < 4294967296) (mv : Value) (m : List Int) (w : World) (hm : RdB w mv m) (hmb : Bytes m) (hml : m.length ≤ 9991) (hgl : GlobW w) :
    Calls Tryz.prog 77 #[.int .u32 (y : Int), mv, .agg #[.int .u32 (E : Int), .int .u32 (S : Int)]] w fun e w' => e = .returned (.bool (rightB y m S E)) ∧ Below w.heap.size w w' := by
  by_cases h1 : E < 500000003
  · by_cases h2 : S < 500000003
    · have hr : rightB y m S E = decide (chalN (rN y S E) y m = E) := by simp [rightB, h1, h2]
      rw [hr]
      obtain ⟨ma, mc, rfl⟩ := hm.slice
      have hPo := Lib.hid (grp.pow_ok y E hy (by omega))
      have gP := grp.inG_pw y E hy
      have hC := Lib.hid (fun wi (o : Row1 w wi #[.int .u32 (E : Int), .int .u32 (S : Int)] 39) => chal_ok (rN y S E) y (grp.GP_u32 (Nat.mod_lt _ grp.GP_pos)) (grp.inG_u32 hy) _ m wi (hm.mono o.1) hmb hml (hgl.mono o.1))
      unfold rN at hC ⊢
      generalize grp.pw y E = P at *
      have hIn := Lib.hid (grp.inv_ok P gP)
      have gI := grp.inG_pw P 500000002 gP
      generalize grp.pw P 500000002 = I at *
      have hBa := Lib.hid (grp.base_any S (by omega))
      have gB := grp.inG_pw 4 S grp.in4
      generalize grp.pw 4 S = B at *
      have hMu := Lib.hid (grp.mul_ok B I gB gI)
      generalize B * I % grp.GP = R at *
      generalize chalN R y m = C at *
      have hR := Lib.hid (Row1.start w #[.int .u32 (E : Int), .int .u32 (S : Int)] 39)
      have hc0 : ∀ wi, Row1 w wi #[.int .u32 (E : Int), .int .u32 (S : Int)] 39 → wi.cell? ⟨w.heap.size, 0, none⟩ = some (.int .u32 (E : Int)) ∧ wi.cell? ⟨w.heap.size, 1, none⟩ = some (.int .u32 (S : Int)) := fun wi o => ⟨cell_of_row _ _ _ _ _ _ o.2, cell_of_row _ _ _ _ _ _ o.2⟩
      have hc := Lib.hid hc0
      have d1 : ¬ (500000003 : Int) ≤ (E : Int) := by omega
      have d2 : ¬ (500000003 : Int) ≤ (S : Int) := by omega
      generalize m.length = n at *
      clear hm hmb hgl hy gP gI gB hr hc0
      go_enter Tryz.func77, Tryz.ntmps77
      generalize hq : (500000003 : Int) = q at d1 d2 ⊢
      clear hq
      go_wp2_with (first | (go_at_call 101; refine (hPo.out _).mono ?_; rintro e w' ⟨rfl, g⟩; have hR := Lib.hid (hR.out.step g); clear g; obtain ⟨k0, k1⟩ := hc.out _ hR.out) | (go_at_call 102; refine (hIn.out _).mono ?_; rintro e w' ⟨rfl, g⟩; have hR := Lib.hid (hR.out.step g); clear g; obtain ⟨k0, k1⟩ := hc.out _ hR.out) | (go_at_call 52; refine (hBa.out _).mono ?_; rintro e w' ⟨rfl, g⟩; have hR := Lib.hid (hR.out.step g); clear g; obtain ⟨k0, k1⟩ := hc.out _ hR.out) | (go_at_call 103; refine (hMu.out _).mono ?_; rintro e w' ⟨rfl, g⟩; have hR := Lib.hid (hR.out.step g); clear g; obtain ⟨k0, k1⟩ := hc.out _ hR.out) | (go_at_call 51; refine (hC.out _ hR.out).mono ?_; rintro e w' ⟨rfl, g⟩; have hR := Lib.hid (hR.out.step g); clear g; obtain ⟨k0, k1⟩ := hc.out _ hR.out))
      go_ret
      first | exact ⟨ret_bool (dec_eq C E), hR.out.1⟩ | exact ⟨ret_bool (dec_eq' C E), hR.out.1⟩
    · have hr : rightB y m S E = false := by simp [rightB, h2]
      rw [hr]
      obtain ⟨ma, mc, rfl⟩ := hm.slice
      have hR := Lib.hid (Row1.start w #[.int .u32 (E : Int), .int .u32 (S : Int)] 39)
      have d1 : ¬ (500000003 : Int) ≤ (E : Int) := by omega
      have d2 : (500000003 : Int) ≤ (S : Int) := by omega
      clear hm hmb hgl hy hr
      go_enter Tryz.func77, Tryz.ntmps77
      generalize hq : (500000003 : Int) = q at d1 d2 ⊢
      clear hq
      go_wp2
      go_ret
      exact ⟨rfl, hR.out.1⟩
  · have hr : rightB y m S E = false := by simp [rightB, h1]
    rw [hr]
    obtain ⟨ma, mc, rfl⟩ := hm.slice
    have hR := Lib.hid (Row1.start w #[.int .u32 (E : Int), .int .u32 (S : Int)] 39)
    have d1 : (500000003 : Int) ≤ (E : Int) := by omega
    clear hm hmb hgl hy hr
    go_enter Tryz.func77, Tryz.ntmps77
    generalize hq : (500000003 : Int) = q at d1 ⊢
    clear hq
    go_wp2
    go_ret
    exact ⟨rfl, hR.out.1⟩
theorem verify_any (y : Nat) (hy : grp.inG y = true) (S E : Nat) (hS : S < 4294967296) (hE : E < 4294967296) (mv : Value) (m : List Int) (w : World) (hm : RdB w mv m) (hmb : Bytes m) (hml : m.length ≤ 9991) (hgl : GlobW w) :
    Calls Tryz.prog 45 #[.int .u32 (y : Int), mv, .agg #[.int .u32 (E : Int), .int .u32 (S : Int)]] w fun e w' => e = .returned (.int .i64 (if rightB y m S E then 0 else 22)) ∧ Below w.heap.size w w' := by
  have hI0 := grp.is_any y (grp.inG_u32 hy)
  rw [hy] at hI0
  have hI := Lib.hid hI0
  obtain ⟨ma, mc, rfl⟩ := hm.slice
  have hl0 := tooLong_any ma m.length mc
  rw [decide_eq_false (by omega)] at hl0
  have hl := Lib.hid hl0
  have hR := Lib.hid (Row1.start w #[.int .u32 (E : Int), .int .u32 (S : Int)] 39)
  have hV := Lib.hid (fun wi (o : Row1 w wi #[.int .u32 (E : Int), .int .u32 (S : Int)] 39) => right_any y hy S E hS hE _ m wi (hm.mono o.1) hmb hml (hgl.mono o.1))
  generalize rightB y m S E = b at *
  generalize m.length = n at *
  clear hI0 hy hl0 hm hmb hgl hS hE
  cases b
  · go_enter Tryz.func45, Tryz.ntmps45
    go_wp2_with (first | (go_at_call 43; refine (hI.out _).mono ?_; rintro e w' ⟨rfl, g⟩; have hR := Lib.hid (hR.out.step g); clear g) | (go_at_call 76; refine (hl.out _).mono ?_; rintro e w' ⟨rfl, rfl⟩) | (refine wpList_load_row rfl 39 _ rfl w.heap.size rfl 39 _ (0, 0) _ hR.out.2 Tryz.underlying39 rfl sig_info ?_) | (go_at_call 77; refine (hV.out _ hR.out).mono ?_; rintro e w' ⟨rfl, g⟩; have hR := Lib.hid (hR.out.step g); clear g))
    go_ret
    exact ⟨rfl, hR.out.1⟩
  · go_enter Tryz.func45, Tryz.ntmps45
    go_wp2_with (first | (go_at_call 43; refine (hI.out _).mono ?_; rintro e w' ⟨rfl, g⟩; have hR := Lib.hid (hR.out.step g); clear g) | (go_at_call 76; refine (hl.out _).mono ?_; rintro e w' ⟨rfl, rfl⟩) | (refine wpList_load_row rfl 39 _ rfl w.heap.size rfl 39 _ (0, 0) _ hR.out.2 Tryz.underlying39 rfl sig_info ?_) | (go_at_call 77; refine (hV.out _ hR.out).mono ?_; rintro e w' ⟨rfl, g⟩; have hR := Lib.hid (hR.out.step g); clear g))
    go_ret
    exact ⟨rfl, hR.out.1⟩
end Go.Proofs.YtfaojjleapenaabGreatDoor
namespace Go.Proofs.YtfaojjleapenaabGreatDoor
open Go.RowKit Go.YtfaojjleapenaabGreatDoor
set_option linter.unusedVariables false
namespace grp
theorem signed_made (a K E : Nat) : pw 4 ((K + E * a % 500000003) % 500000003) = pw 4 K * pw (pw 4 a) E % GP := by
  have h4 := ((inG_iff 4).1 in4).2.2
  rw [← pw_rem 4 h4, pw_add, ← pw_rem 4 h4 (E * a), Nat.mul_comm E a, pw_mul]
theorem signed_r (a K E : Nat) : pw 4 ((K + E * a % 500000003) % 500000003) * pw (pw (pw 4 a) E) 500000002 % GP = pw 4 K := by
  have hX := inG_pw (pw 4 a) E (inG_pw 4 a in4)
  have hi := inv_mul _ hX
  have hK := pw_lt 4 K
  rw [signed_made]
  generalize pw (pw 4 a) E = X at *
  generalize pw X 500000002 = I at *
  generalize pw 4 K = k at *
  rw [Nat.mod_mul_mod, Nat.mul_assoc, ← Nat.mul_mod_mod, hi, Nat.mul_one, Nat.mod_eq_of_lt hK]
end grp
theorem signed_right (a : Nat) (m : List Int) : rightB (grp.pw 4 a) m (sN a m) (eN a m) = true := by
  have h1 : eN a m < 500000003 := chalN_lt _ _ _
  have h2 : sN a m < 500000003 := Nat.mod_lt _ (by decide)
  have h3 : rN (grp.pw 4 a) (sN a m) (eN a m) = grp.pw 4 (nonceN a m) := grp.signed_r a (nonceN a m) (eN a m)
  simp only [rightB, h1, h2, h3, decide_true, Bool.true_and]
  exact decide_eq_true rfl
def msg : List Int := [109, 101, 115, 115, 97, 103, 101]
/-- What a world has: a row at a place. -/
def Has (w : World) (g : Nat) (cs : Array Value) (T : TypeId) : Prop := w.heap[g]? = some (.cells cs T (0, 0))
theorem Has.lt {w : World} {g : Nat} {cs : Array Value} {T : TypeId} (h : Has w g cs T) : g < w.heap.size := (Array.getElem?_eq_some_iff.1 h).1
theorem Has.step {w w' : World} {g : Nat} {cs : Array Value} {T : TypeId} (h : Has w g cs T) (hb : Below w.heap.size w w') : Has w' g cs T := (hb.block _ h.lt).trans h
def Live (w wz : World) (mv : Value) (g : Nat) (cs : Array Value) : Prop := Below w.heap.size w wz ∧ GlobW wz ∧ RdB wz mv msg ∧ Has wz g cs 39
theorem Live.gl {w wz : World} {mv : Value} {g : Nat} {cs : Array Value} (h : Live w wz mv g cs) : GlobW wz := h.2.1
theorem Live.rd {w wz : World} {mv : Value} {g : Nat} {cs : Array Value} (h : Live w wz mv g cs) : RdB wz mv msg := h.2.2.1
theorem Live.step {w wz wy : World} {mv : Value} {g : Nat} {cs : Array Value} (h : Live w wz mv g cs) (hb : Below wz.heap.size wz wy) : Live w wy mv g cs :=
  ⟨h.1.trans (hb.mono h.1.size), h.2.1.mono hb, h.2.2.1.mono hb, h.2.2.2.step hb⟩
theorem eN_lt (a : Nat) (m : List Int) : eN a m < 500000003 := chalN_lt _ _ _
theorem sN_lt (a : Nat) (m : List Int) : sN a m < 500000003 := Nat.mod_lt _ (by decide)
end Go.Proofs.YtfaojjleapenaabGreatDoor
namespace Go.Proofs.YtfaojjleapenaabGreatDoor.wir.val
open Go.RowKit Go.YtfaojjleapenaabGreatDoor
set_option linter.unusedVariables false
theorem ownI_any (w : World) (B : Nat) : OwnI B 43 w (.slice none 0 0) 0 [] := OwnI.nil w B _
set_option maxHeartbeats 4000000 in
set_option maxRecDepth 100000 in
theorem copied_any (o : Od) (hn : o.n ≤ 20) (hk : o.key.size ≤ 1000000) (hv : o.v.s.size ≤ 1000000) (pv : Value) (w : World) (hp : RdI w pv o.n o.F) :
    Calls Tryz.prog 41 #[.agg (o.c pv)] w fun e w' => ∃ qv, e = .returned (.agg (o.c qv)) ∧ OwnI w.heap.size 43 w' qv o.n o.F ∧ Below w.heap.size w w' := by
  obtain ⟨W, hW⟩ : ∃ W, W = (w.alloc (.cells (o.c pv) 41)).alloc (.cells (zO.c (.slice none 0 0)) 41) := ⟨_, rfl⟩
  have hr0 : W.heap[w.heap.size]? = some (.cells (o.c pv) 41 (0, 0)) := by rw [hW]; exact rowB (heap_alloc_new w _) (below_a _ _) (by simp)
  have hr1 : W.heap[w.heap.size + 1]? = some (.cells (zO.c (.slice none 0 0)) 41 (0, 0)) := by rw [hW]; exact hn2 w _ _
  have hb0 : Below w.heap.size w W := by rw [hW]; exact ((Below.refl w.heap.size w).alloc (Nat.le_refl _) _).alloc (by simp) _
  obtain ⟨pa, pc, rfl⟩ := hp.slice
  have hb1 := Lib.hid hb0
  have hrow := Lib.hid hr0
  have hres := Lib.hid hr1
  have hlt := Lib.hid (Array.getElem?_eq_some_iff.1 hr0).1
  have hlt1 := Lib.hid (Array.getElem?_eq_some_iff.1 hr1).1
  have hp1 := Lib.hid (hp.mono hb0)
  have hc1 : W.cell? ⟨w.heap.size, 1, none⟩ = some (.slice pa o.n pc) := by rw [cell_of_row _ _ _ _ _ _ hr0]; rfl
  have hcl1 := Lib.hid (fun wz => clone_any o.key hk wz)
  have hcl2 := Lib.hid (fun wz => clone_any o.v.s hv wz)
  clear hr0 hr1 hb0 hp
  go_enter Tryz.func41, Tryz.ntmps41
  go_upto_region 1 with fail
  change Code.wp _ _ _ _ ((w.alloc (.cells (o.c (.slice pa o.n pc)) 41)).alloc (.cells (zO.c (.slice none 0 0)) 41))
  rw [← hW]
  clear hW
  go_wp2_with (refine appendIs rfl _ _ 32 rfl W.heap.size 43 Tryz.underlying32 (by kernel_rfl) _ rfl 0 [] (ownI_any W _) _ rfl o.n o.F hp1.out (by omega) (Nat.le_refl _) ?_)
  intro v2 w2 h1 h2
  have hB2 := Lib.hid ((ownI_any W W.heap.size).below h2 (Nat.le_refl _))
  have hq0 := Lib.hid (show OwnI W.heap.size 43 w2 v2 o.n o.F by simpa using h1)
  obtain ⟨qa, qc, rfl⟩ := hq0.out.rd.slice
  have hr2 := Lib.hid (rowB hrow.out hB2.out hlt.out)
  have hs2 := Lib.hid (rowB hres.out hB2.out hlt1.out)
  have f1 := frozen_of_row w2 w.heap.size 1 _ _ hr2.out
  have k1 : w2.cell? ⟨w.heap.size, 1, none⟩ = some (.slice pa o.n pc) := by rw [cell_of_row _ _ _ _ _ _ hr2.out]; rfl
  have hset := Lib.hid (show w2.setCell ⟨w.heap.size, 1, none⟩ (.slice qa o.n qc) = w2.setRow w.heap.size (o.c (.slice qa o.n qc)) from setCell_eq hr2.out 1 (.slice qa o.n qc))
  clear h1 h2
  refine Stop.go ?_
  go_upto_region 2 with fail
  rw [hset.out]
  have hr3 := Lib.hid (setRow_heap w2 w.heap.size _ (o.c (.slice qa o.n qc)) _ _ hr2.out)
  have hs3 := Lib.hid ((setRow_other w2 w.heap.size (w.heap.size + 1) (o.c (.slice qa o.n qc)) (by omega)).trans hs2.out)
  have hB3 := Lib.hid (show Below w.heap.size w (w2.setRow w.heap.size (o.c (.slice qa o.n qc))) from below_setRow' (hb1.out.trans (hB2.out.mono hb1.out.size)) (Nat.le_refl _) _)
  have hq := Lib.hid (ownI_setRow hq0.out hlt.out (o.c (.slice qa o.n qc)))
  clear hset hq0 f1 k1 hr2 hs2 hB2 hc1 hp1 hrow hres
  generalize w2.setRow w.heap.size (o.c (.slice qa o.n qc)) = w3 at *
  have c4 : w3.cell? ⟨w.heap.size, 4, none⟩ = some (.string o.key) := by rw [cell_of_row _ _ _ _ _ _ hr3.out]; rfl
  go_upto_region 3 with (go_at_call 73; (with_reducible refine (hcl1.out _).mono ?_); rintro e w4 ⟨rfl, q2⟩; replace hr3 := Lib.hid (rowB hr3.out q2 (Array.getElem?_eq_some_iff.1 hr3.out).1); replace hs3 := Lib.hid (rowB hs3.out q2 (Array.getElem?_eq_some_iff.1 hs3.out).1); replace hq := Lib.hid (hq.out.kept q2); replace hB3 := Lib.hid (hB3.out.trans (Below.mono q2 hB3.out.size)); have hsame := Lib.hid (show w4.setCell ⟨w.heap.size, 4, none⟩ (.string o.key) = w4 from (setCell_eq hr3.out 4 (.string o.key)).trans (setRow_self w4 w.heap.size (o.c (.slice qa o.n qc)) _ _ hr3.out)); have f1 := frozen_of_row w4 w.heap.size 4 _ _ hr3.out; have k1 := (cell_of_row w4 w.heap.size 4 _ _ _ hr3.out); clear q2)
  rw [hsame.out]
  clear c4 hsame f1 k1
  have c8 : w4.cell? ⟨w.heap.size, 8, none⟩ = some (.string o.v.s) := by rw [cell_of_row _ _ _ _ _ _ hr3.out]; rfl
  go_upto_region 4 with (go_at_call 73; (with_reducible refine (hcl2.out _).mono ?_); rintro e w4 ⟨rfl, q2⟩; replace hr3 := Lib.hid (rowB hr3.out q2 (Array.getElem?_eq_some_iff.1 hr3.out).1); replace hs3 := Lib.hid (rowB hs3.out q2 (Array.getElem?_eq_some_iff.1 hs3.out).1); replace hq := Lib.hid (hq.out.kept q2); replace hB3 := Lib.hid (hB3.out.trans (Below.mono q2 hB3.out.size)); have hsame := Lib.hid (show w4.setCell ⟨w.heap.size, 8, none⟩ (.string o.v.s) = w4 from (setCell_eq hr3.out 8 (.string o.v.s)).trans (setRow_self w4 w.heap.size (o.c (.slice qa o.n qc)) _ _ hr3.out)); have f1 := frozen_of_row w4 w.heap.size 8 _ _ hr3.out; have k1 := (cell_of_row w4 w.heap.size 8 _ _ _ hr3.out); clear q2)
  rw [hsame.out]
  clear c8 hsame f1 k1
  go_wp2_with (first
    | (refine wpList_load_row_g rfl 41 _ rfl w.heap.size rfl 41 (o.c (.slice qa o.n qc)) (0, 0) _ hr3.out Tryz.underlying41 rfl info_op ?_)
    | (refine wpList_store_row rfl 41 _ _ rfl (w.heap.size + 1) (o.c (.slice qa o.n qc)) rfl rfl 41 _ hs3.out info_op rfl (op_one _ _ _ _) ?_))
  exact bodyPost_ret (results_cell_row rfl _ _ (w.heap.size + 1) 41 _ _ _ rfl (setRow_heap _ _ _ _ _ _ hs3.out) Tryz.underlying41 rfl info_op) rfl ⟨_, rfl, (ownI_setRow hq.out hlt1.out _).mono hb1.out.size, below_setRow' hB3.out (by omega) _⟩
/-- What Verify answers. -/
def verO (o : Od) : Int := if chkO o = 0 then (if rightB o.au (msgB o) o.s o.e then 0 else 22) else chkO o
theorem chk_in {o : Od} (h : chkO o = 0) : grp.inG o.au = true := by
  unfold chkO at h
  by_cases h1 : 4 < o.n
  · rw [if_pos h1] at h; omega
  · rw [if_neg h1] at h
    by_cases h2 : riseF o.F o.n = true
    · rw [if_pos h2] at h
      by_cases h3 : okO o = true
      · unfold okO at h3
        simp only [Bool.and_eq_true] at h3
        exact h3.1
      · rw [if_neg h3] at h; omega
    · rw [if_neg h2] at h; omega
set_option maxHeartbeats 4000000 in
set_option maxRecDepth 100000 in
theorem opVerify_any (o : Od) (fo : o.Fit) (pv : Value) (w : World) (hp : RdI w pv o.n o.F) (hG : GlobW w) :
    Calls Tryz.prog 22 #[.agg (o.c pv)] w fun e w' => e = .returned (.int .i64 (verO o)) ∧ Below w.heap.size w w' := by
  obtain ⟨W, hW⟩ : ∃ W, W = w.alloc (.cells (o.c pv) 41) := ⟨_, rfl⟩
  have hr0 := heap_alloc_new w (.cells (o.c pv) 41)
  have hb0 := (Below.refl w.heap.size w).alloc (Nat.le_refl _) (.cells (o.c pv) 41)
  rw [← hW] at hr0 hb0
  have hlF := hp.len
  obtain ⟨pa, pc, rfl⟩ := hp.slice
  have hb1 := Lib.hid hb0
  have hlt := (Array.getElem?_eq_some_iff.1 hr0).1
  have hrows := Lib.hid (fun (wz : World) (h : Below W.heap.size W wz) => rowB hr0 h hlt)
  have hS := Lib.hid (fun (wz : World) (h : Below W.heap.size W wz) => cellsO (rowB hr0 h hlt))
  have hK := Lib.hid (fun (wz : World) (hb : Below W.heap.size W wz) => opCheck_any o fo (.slice pa o.n pc) wz ((hp.mono hb0).mono hb))
  by_cases h0 : chkO o = 0
  · have e := Lib.hid (show verO o = if rightB o.au (msgB o) o.s o.e then 0 else 22 by unfold verO; rw [if_pos h0])
    rw [h0] at hK
    have z := chk_zero h0
    have hM := Lib.hid (fun (wz : World) (hb : Below W.heap.size W wz) => message_any o fo z.1 z.2.1 z.2.2 (.slice pa o.n pc) wz ((hp.mono hb0).mono hb))
    have hV := Lib.hid (fun (wz : World) (v : Value) (hb : Below W.heap.size W wz) (hv : RdB wz v (msgB o)) => verify_any o.au (chk_in h0) o.s o.e fo.s fo.e v (msgB o) wz hv (msgB_bytes o fo z.1 z.2.2) (Nat.le_trans (msgB_short o fo z.1 hlF z.2.2) (by decide)) ((hG.mono hb0).mono hb))
    rw [e.out]
    generalize (if rightB o.au (msgB o) o.s o.e then (0 : Int) else 22) = R at *
    clear e hr0 hb0 hp fo h0 z hG hlF
    go_enter Tryz.func22, Tryz.ntmps22
    go_upto_region 1 with fail
    rw [← hW]
    clear hW
    have hB := Lib.hid (Below.refl W.heap.size W)
    go_upto_region 4 with (first | (refine wpList_load_row_g rfl 41 _ rfl w.heap.size rfl 41 (o.c (.slice pa o.n pc)) (0, 0) _ (hrows.out _ hB.out) Tryz.underlying41 rfl info_op ?_) | (go_at_call 21; (with_reducible refine (hK.out _ hB.out).mono ?_); rintro e w3 ⟨rfl, h3⟩; replace hB := Lib.hid (hB.out.trans (h3.mono hB.out.size)); clear h3))
    replace hB := Lib.hid (show Below W.heap.size W w3.drew from hB.out.drew)
    have hcc := Lib.hid (show ∀ (wz : World) (h : Below W.heap.size W wz), (fun wz => wz.cell? ⟨w.heap.size, 0, none⟩ = some (.int .u32 (o.au : Int)) ∧ wz.cell? ⟨w.heap.size, 1, none⟩ = some (.slice pa o.n pc) ∧ wz.cell? ⟨w.heap.size, 2, none⟩ = some (.int .u64 (o.st : Int)) ∧ wz.cell? ⟨w.heap.size, 3, none⟩ = some (.int .u8 o.k) ∧ wz.cell? ⟨w.heap.size, 4, none⟩ = some (.string o.key) ∧ wz.cell? ⟨w.heap.size, 5, none⟩ = some (.int .u8 o.v.k) ∧ wz.cell? ⟨w.heap.size, 6, none⟩ = some (.int .i64 o.v.n) ∧ wz.cell? ⟨w.heap.size, 7, none⟩ = some (.int .u64 (o.v.b : Int)) ∧ wz.cell? ⟨w.heap.size, 8, none⟩ = some (.string o.v.s) ∧ wz.cell? ⟨w.heap.size, 9, none⟩ = some (.int .u32 (o.e : Int)) ∧ wz.cell? ⟨w.heap.size, 10, none⟩ = some (.int .u32 (o.s : Int))) wz from fun wz h => cells11 (hrows.out wz h))
    obtain ⟨c0, c1, c2, c3, c4, c5, c6, c7, c8, c9, c10⟩ := hcc.out w3.drew hB.out
    simp only [World.cell?_drew] at c0 c1 c2 c3 c4 c5 c6 c7 c8 c9 c10
    go_region_held3 (fun wz => wz.cell? ⟨w.heap.size, 0, none⟩ = some (.int .u32 (o.au : Int)) ∧ wz.cell? ⟨w.heap.size, 1, none⟩ = some (.slice pa o.n pc) ∧ wz.cell? ⟨w.heap.size, 2, none⟩ = some (.int .u64 (o.st : Int)) ∧ wz.cell? ⟨w.heap.size, 3, none⟩ = some (.int .u8 o.k) ∧ wz.cell? ⟨w.heap.size, 4, none⟩ = some (.string o.key) ∧ wz.cell? ⟨w.heap.size, 5, none⟩ = some (.int .u8 o.v.k) ∧ wz.cell? ⟨w.heap.size, 6, none⟩ = some (.int .i64 o.v.n) ∧ wz.cell? ⟨w.heap.size, 7, none⟩ = some (.int .u64 (o.v.b : Int)) ∧ wz.cell? ⟨w.heap.size, 8, none⟩ = some (.string o.v.s) ∧ wz.cell? ⟨w.heap.size, 9, none⟩ = some (.int .u32 (o.e : Int)) ∧ wz.cell? ⟨w.heap.size, 10, none⟩ = some (.int .u32 (o.s : Int))) (first | (exact hcc.out _ hB.out) | go_keep)
      (first
        | (go_at_call 34; (with_reducible refine (hM.out _ hB.out).mono ?_); rintro e w4 ⟨sv, rfl, q1, q2⟩; replace hB := Lib.hid (hB.out.trans (q2.mono hB.out.size)); have hO := Lib.hid q1.rd; obtain ⟨ma, mc, hz⟩ := hO.out.slice; subst hz; clear q1 q2)
        | (go_at_call 45; (with_reducible refine (hV.out _ _ hB.out hO.out).mono ?_); rintro e w5 ⟨rfl, q2⟩; replace hB := Lib.hid (hB.out.trans (q2.mono hB.out.size)); clear q2))
    all_goals
      clear c0 c1 c2 c3 c4 c5 c6 c7 c8 c9 c10
      go_wp2
      go_ret
      exact ⟨rfl, hb1.out.trans (hB.out.mono hb1.out.size)⟩
  · have e := Lib.hid (show verO o = chkO o by unfold verO; rw [if_neg h0])
    rw [e.out]
    generalize chkO o = E at *
    have hE : (E != 0) = true := by simpa using h0
    clear e hr0 hb0 hp fo h0 hG hlF
    go_enter Tryz.func22, Tryz.ntmps22
    go_upto_region 1 with fail
    rw [← hW]
    clear hW
    have hB := Lib.hid (Below.refl W.heap.size W)
    go_wp2_with (first | (refine wpList_load_row_g rfl 41 _ rfl w.heap.size rfl 41 (o.c (.slice pa o.n pc)) (0, 0) _ (hrows.out _ hB.out) Tryz.underlying41 rfl info_op ?_) | (go_at_call 21; (with_reducible refine (hK.out _ hB.out).mono ?_); rintro e w3 ⟨rfl, h3⟩; replace hB := Lib.hid (hB.out.trans (h3.mono hB.out.size)); clear h3))
    go_ret
    exact ⟨rfl, hb1.out.trans (hB.out.mono hb1.out.size)⟩
end Go.Proofs.YtfaojjleapenaabGreatDoor.wir.val
namespace Go.Proofs.YtfaojjleapenaabGreatDoor.wir.val
open Go.RowKit Go.YtfaojjleapenaabGreatDoor
set_option linter.unusedVariables false
def Od.byA (o : Od) (y : Nat) : Od := { o with au := y }
def Od.sigd (o : Od) (y e s : Nat) : Od := { o with au := y, e := e, s := s }
theorem set_au {w : World} {g : Nat} {o : Od} {pv : Value} (h : w.heap[g]? = some (.cells (o.c pv) 41 (0, 0))) (y : Nat) :
    w.setCell ⟨g, 0, none⟩ (.int .u32 (y : Int)) = w.setRow g ((o.byA y).c pv) := setCell_eq h 0 _
theorem set_es {w : World} {g : Nat} {o : Od} {pv : Value} (y e s : Nat) (h : w.heap[g]? = some (.cells ((o.byA y).c pv) 41 (0, 0))) :
    (w.setCell ⟨g, 9, none⟩ (.int .u32 (e : Int))).setCell ⟨g, 10, none⟩ (.int .u32 (s : Int)) = w.setRow g ((o.sigd y e s).c pv) := set_sig h e s
theorem fit_by {o : Od} (h : o.Fit) (y : Nat) (hy : y < 4294967296) : (o.byA y).Fit := ⟨hy, h.F, h.n, h.st, h.k, h.key, h.v, h.e, h.s⟩
set_option maxHeartbeats 8000000 in
set_option maxRecDepth 100000 in
theorem opSign_ok (a : Nat) (h : 1 ≤ a ∧ a < 500000003) (o : Od) (fo : o.Fit) (pv : Value) (w : World) (hp : RdI w pv o.n o.F) (hG : GlobW w) (h0 : chkO (o.byA (grp.pw 4 a)).bare = 0) :
    Calls Tryz.prog 20 #[.int .u32 (a : Int), .agg (o.c pv)] w fun e w' => ∃ qv, e = .returned (.tuple #[.agg ((o.sigd (grp.pw 4 a) (eN a (msgB (o.byA (grp.pw 4 a)))) (sN a (msgB (o.byA (grp.pw 4 a))))).c qv), .int .i64 0]) ∧ RdI w' qv o.n o.F ∧ Below w.heap.size w w' := by
  obtain ⟨W, hW⟩ : ∃ W, W = (w.alloc (.cells (o.c pv) 41)).alloc (.cells (zO.c (.slice none 0 0)) 41) := ⟨_, rfl⟩
  have hr0 : W.heap[w.heap.size]? = some (.cells (o.c pv) 41 (0, 0)) := by rw [hW]; exact rowB (heap_alloc_new w _) (below_a _ _) (by simp)
  have hr1 : W.heap[w.heap.size + 1]? = some (.cells (zO.c (.slice none 0 0)) 41 (0, 0)) := by rw [hW]; exact hn2 w _ _
  have hb0 : Below w.heap.size w W := by rw [hW]; exact ((Below.refl w.heap.size w).alloc (Nat.le_refl _) _).alloc (by simp) _
  obtain ⟨pa, pc, rfl⟩ := hp.slice
  have hb1 := Lib.hid hb0
  have hrow := Lib.hid hr0
  have hres := Lib.hid hr1
  have hlt := Lib.hid (Array.getElem?_eq_some_iff.1 hr0).1
  have hlt1 := Lib.hid (Array.getElem?_eq_some_iff.1 hr1).1
  have hp1 := Lib.hid (hp.mono hb0)
  have hP := Lib.hid (fun wz => public_ok a h wz)
  have hpw := Lib.hid hp
  have hlF := Lib.hid hp.len
  generalize hy : grp.pw 4 a = y at *
  have hyu : y < 4294967296 := by rw [← hy]; exact pw_u32 4 a
  have hf0 := frozen_of_row W w.heap.size 0 _ _ hr0
  have hc0 : W.cell? ⟨w.heap.size, 0, none⟩ = some (.int .u32 (o.au : Int)) := by rw [cell_of_row _ _ _ _ _ _ hr0]; rfl
  have hM := Lib.hid (fun (wz : World) (hb : Below w.heap.size w wz) => (opMessage_any (o.byA y) (fit_by fo y hyu) (.slice pa o.n pc) wz (hpw.out.mono hb)).mono (fun e w' hq => show ∃ sv, e = .returned (.tuple #[sv, .int .i64 0]) ∧ RdB w' sv (msgB (o.byA y)) ∧ Below wz.heap.size wz w' from by have h1 := hq.1; rw [if_pos h0] at h1; obtain ⟨sv, h2, h3⟩ := h1; exact ⟨sv, h2, h3.rd, hq.2⟩))
  have hSg := Lib.hid (fun (wz : World) (v : Value) (hb : Below w.heap.size w wz) (hv : RdB wz v (msgB (o.byA y))) => sign_ok a h v (msgB (o.byA y)) wz hv (msgB_bytes (o.byA y) (fit_by fo y hyu) (chk_zero h0).1 (chk_zero h0).2.2) (Nat.le_trans (msgB_short (o.byA y) (fit_by fo y hyu) (chk_zero h0).1 hlF.out (chk_zero h0).2.2) (by decide)) (hG.mono hb))
  have hn20 : o.n ≤ 20 := Nat.le_trans (chk_zero h0).1 (by decide)
  have hCp := Lib.hid (fun (e s : Nat) (wz : World) (hb : Below w.heap.size w wz) => copied_any (o.sigd y e s) hn20 fo.key fo.v.s (.slice pa o.n pc) wz (hpw.out.mono hb))
  have hml := Lib.hid (show ∃ N, (msgB (o.byA y)).length = N from ⟨_, rfl⟩)
  generalize eN a (msgB (o.byA y)) = E at *
  generalize sN a (msgB (o.byA y)) = S at *
  generalize msgB (o.byA y) = MB at *
  clear hr0 hr1 hb0 hp fo hG h hy h0 hn20 hlF
  go_enter Tryz.func20, Tryz.ntmps20
  go_upto_region 1 with fail
  change Code.wp _ _ _ _ ((w.alloc (.cells (o.c (.slice pa o.n pc)) 41)).alloc (.cells (zO.c (.slice none 0 0)) 41))
  rw [← hW]
  clear hW
  go_upto_region 4 with (go_at_call 39; (with_reducible refine (hP.out _).mono ?_); rintro e w3 ⟨rfl, q2⟩; have hB := Lib.hid (hb1.out.trans (Below.mono q2 hb1.out.size)); have hr := Lib.hid (rowB hrow.out q2 hlt.out); have hs := Lib.hid (rowB hres.out q2 hlt1.out); clear q2 hc0 hf0)
  have f0 := frozen_of_row w3 w.heap.size 0 _ _ hr.out
  have d0 : w3.cell? ⟨w.heap.size, 0, none⟩ = some (.int .u32 (o.au : Int)) := by rw [cell_of_row _ _ _ _ _ _ hr.out]; rfl
  have hset := Lib.hid (set_au hr.out y)
  go_upto_region 5 with fail
  rw [hset.out]
  clear hset f0 d0
  replace hs := Lib.hid ((setRow_other w3 w.heap.size (w.heap.size + 1) ((o.byA y).c (.slice pa o.n pc)) (by omega)).trans hs.out)
  replace hr := Lib.hid (setRow_heap w3 w.heap.size _ ((o.byA y).c (.slice pa o.n pc)) _ _ hr.out)
  replace hB := Lib.hid (show Below w.heap.size w (w3.setRow w.heap.size ((o.byA y).c (.slice pa o.n pc))) from below_setRow' hB.out (Nat.le_refl _) _)
  generalize w3.setRow w.heap.size ((o.byA y).c (.slice pa o.n pc)) = w4 at *
  go_upto_region 8 with (first
    | (refine wpList_load_row_g rfl 41 _ rfl w.heap.size rfl 41 ((o.byA y).c (.slice pa o.n pc)) (0, 0) _ hr.out Tryz.underlying41 rfl info_op ?_)
    | (go_at_call 18; (with_reducible refine (hM.out _ hB.out).mono ?_); rintro e w5 ⟨sv, rfl, q1, q2⟩; replace hr := Lib.hid (rowB hr.out q2 (Array.getElem?_eq_some_iff.1 hr.out).1); replace hs := Lib.hid (rowB hs.out q2 (Array.getElem?_eq_some_iff.1 hs.out).1); replace hB := Lib.hid (hB.out.trans (Below.mono q2 hB.out.size)); have hO := Lib.hid q1; obtain ⟨ma, mc, hz⟩ := hO.out.slice; subst hz; clear q1 q2))
  go_wp2_with (go_at_call 40; (with_reducible refine (hSg.out _ _ hB.out hO.out).mono ?_); rintro e w6 ⟨rfl, q2⟩; replace hr := Lib.hid (rowB hr.out q2 (Array.getElem?_eq_some_iff.1 hr.out).1); replace hs := Lib.hid (rowB hs.out q2 (Array.getElem?_eq_some_iff.1 hs.out).1); replace hB := Lib.hid (hB.out.trans (Below.mono q2 hB.out.size)); have g9 := frozen_of_row w6 w.heap.size 9 _ _ hr.out; have g10 := frozen_of_row w6 w.heap.size 10 _ _ hr.out; have hx := (cellsO hr.out); have x9 := hx.2.2.2.2.2.1; have x10 := hx.2.2.2.2.2.2; have hset := Lib.hid (set_es (o := o) y E S hr.out); clear q2 hx; refine Stop.go'' _ ?_)
  refine StopP.go ?_
  go_upto_region 9 with fail
  rw [hset.out]
  clear hset g9 g10 x9 x10
  replace hs := Lib.hid ((setRow_other w6 w.heap.size (w.heap.size + 1) ((o.sigd y E S).c (.slice pa o.n pc)) (by omega)).trans hs.out)
  replace hr := Lib.hid (setRow_heap w6 w.heap.size _ ((o.sigd y E S).c (.slice pa o.n pc)) _ _ hr.out)
  replace hB := Lib.hid (show Below w.heap.size w (w6.setRow w.heap.size ((o.sigd y E S).c (.slice pa o.n pc))) from below_setRow' hB.out (Nat.le_refl _) _)
  generalize w6.setRow w.heap.size ((o.sigd y E S).c (.slice pa o.n pc)) = w7 at *
  have hl7 := Lib.hid (Array.getElem?_eq_some_iff.1 hs.out).1
  go_wp2_with (first
    | (refine wpList_load_row_g rfl 41 _ rfl w.heap.size rfl 41 ((o.sigd y E S).c (.slice pa o.n pc)) (0, 0) _ hr.out Tryz.underlying41 rfl info_op ?_)
    | (go_at_call 41; (with_reducible refine (hCp.out E S _ hB.out).mono ?_); rintro e w8 ⟨qv, rfl, q1, q2⟩; replace hr := Lib.hid (rowB hr.out q2 (Array.getElem?_eq_some_iff.1 hr.out).1); replace hs := Lib.hid (rowB hs.out q2 (Array.getElem?_eq_some_iff.1 hs.out).1); replace hB := Lib.hid (hB.out.trans (Below.mono q2 hB.out.size)); have hq := Lib.hid q1; obtain ⟨qa, qc, hz⟩ := hq.out.rd.slice; subst hz; clear q1 q2)
    | (refine wpList_store_row rfl 41 _ _ rfl (w.heap.size + 1) ((o.sigd y E S).c (.slice qa o.n qc)) rfl rfl 41 _ hs.out info_op rfl (op_one (o.sigd y E S) _ _ _) ?_))
  exact bodyPost_ret (results_row_tmp rfl _ _ (w.heap.size + 1) 41 _ _ _ rfl (setRow_heap _ _ _ _ _ _ hs.out) Tryz.underlying41 rfl info_op) rfl ⟨_, rfl, (ownI_setRow hq.out hl7.out _).rd, below_setRow' hB.out (by omega) _⟩
end Go.Proofs.YtfaojjleapenaabGreatDoor.wir.val
namespace Go.Proofs.YtfaojjleapenaabGreatDoor.wir.val
open Go.RowKit Go.YtfaojjleapenaabGreatDoor
set_option linter.unusedVariables false
theorem okO_of (o : Od) (h1 : grp.inG o.au = true) (h2 : (decide ((o.st : Int) ≤ 1000000000000) && actB o.k o.key o.v) = true) (h3 : sigB (o.e : Int) (o.s : Int) = true) : okO o = true := by
  unfold okO
  rw [h1, h3, Bool.and_true, h2]; rfl
theorem gO_sig0 : sigB 0 0 = true := by decide +kernel
theorem sigB_nat (e s : Nat) (he : e < 500000003) (hs : s < 500000003) : sigB (e : Int) (s : Int) = true := by
  show (decide ((e : Int) < 500000003) && decide ((s : Int) < 500000003)) = true
  rw [← nat_int_lt, ← nat_int_lt, decide_eq_true he, decide_eq_true hs]; rfl
theorem ver_sigd (o : Od) (y e s : Nat) : verO (o.sigd y e s) = if chkO (o.sigd y e s) = 0 then (if rightB y (msgB (o.byA y)) s e then 0 else 22) else chkO (o.sigd y e s) := rfl
theorem ver_zero (o : Od) (y e s : Nat) (h1 : chkO (o.sigd y e s) = 0) (h2 : rightB y (msgB (o.byA y)) s e = true) : verO (o.sigd y e s) = 0 := by
  rw [ver_sigd, if_pos h1, h2]; exact if_pos rfl
theorem fit_sigd {o : Od} (h : o.Fit) (y e s : Nat) (hy : y < 4294967296) (he : e < 500000003) (hs : s < 500000003) : (o.sigd y e s).Fit := ⟨hy, h.F, h.n, h.st, h.k, h.key, h.v, Nat.lt_trans he (by decide), Nat.lt_trans hs (by decide)⟩
end Go.Proofs.YtfaojjleapenaabGreatDoor.wir.val
namespace Go.Proofs.YtfaojjleapenaabGreatDoor.wir.val
open Go.RowKit Go.YtfaojjleapenaabGreatDoor
set_option linter.unusedVariables false
theorem chk_parts {o : Od} (h : chkO o = 0) : ¬ 4 < o.n ∧ riseF o.F o.n = true ∧ okO o = true := by
  unfold chkO at h
  by_cases h1 : 4 < o.n
  · rw [if_pos h1] at h; omega
  · rw [if_neg h1] at h
    by_cases h2 : riseF o.F o.n = true
    · rw [if_pos h2] at h
      by_cases h3 : okO o = true
      · exact ⟨h1, h2, h3⟩
      · rw [if_neg h3] at h; omega
    · rw [if_neg h2] at h; omega
theorem okO_parts {o : Od} (h : okO o = true) : grp.inG o.au = true ∧ (decide ((o.st : Int) ≤ 1000000000000) && actB o.k o.key o.v) = true ∧ sigB (o.e : Int) (o.s : Int) = true := by
  unfold okO at h
  rw [Bool.and_eq_true, Bool.and_eq_true, Bool.and_eq_true] at h
  exact ⟨h.1, by rw [Bool.and_eq_true]; exact ⟨h.2.1, h.2.2.1⟩, h.2.2.2⟩
theorem chk_sigd {o : Od} {y e s : Nat} (h : chkO (o.byA y).bare = 0) (he : e < 500000003) (hs : s < 500000003) : chkO (o.sigd y e s) = 0 := by
  obtain ⟨h1, h2, h3⟩ := chk_parts h
  obtain ⟨k1, k2, _⟩ := okO_parts h3
  exact chk_ok (o := o.sigd y e s) h1 h2 (okO_of (o.sigd y e s) k1 k2 (sigB_nat e s he hs))
end Go.Proofs.YtfaojjleapenaabGreatDoor.wir.val
namespace Go.Proofs.YtfaojjleapenaabGreatDoor.wir.val
open Go.RowKit Go.YtfaojjleapenaabGreatDoor
set_option linter.unusedVariables false
end Go.Proofs.YtfaojjleapenaabGreatDoor.wir.val

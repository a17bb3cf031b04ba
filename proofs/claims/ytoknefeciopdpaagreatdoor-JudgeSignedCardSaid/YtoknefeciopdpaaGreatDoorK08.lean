/- OpOne's walk. -/
import Derived.Test.YtoknefeciopdpaaGreatDoorK07
namespace Go.Proofs.YtoknefeciopdpaaGreatDoor.wir.val
open Go.RowKit Go.YtoknefeciopdpaaGreatDoor
set_option linter.unusedVariables false
/-- A step: two structs or arrays are compared. -/
theorem wpList_neqS {P : Program} {ops : Array Oper} {rest : List Oper} {o : Oper} {a : Act} {w : World} {Q : Exit → Act → World → Prop} (hw : Region.wanted o (yielded ops a.tmps) = true) (T : TypeId) (x y : Operand) (ho : o.op = .binOp .neq T x y T) (cx cy : Array Value) (hx : a.eval x = .agg cx) (hy : a.eval y = .agg cy)
    (h0 : P.eqGuardType P.depth T = false) (B : Bool) (hrun : (binOp .neq T (.agg cx) (.agg cy)).run P w = .ok (.bool B) w) (h : wpList P ops Q rest (a.put o.dst (.bool B)) w) : wpList P ops Q (o :: rest) a w :=
  wpList_step fun K hK => by
    rw [if_pos hw]
    have hg := run_eqGuard_agg (P := P) w .neq T x y cx cy h0
    unfold Oper.wp execOp
    simp only [ho, hx, hy, Sem.run_bind, Sem.run_pure, hg, Result.andThen_ok, hrun]
    exact hK _ _ h
theorem neq_id (D E : List Int) (hD : D.length = 32) (hE : E.length = 32) (w : World) : (binOp .neq 42 (.agg (u8s D)) (.agg (u8s E))).run Tryz.prog w = .ok (.bool (!decide (D = E))) w := by
  have he := run_equalArr (P := Tryz.prog) w 9998 42 5 32 Tryz.underlying42 Tryz.underlying5 (by kernel_rfl) D E hD hE
  simp [go_sem, he]
theorem eql_id (D E : List Int) (hD : D.length = 32) (hE : E.length = 32) (w : World) : (binOp .eql 42 (.agg (u8s D)) (.agg (u8s E))).run Tryz.prog w = .ok (.bool (decide (D = E))) w := by
  have he := run_equalArr (P := Tryz.prog) w 9998 42 5 32 Tryz.underlying42 Tryz.underlying5 (by kernel_rfl) D E hD hE
  simp [go_sem, he]
theorem id_guard : Tryz.prog.eqGuardType Tryz.prog.depth 42 = false := by kernel_rfl
theorem small_great {o : Od} (h : chkO o = 0) : greatB o = false := by
  obtain ⟨h1, _, h3⟩ := chk_zero h
  have h4 : o.key.size ≤ 20 ∧ o.v.s.size ≤ 30 := by
    unfold actB at h3
    have hz : zeroV o.v = true → o.v.s.size ≤ 30 := fun hv => by rw [zeroV_eq hv]; decide
    by_cases k1 : o.k = 1
    · rw [if_pos k1, Bool.and_eq_true, decide_eq_true_eq] at h3
      exact ⟨by omega, hz h3.2⟩
    · rw [if_neg k1] at h3
      by_cases k2 : o.k = 2 ∨ o.k = 3
      · rw [if_pos k2, Bool.and_eq_true] at h3
        exact ⟨keyB_size h3.1, hz h3.2⟩
      · rw [if_neg k2] at h3
        by_cases k4 : o.k = 4
        · rw [if_pos k4, Bool.and_eq_true] at h3
          refine ⟨keyB_size h3.1, ?_⟩
          have hv : validV o.v.k o.v.n o.v.b o.v.s = true := h3.2
          unfold validV at hv
          split at hv
          · simp only [Bool.and_eq_true, decide_eq_true_eq] at hv; omega
          · split at hv
            · simp only [Bool.and_eq_true, decide_eq_true_eq] at hv; omega
            · split at hv
              · simp only [Bool.and_eq_true, decide_eq_true_eq] at hv; omega
              · cases hv
        · rw [if_neg k4] at h3; cases h3
  unfold greatB
  rw [decide_eq_false (by omega), decide_eq_false (by omega), decide_eq_false (by omega)]
  rfl
theorem fit_one (o : Od) (fo : o.Fit) (h0 : chkO o = 0) (pv : Value) (w : World) (hp : RdI w pv o.n o.F) :
    Calls Tryz.prog 13 #[.agg (o.c pv)] w fun e w' => e = .returned (.bool true) ∧ Below w.heap.size w w' := by
  have h := fit_any o fo (small_great h0) pv w hp
  rw [h0] at h
  exact h
/-- What is decoded of an operation's bytes. -/
theorem dec_enc (o : Od) (fo : o.Fit) (hF : o.F.length = 32 * o.n) (h0 : chkO o = 0) (bv : Value) (w : World) (hr : RdB w bv (encO o)) :
    Calls Tryz.prog 15 #[bv] w fun e w' => ∃ (a : Option Addr) (c : Nat), e = .returned (.tuple #[.agg (o.c (.slice a o.n c)), .int .i64 0]) ∧ HeldI w.heap.size w' (.slice a o.n c) o.n o.F ∧ Below w.heap.size w w' := by
  obtain ⟨h1, h2, h3⟩ := chk_zero h0
  refine (opDecode_any (encO o) bv w hr (encO_bytes o fo h1 h3) (Nat.le_trans (encO_short o fo h1 hF h3) (by decide))).mono ?_
  rintro e w' ⟨hb, hq⟩
  rw [decO_enc fo hF h0] at hq
  rcases hq with ⟨hq, _⟩ | ⟨p, a, c, hq, he, hi⟩
  · cases hq
  · obtain rfl := Option.some.inj hq
    exact ⟨a, c, he, hi, hb⟩
theorem dec_none (l : List Int) (hl : Bytes l) (hlm : l.length ≤ 1000000) (hd : decO l = none) (bv : Value) (w : World) (hr : RdB w bv l) :
    Calls Tryz.prog 15 #[bv] w fun e w' => e = .returned (.tuple #[.agg (zO.c (.slice none 0 0)), .int .i64 12]) ∧ Below w.heap.size w w' := by
  refine (opDecode_any l bv w hr hl hlm).mono ?_
  rintro e w' ⟨hb, hq⟩
  rw [hd] at hq
  rcases hq with ⟨_, he⟩ | ⟨p, a, c, hq, _⟩
  · exact ⟨he, hb⟩
  · cases hq
theorem heldI_now {B : Nat} {w : World} {v : Value} {n : Nat} {F : List Int} (h : HeldI B w v n F) : RdI w v n F := h w (fun _ _ _ => rfl) (Nat.le_refl _)
set_option maxHeartbeats 8000000 in
set_option maxRecDepth 100000 in
theorem one_law (o : Od) (fo : o.Raw) (pv : Value) (l : List Int) (bv : Value) (w : World) (hp0 : RdI w pv o.n o.F) (hb0 : RdB w bv l) (hl : Bytes l) (hG0 : GlobW w) :
    Calls Tryz.prog 3 #[.agg (o.c pv), bv] w fun x w' => x = .returned (.bool true) ∧ Below w.heap.size w w' := by
  obtain ⟨pa, pc, rfl⟩ := hp0.slice
  obtain ⟨ba, bc, rfl⟩ := hb0.slice
  obtain ⟨N, hN⟩ : ∃ N, l.length = N := ⟨_, rfl⟩
  rw [hN] at hb0 ⊢
  obtain ⟨W, hW⟩ : ∃ W, W = w.alloc (.cells (o.c (.slice pa o.n pc)) 32) := ⟨_, rfl⟩
  have hS := Lib.hid (show Below w.heap.size w W by rw [hW]; exact below_a w _)
  have r0 := Lib.hid (show W.heap[w.heap.size]? = some (.cells (o.c (.slice pa o.n pc)) 32 (0, 0)) by rw [hW]; exact heap_alloc_new w _)
  have pw := Lib.hid hp0
  have bw := Lib.hid hb0
  have hG := Lib.hid hG0
  have hNl := Lib.hid hN
  have hlF := hp0.len
  have hfo := Lib.hid (fun (wz : World) (h : RdI wz (.slice pa o.n pc) o.n o.F) => fitO_any o fo pa pc wz h)
  clear hp0 hb0 hG0
  by_cases hbig : 1000 < N
  · have i1 : (1000 : Int) < (N : Int) := by omega
    clear hfo hlF fo hl
    go_enter Tryz.func3, Tryz.ntmps3
    go_upto_region 1 with fail
    rw [← hW]
    clear hW
    go_wp2_with (go_at_call 12; (with_reducible refine (alive6 _ (hG.out.mono hS.out)).mono ?_); rintro e9 w4 ⟨rfl, q2⟩; replace hS := Lib.hid (hS.out.trans (Below.mono q2 hS.out.size)); clear q2)
    go_ret
    exact ⟨rfl, hS.out⟩
  have i1 : ¬ (1000 : Int) < (N : Int) := by omega
  have hN6 := Lib.hid (show N ≤ 1000 by omega)
  have hdec : (∀ (wz : World), RdB wz (.slice ba N bc) l → Calls Tryz.prog 15 #[.slice ba N bc] wz fun e w' => e = .returned (.tuple #[.agg (zO.c (.slice none 0 0)), .int .i64 12]) ∧ Below wz.heap.size wz w') ∨
      ∃ p : Od, (∀ (wz : World), RdB wz (.slice ba N bc) l → Calls Tryz.prog 15 #[.slice ba N bc] wz fun e w' => ∃ (a : Option Addr) (c : Nat), e = .returned (.tuple #[.agg (p.c (.slice a p.n c)), .int .i64 0]) ∧ HeldI wz.heap.size w' (.slice a p.n c) p.n p.F ∧ Below wz.heap.size wz w') ∧
        (∀ (wz : World) (v : Value), RdI wz v p.n p.F → Calls Tryz.prog 14 #[.agg (p.c v)] wz fun e w' => ∃ sv, e = .returned (.tuple #[sv, .int .i64 0]) ∧ OwnB wz.heap.size 5 w' sv l ∧ Below wz.heap.size wz w') ∧
        (∀ (wz : World) (v : Value), RdI wz v p.n p.F → Calls Tryz.prog 13 #[.agg (p.c v)] wz fun e w' => e = .returned (.bool true) ∧ Below wz.heap.size wz w') := by
    cases hd : decO l with
    | none => exact .inl (fun wz h => dec_none l hl (by omega) hd _ wz h)
    | some p =>
      obtain ⟨e1, e2, e3, e4⟩ := decO_back hl hd
      refine .inr ⟨p, fun wz h => dec_enc p e2 e4 e3 _ wz (by rw [e1]; exact h), fun wz v h => ?_, fun wz v h => fit_one p e2 e3 v wz h⟩
      have := opEncode_ok p e2 v wz h e3
      rw [e1] at this
      exact this
  clear hl
  cases hf1 : fitO o
  · rw [hf1] at hfo
    clear fo hf1 hlF

    have hdec := Lib.hid hdec
    go_enter Tryz.func3, Tryz.ntmps3
    go_upto_region 1 with fail
    rw [← hW]
    clear hW
    go_upto_region 10 with (first | (refine wpList_load_row_g rfl 32 _ rfl w.heap.size rfl 32 (o.c (.slice pa o.n pc)) (0, 0) _ r0.out Tryz.underlying32 rfl info_op ?_) | (go_at_call 13; (with_reducible refine (hfo.out _ (pw.out.mono hS.out)).mono ?_); rintro e9 w4 ⟨rfl, q2⟩; (try replace r0 := Lib.hid (rowB r0.out q2 (Array.getElem?_eq_some_iff.1 r0.out).1)); replace hS := Lib.hid (hS.out.trans (Below.mono q2 hS.out.size)); clear q2))
    clear r0
    rcases hdec.out with hD | ⟨p, hD, hE2, hF2⟩
    · have hD := Lib.hid hD
      clear hdec
      go_wp2_with (first
        | (go_at_call 15; (with_reducible refine (hD.out _ (bw.out.mono hS.out)).mono ?_); rintro e9 w4 ⟨rfl, q2⟩; (try replace rq := Lib.hid (rowB rq.out q2 (Array.getElem?_eq_some_iff.1 rq.out).1)); (try replace xQ := Lib.hid (xQ.out.mono q2)); (try replace xC := Lib.hid (xC.out.mono q2)); replace hS := Lib.hid (hS.out.trans (Below.mono q2 hS.out.size)); clear q2)
        | (refine storeNew _ rfl 32 _ _ rfl (zO.c (.slice none 0 0)) 32 rfl rfl info_op rfl (op_one zO _ _ _) ?_; intro wx hrx hbx; (try replace rq := Lib.hid (rowB rq.out hbx (Array.getElem?_eq_some_iff.1 rq.out).1)); (try replace xQ := Lib.hid (xQ.out.mono hbx)); (try replace xC := Lib.hid (xC.out.mono hbx)); replace hS := Lib.hid (hS.out.trans (Below.mono hbx hS.out.size)); have rq := Lib.hid hrx; clear hrx hbx)
        | (go_at_call 12; (with_reducible refine (alive6 _ (hG.out.mono hS.out)).mono ?_); rintro e9 w4 ⟨rfl, q2⟩; (try replace rq := Lib.hid (rowB rq.out q2 (Array.getElem?_eq_some_iff.1 rq.out).1)); (try replace xQ := Lib.hid (xQ.out.mono q2)); (try replace xC := Lib.hid (xC.out.mono q2)); replace hS := Lib.hid (hS.out.trans (Below.mono q2 hS.out.size)); clear q2))
      go_ret
      exact ⟨rfl, hS.out⟩
    · have hD := Lib.hid hD
      have hE2 := Lib.hid hE2
      have hF2 := Lib.hid hF2
      clear hdec
      go_upto_region 13 with (first
        | (go_at_call 15; (with_reducible refine (hD.out _ (bw.out.mono hS.out)).mono ?_); rintro e9 w4 ⟨qa, qc, rfl, q1, q2⟩; (try replace rq := Lib.hid (rowB rq.out q2 (Array.getElem?_eq_some_iff.1 rq.out).1)); (try replace xQ := Lib.hid (xQ.out.mono q2)); (try replace xC := Lib.hid (xC.out.mono q2)); replace hS := Lib.hid (hS.out.trans (Below.mono q2 hS.out.size)); have xQ := Lib.hid (heldI_now q1); clear q1; clear q2)
        | (refine storeNew _ rfl 32 _ _ rfl (p.c (.slice qa p.n qc)) 32 rfl rfl info_op rfl (op_one p qa p.n qc) ?_; intro wx hrx hbx; (try replace rq := Lib.hid (rowB rq.out hbx (Array.getElem?_eq_some_iff.1 rq.out).1)); (try replace xQ := Lib.hid (xQ.out.mono hbx)); (try replace xC := Lib.hid (xC.out.mono hbx)); replace hS := Lib.hid (hS.out.trans (Below.mono hbx hS.out.size)); have rq := Lib.hid hrx; clear hrx hbx))
      go_upto_region 14 with (first
        | (refine wpList_load_row_g rfl 32 _ rfl _ rfl 32 (p.c (.slice qa p.n qc)) (0, 0) _ rq.out Tryz.underlying32 rfl info_op ?_)
        | (go_at_call 14; (with_reducible refine (hE2.out _ _ xQ.out).mono ?_); rintro e9 w4 ⟨sv, rfl, q1, q2⟩; (try replace rq := Lib.hid (rowB rq.out q2 (Array.getElem?_eq_some_iff.1 rq.out).1)); (try replace xQ := Lib.hid (xQ.out.mono q2)); (try replace xC := Lib.hid (xC.out.mono q2)); replace hS := Lib.hid (hS.out.trans (Below.mono q2 hS.out.size)); have xC := Lib.hid q1.rd; clear q1; clear q2))
      obtain ⟨ca, cc, hsv⟩ := xC.out.slice
      subst hsv
      rw [hNl.out] at xC
      rw [hNl.out]
      go_wp2_with (first
        | (go_at_call 19; (with_reducible refine (same_true _ _ l _ (by have := hNl.out; have := hN6.out; omega) xC.out (bw.out.mono hS.out)).mono ?_); rintro e9 w4 ⟨rfl, q2⟩; (try replace rq := Lib.hid (rowB rq.out q2 (Array.getElem?_eq_some_iff.1 rq.out).1)); (try replace xQ := Lib.hid (xQ.out.mono q2)); (try replace xC := Lib.hid (xC.out.mono q2)); replace hS := Lib.hid (hS.out.trans (Below.mono q2 hS.out.size)); clear q2)
        | (refine wpList_load_row_g rfl 32 _ rfl _ rfl 32 (p.c (.slice qa p.n qc)) (0, 0) _ rq.out Tryz.underlying32 rfl info_op ?_)
        | (go_at_call 13; (with_reducible refine (hF2.out _ _ xQ.out).mono ?_); rintro e9 w4 ⟨rfl, q2⟩; (try replace rq := Lib.hid (rowB rq.out q2 (Array.getElem?_eq_some_iff.1 rq.out).1)); (try replace xQ := Lib.hid (xQ.out.mono q2)); (try replace xC := Lib.hid (xC.out.mono q2)); replace hS := Lib.hid (hS.out.trans (Below.mono q2 hS.out.size)); clear q2)
        | (go_at_call 12; (with_reducible refine (alive6 _ (hG.out.mono hS.out)).mono ?_); rintro e9 w4 ⟨rfl, q2⟩; (try replace rq := Lib.hid (rowB rq.out q2 (Array.getElem?_eq_some_iff.1 rq.out).1)); (try replace xQ := Lib.hid (xQ.out.mono q2)); (try replace xC := Lib.hid (xC.out.mono q2)); replace hS := Lib.hid (hS.out.trans (Below.mono q2 hS.out.size)); clear q2))
      go_ret
      exact ⟨rfl, hS.out⟩
  rw [hf1] at hfo
  obtain ⟨ffo, _, co⟩ := fitO_parts fo hf1
  have hen := Lib.hid (fun (wz : World) (h : RdI wz (.slice pa o.n pc) o.n o.F) => opEncode_ok o ffo (.slice pa o.n pc) wz h co)
  have hde := Lib.hid (fun (wz : World) (v : Value) (h : RdB wz v (encO o)) => dec_enc o ffo hlF co v wz h)
  have hid := Lib.hid (fun (wz : World) (h : RdI wz (.slice pa o.n pc) o.n o.F) (hg : GlobW wz) => (show Calls Tryz.prog 16 #[.agg (o.c (.slice pa o.n pc))] wz fun e w' => e = .returned (.tuple #[.agg (u8s (shaF (encO o))), .int .i64 0]) ∧ Below wz.heap.size wz w' from by
    obtain ⟨Tg, Tf, g1, g2⟩ := hg
    exact opID_ok o ffo (.slice pa o.n pc) wz h co g1 g2))
  have hsu := Lib.hid (fun (wz : World) (v : Value) (h : RdB wz v (encO o)) (hg : GlobW wz) => (show Calls Tryz.prog 17 #[v] wz fun e w' => e = .returned (.tuple #[.agg (u8s (shaF (encO o))), .int .i64 0]) ∧ Below wz.heap.size wz w' from by
    obtain ⟨Tg, Tf, g1, g2⟩ := hg
    exact sum_any (shaF (encO o)) v (encO o) wz h (encO_bytes o ffo (chk_zero co).1 (chk_zero co).2.2) (Nat.le_trans (encO_short o ffo (chk_zero co).1 hlF (chk_zero co).2.2) (by decide)) rfl g1 g2))
  have hsm := Lib.hid (fun (wz : World) (v1 v2 : Value) (h : RdI wz v1 o.n o.F) (h2 : RdI wz v2 o.n o.F) => sameO_yes o (Nat.le_trans (chk_zero co).1 (by decide)) v1 v2 wz h h2)
  have hsh := encO_short o ffo (chk_zero co).1 hlF (chk_zero co).2.2
  have hDl : (shaF (encO o)).length = 32 := shaF_length _
  generalize shaF (encO o) = D at *
  generalize encO o = EC at *
  obtain ⟨NC, hNC0⟩ : ∃ N, EC.length = N := ⟨_, rfl⟩
  rw [hNC0] at hsh
  have hNC := Lib.hid hNC0
  have di := Lib.hid (show (Tryz.prog.info? 42).map (·.size) = some (u8s D).size by rw [u8s_size, hDl]; kernel_rfl)
  have ds := Lib.hid (show ∀ x : Array Value, x = u8s (zerosB 32) → x.size = (u8s D).size from fun x hx => by rw [hx, u8s_size, u8s_size, hDl, zerosB_length])
  have hneq := Lib.hid (fun wz => (neq_id D D hDl hDl wz).trans (by rw [decide_eq_true rfl]))
  have i4 : ¬ (400 : Int) < (NC : Int) := by omega
  have i5 : decide ((400 : Int) < (NC : Int)) = false := decide_eq_false i4
  clear fo hf1 ffo co hlF hNC0 hDl
  have hdec := Lib.hid hdec
  go_enter Tryz.func3, Tryz.ntmps3
  go_upto_region 1 with fail
  rw [← hW]
  clear hW
  go_upto_region 4 with (first | (refine wpList_load_row_g rfl 32 _ rfl w.heap.size rfl 32 (o.c (.slice pa o.n pc)) (0, 0) _ r0.out Tryz.underlying32 rfl info_op ?_) | (go_at_call 13; (with_reducible refine (hfo.out _ (pw.out.mono hS.out)).mono ?_); rintro e9 w4 ⟨rfl, q2⟩; (try replace r0 := Lib.hid (rowB r0.out q2 (Array.getElem?_eq_some_iff.1 r0.out).1)); replace hS := Lib.hid (hS.out.trans (Below.mono q2 hS.out.size)); clear q2))
  go_upto_region 5 with (first | (refine wpList_load_row_g rfl 32 _ rfl w.heap.size rfl 32 (o.c (.slice pa o.n pc)) (0, 0) _ r0.out Tryz.underlying32 rfl info_op ?_) | (go_at_call 14; (with_reducible refine (hen.out _ (pw.out.mono hS.out)).mono ?_); rintro e9 w4 ⟨sv, rfl, q1, q2⟩; (try replace r0 := Lib.hid (rowB r0.out q2 (Array.getElem?_eq_some_iff.1 r0.out).1)); replace hS := Lib.hid (hS.out.trans (Below.mono q2 hS.out.size)); have xO := Lib.hid q1.rd; clear q1; clear q2))
  obtain ⟨ca, cc, hsv⟩ := xO.out.slice
  subst hsv
  rw [hNC.out] at xO
  rw [hNC.out]
  go_upto_region 6 with (first | (go_at_call 15; (with_reducible refine (hde.out _ _ xO.out).mono ?_); rintro e9 w4 ⟨qa, qc, rfl, q1, q2⟩; (try replace r0 := Lib.hid (rowB r0.out q2 (Array.getElem?_eq_some_iff.1 r0.out).1)); (try replace xO := Lib.hid (xO.out.mono q2)); replace hS := Lib.hid (hS.out.trans (Below.mono q2 hS.out.size)); have xP := Lib.hid (heldI_now q1); clear q1; clear q2) | (refine storeNew _ rfl 32 _ _ rfl (o.c (.slice qa o.n qc)) 32 rfl rfl info_op rfl (op_one o qa o.n qc) ?_; intro wx hrx hbx; (try replace r0 := Lib.hid (rowB r0.out hbx (Array.getElem?_eq_some_iff.1 r0.out).1)); (try replace xO := Lib.hid (xO.out.mono hbx)); (try replace xP := Lib.hid (xP.out.mono hbx)); replace hS := Lib.hid (hS.out.trans (Below.mono hbx hS.out.size)); have rp := Lib.hid hrx; clear hrx hbx))
  have rp := rp
  go_upto_region 7 with (first | (refine wpList_load_row_g rfl 32 _ rfl w.heap.size rfl 32 (o.c (.slice pa o.n pc)) (0, 0) _ r0.out Tryz.underlying32 rfl info_op ?_) | (go_at_call 16; (with_reducible refine (hid.out _ (pw.out.mono hS.out) (hG.out.mono hS.out)).mono ?_); rintro e9 w4 ⟨rfl, q2⟩; (try replace r0 := Lib.hid (rowB r0.out q2 (Array.getElem?_eq_some_iff.1 r0.out).1)); (try replace rp := Lib.hid (rowB rp.out q2 (Array.getElem?_eq_some_iff.1 rp.out).1)); (try replace xO := Lib.hid (xO.out.mono q2)); (try replace xP := Lib.hid (xP.out.mono q2)); replace hS := Lib.hid (hS.out.trans (Below.mono q2 hS.out.size)); clear q2) | (refine storeNew _ rfl 42 _ _ rfl (u8s D) 42 rfl rfl di.out (ds.out _ (by kernel_rfl)) (u8s_one _) ?_; intro wx hrx hbx; (try replace r0 := Lib.hid (rowB r0.out hbx (Array.getElem?_eq_some_iff.1 r0.out).1)); (try replace rp := Lib.hid (rowB rp.out hbx (Array.getElem?_eq_some_iff.1 rp.out).1)); (try replace xO := Lib.hid (xO.out.mono hbx)); (try replace xP := Lib.hid (xP.out.mono hbx)); replace hS := Lib.hid (hS.out.trans (Below.mono hbx hS.out.size)); have ri := Lib.hid hrx; clear hrx hbx))
  go_upto_region 8 with (first | (go_at_call 17; (with_reducible refine (hsu.out _ _ xO.out (hG.out.mono hS.out)).mono ?_); rintro e9 w4 ⟨rfl, q2⟩; (try replace r0 := Lib.hid (rowB r0.out q2 (Array.getElem?_eq_some_iff.1 r0.out).1)); (try replace rp := Lib.hid (rowB rp.out q2 (Array.getElem?_eq_some_iff.1 rp.out).1)); (try replace ri := Lib.hid (rowB ri.out q2 (Array.getElem?_eq_some_iff.1 ri.out).1)); (try replace xO := Lib.hid (xO.out.mono q2)); (try replace xP := Lib.hid (xP.out.mono q2)); replace hS := Lib.hid (hS.out.trans (Below.mono q2 hS.out.size)); clear q2) | (refine storeNew _ rfl 42 _ _ rfl (u8s D) 42 rfl rfl di.out (ds.out _ (by kernel_rfl)) (u8s_one _) ?_; intro wx hrx hbx; (try replace r0 := Lib.hid (rowB r0.out hbx (Array.getElem?_eq_some_iff.1 r0.out).1)); (try replace rp := Lib.hid (rowB rp.out hbx (Array.getElem?_eq_some_iff.1 rp.out).1)); (try replace ri := Lib.hid (rowB ri.out hbx (Array.getElem?_eq_some_iff.1 ri.out).1)); (try replace xO := Lib.hid (xO.out.mono hbx)); (try replace xP := Lib.hid (xP.out.mono hbx)); replace hS := Lib.hid (hS.out.trans (Below.mono hbx hS.out.size)); have rs := Lib.hid hrx; clear hrx hbx))
  go_upto_region 10 with (first
    | (refine wpList_load_row_g rfl 32 _ rfl _ rfl 32 (o.c (.slice pa o.n pc)) (0, 0) _ r0.out Tryz.underlying32 rfl info_op ?_)
    | (refine wpList_load_row_g rfl 32 _ rfl _ rfl 32 (o.c (.slice qa o.n qc)) (0, 0) _ rp.out Tryz.underlying32 rfl info_op ?_)
    | (refine wpList_load_row_g rfl 42 _ rfl _ rfl 42 (u8s D) (0, 0) _ ri.out Tryz.underlying42 rfl di.out ?_)
    | (refine wpList_load_row_g rfl 42 _ rfl _ rfl 42 (u8s D) (0, 0) _ rs.out Tryz.underlying42 rfl di.out ?_)
    | (go_at_call 18; (with_reducible refine (hsm.out _ _ _ (pw.out.mono hS.out) xP.out).mono ?_); rintro e9 w4 ⟨rfl, q2⟩; (try replace r0 := Lib.hid (rowB r0.out q2 (Array.getElem?_eq_some_iff.1 r0.out).1)); (try replace rp := Lib.hid (rowB rp.out q2 (Array.getElem?_eq_some_iff.1 rp.out).1)); (try replace ri := Lib.hid (rowB ri.out q2 (Array.getElem?_eq_some_iff.1 ri.out).1)); (try replace rs := Lib.hid (rowB rs.out q2 (Array.getElem?_eq_some_iff.1 rs.out).1)); (try replace xO := Lib.hid (xO.out.mono q2)); (try replace xP := Lib.hid (xP.out.mono q2)); replace hS := Lib.hid (hS.out.trans (Below.mono q2 hS.out.size)); clear q2)
    | (refine wpList_neqS rfl 42 _ _ rfl (u8s D) (u8s D) rfl rfl id_guard false (hneq.out _) ?_))
  clear r0 rp ri rs xO xP
  rcases hdec.out with hD | ⟨p, hD, hE2, hF2⟩
  · have hD := Lib.hid hD
    clear hdec
    go_wp2_with (first
      | (go_at_call 15; (with_reducible refine (hD.out _ (bw.out.mono hS.out)).mono ?_); rintro e9 w4 ⟨rfl, q2⟩; (try replace rq := Lib.hid (rowB rq.out q2 (Array.getElem?_eq_some_iff.1 rq.out).1)); (try replace xQ := Lib.hid (xQ.out.mono q2)); (try replace xC := Lib.hid (xC.out.mono q2)); replace hS := Lib.hid (hS.out.trans (Below.mono q2 hS.out.size)); clear q2)
      | (refine storeNew _ rfl 32 _ _ rfl (zO.c (.slice none 0 0)) 32 rfl rfl info_op rfl (op_one zO _ _ _) ?_; intro wx hrx hbx; (try replace rq := Lib.hid (rowB rq.out hbx (Array.getElem?_eq_some_iff.1 rq.out).1)); (try replace xQ := Lib.hid (xQ.out.mono hbx)); (try replace xC := Lib.hid (xC.out.mono hbx)); replace hS := Lib.hid (hS.out.trans (Below.mono hbx hS.out.size)); have rq := Lib.hid hrx; clear hrx hbx)
      | (go_at_call 12; (with_reducible refine (alive6 _ (hG.out.mono hS.out)).mono ?_); rintro e9 w4 ⟨rfl, q2⟩; (try replace rq := Lib.hid (rowB rq.out q2 (Array.getElem?_eq_some_iff.1 rq.out).1)); (try replace xQ := Lib.hid (xQ.out.mono q2)); (try replace xC := Lib.hid (xC.out.mono q2)); replace hS := Lib.hid (hS.out.trans (Below.mono q2 hS.out.size)); clear q2))
    go_ret
    exact ⟨rfl, hS.out⟩
  · have hD := Lib.hid hD
    have hE2 := Lib.hid hE2
    have hF2 := Lib.hid hF2
    clear hdec
    go_upto_region 13 with (first
      | (go_at_call 15; (with_reducible refine (hD.out _ (bw.out.mono hS.out)).mono ?_); rintro e9 w4 ⟨qa, qc, rfl, q1, q2⟩; (try replace rq := Lib.hid (rowB rq.out q2 (Array.getElem?_eq_some_iff.1 rq.out).1)); (try replace xQ := Lib.hid (xQ.out.mono q2)); (try replace xC := Lib.hid (xC.out.mono q2)); replace hS := Lib.hid (hS.out.trans (Below.mono q2 hS.out.size)); have xQ := Lib.hid (heldI_now q1); clear q1; clear q2)
      | (refine storeNew _ rfl 32 _ _ rfl (p.c (.slice qa p.n qc)) 32 rfl rfl info_op rfl (op_one p qa p.n qc) ?_; intro wx hrx hbx; (try replace rq := Lib.hid (rowB rq.out hbx (Array.getElem?_eq_some_iff.1 rq.out).1)); (try replace xQ := Lib.hid (xQ.out.mono hbx)); (try replace xC := Lib.hid (xC.out.mono hbx)); replace hS := Lib.hid (hS.out.trans (Below.mono hbx hS.out.size)); have rq := Lib.hid hrx; clear hrx hbx))
    go_upto_region 14 with (first
      | (refine wpList_load_row_g rfl 32 _ rfl _ rfl 32 (p.c (.slice qa p.n qc)) (0, 0) _ rq.out Tryz.underlying32 rfl info_op ?_)
      | (go_at_call 14; (with_reducible refine (hE2.out _ _ xQ.out).mono ?_); rintro e9 w4 ⟨sv, rfl, q1, q2⟩; (try replace rq := Lib.hid (rowB rq.out q2 (Array.getElem?_eq_some_iff.1 rq.out).1)); (try replace xQ := Lib.hid (xQ.out.mono q2)); (try replace xC := Lib.hid (xC.out.mono q2)); replace hS := Lib.hid (hS.out.trans (Below.mono q2 hS.out.size)); have xC := Lib.hid q1.rd; clear q1; clear q2))
    obtain ⟨ca, cc, hsv⟩ := xC.out.slice
    subst hsv
    rw [hNl.out] at xC
    rw [hNl.out]
    go_wp2_with (first
      | (go_at_call 19; (with_reducible refine (same_true _ _ l _ (by have := hNl.out; have := hN6.out; omega) xC.out (bw.out.mono hS.out)).mono ?_); rintro e9 w4 ⟨rfl, q2⟩; (try replace rq := Lib.hid (rowB rq.out q2 (Array.getElem?_eq_some_iff.1 rq.out).1)); (try replace xQ := Lib.hid (xQ.out.mono q2)); (try replace xC := Lib.hid (xC.out.mono q2)); replace hS := Lib.hid (hS.out.trans (Below.mono q2 hS.out.size)); clear q2)
      | (refine wpList_load_row_g rfl 32 _ rfl _ rfl 32 (p.c (.slice qa p.n qc)) (0, 0) _ rq.out Tryz.underlying32 rfl info_op ?_)
      | (go_at_call 13; (with_reducible refine (hF2.out _ _ xQ.out).mono ?_); rintro e9 w4 ⟨rfl, q2⟩; (try replace rq := Lib.hid (rowB rq.out q2 (Array.getElem?_eq_some_iff.1 rq.out).1)); (try replace xQ := Lib.hid (xQ.out.mono q2)); (try replace xC := Lib.hid (xC.out.mono q2)); replace hS := Lib.hid (hS.out.trans (Below.mono q2 hS.out.size)); clear q2)
      | (go_at_call 12; (with_reducible refine (alive6 _ (hG.out.mono hS.out)).mono ?_); rintro e9 w4 ⟨rfl, q2⟩; (try replace rq := Lib.hid (rowB rq.out q2 (Array.getElem?_eq_some_iff.1 rq.out).1)); (try replace xQ := Lib.hid (xQ.out.mono q2)); (try replace xC := Lib.hid (xC.out.mono q2)); replace hS := Lib.hid (hS.out.trans (Below.mono q2 hS.out.size)); clear q2))
    go_ret
    exact ⟨rfl, hS.out⟩
end Go.Proofs.YtoknefeciopdpaaGreatDoor.wir.val

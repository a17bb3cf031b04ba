/- JudgeExact's walk. -/
import Derived.Test.YtoknefeciopdpaaGreatDoorK10
import Derived.Test.YtoknefeciopdpaaGreatDoorK08
namespace Go.Proofs.YtoknefeciopdpaaGreatDoor.wir.val
open Go.RowKit Go.YtoknefeciopdpaaGreatDoor
set_option linter.unusedVariables false
theorem judgeOf_no (l : List Int) (bv : Value) (w : World) (hr : RdB w bv l) (hl : Bytes l) (hG0 : GlobW w) (v : Int) (hv : vd l = v) (h0 : v ≠ 0) :
    Calls Tryz.prog 35 #[bv] w fun e w' => e = .returned (.tuple #[.agg (zO.c (.slice none 0 0)), .agg (u8s (zerosB 32)), .int .u8 v]) ∧ Below w.heap.size w w' := by
  refine (judgeOf_any l bv w hr hl hG0).mono ?_
  rintro e w' ⟨hb, ⟨_, he⟩ | ⟨o, a, c, hz, _⟩⟩
  · exact ⟨by rw [he, hv], hb⟩
  · exact absurd (hv.symm.trans hz) h0
theorem judgeOf_yes (l : List Int) (bv : Value) (w : World) (hr : RdB w bv l) (hl : Bytes l) (hG0 : GlobW w) (o : Od) (hd : decO l = some o) (hv : vd l = 0) :
    Calls Tryz.prog 35 #[bv] w fun e w' => ∃ (a : Option Addr) (c : Nat), e = .returned (.tuple #[.agg (o.c (.slice a o.n c)), .agg (u8s (shaF l)), .int .u8 0]) ∧ RdI w' (.slice a o.n c) o.n o.F ∧ Below w.heap.size w w' := by
  refine (judgeOf_any l bv w hr hl hG0).mono ?_
  rintro e w' ⟨hb, ⟨h0, _⟩ | ⟨p, a, c, _, _, hq, _, he, hi⟩⟩
  · exact absurd hv h0
  · rw [hd] at hq
    obtain rfl := Option.some.inj hq
    exact ⟨a, c, he, heldI_now hi, hb⟩
theorem fine_no (l : List Int) (bv : Value) (w : World) (hr : RdB w bv l) (hl : Bytes l) (hG0 : GlobW w) (h0 : vd l ≠ 0) :
    Calls Tryz.prog 39 #[bv] w fun e w' => e = .returned (.bool false) ∧ Below w.heap.size w w' := by
  have h := judgeFine_any l bv w hr hl hG0
  rw [show (vd l == 0) = false by simpa using h0] at h
  exact h
theorem fine_yes (l : List Int) (bv : Value) (w : World) (hr : RdB w bv l) (hl : Bytes l) (hG0 : GlobW w) (h0 : vd l = 0) :
    Calls Tryz.prog 39 #[bv] w fun e w' => e = .returned (.bool true) ∧ Below w.heap.size w w' := by
  have h := judgeFine_any l bv w hr hl hG0
  rw [h0] at h
  exact h
theorem wpList_eqlI {P : Program} {ops : Array Oper} {rest : List Oper} {o : Oper} {a : Act} {w : World} {Q : Exit → Act → World → Prop} (hw : Region.wanted o (yielded ops a.tmps) = true) (T : TypeId) (x y : Operand) (ho : o.op = .binOp .eql T x y T) (cx cy : Array Value) (hx : a.eval x = .agg cx) (hy : a.eval y = .agg cy)
    (h0 : P.eqGuardType P.depth T = false) (B : Bool) (hrun : (binOp .eql T (.agg cx) (.agg cy)).run P w = .ok (.bool B) w) (h : wpList P ops Q rest (a.put o.dst (.bool B)) w) : wpList P ops Q (o :: rest) a w :=
  wpList_eqlS hw T x y ho cx cy hx hy h0 B hrun h
set_option maxHeartbeats 8000000 in
set_option maxRecDepth 100000 in
theorem exact_law (l : List Int) (bv : Value) (w : World) (hb0 : RdB w bv l) (hl : Bytes l) (hG0 : GlobW w) :
    Calls Tryz.prog 9 #[bv] w fun x w' => x = .returned (.bool true) ∧ Below w.heap.size w w' := by
  obtain ⟨ba, bc, rfl⟩ := hb0.slice
  obtain ⟨N, hN⟩ : ∃ N, l.length = N := ⟨_, rfl⟩
  rw [hN] at hb0 ⊢
  have hS := Lib.hid (Below.refl w.heap.size w)
  have bw := Lib.hid hb0
  have hG := Lib.hid hG0
  have hNl := Lib.hid hN
  clear hb0 hG0
  by_cases hbig : 1000 < N
  · have i1 : (1000 : Int) < (N : Int) := by omega
    clear hl
    go_enter Tryz.func9, Tryz.ntmps9
    go_wp2_with (go_at_call 37; (with_reducible refine (alive8 _ (hG.out.mono hS.out)).mono ?_); rintro e9 w4 ⟨rfl, q2⟩; replace hS := Lib.hid (hS.out.trans (Below.mono q2 hS.out.size)); clear q2)
    go_ret
    exact ⟨rfl, hS.out⟩
  have i1 : ¬ (1000 : Int) < (N : Int) := by omega
  by_cases h400 : 400 < N
  · have i2 : (400 : Int) < (N : Int) := by omega
    have hv : vd l = 3 := by unfold vd; rw [if_pos (by rw [hN]; exact h400)]
    have hO := Lib.hid (fun (wz : World) (h : RdB wz (.slice ba N bc) l) (hg : GlobW wz) => judgeOf_no l _ wz h hl hg 3 hv (by decide))
    have hF := Lib.hid (fun (wz : World) (h : RdB wz (.slice ba N bc) l) (hg : GlobW wz) => fine_no l _ wz h hl hg (by rw [hv]; decide))
    have di := Lib.hid zid_info
    have ds := Lib.hid (show ∀ x : Array Value, x = u8s (zerosB 32) → x.size = (u8s (zerosB 32)).size from fun x hx => by rw [hx])
    clear hl hv
    go_enter Tryz.func9, Tryz.ntmps9
    go_wp2_with (first
      | (go_at_call 35; (with_reducible refine (hO.out _ (bw.out.mono hS.out) (hG.out.mono hS.out)).mono ?_); rintro e9 w4 ⟨rfl, q2⟩; replace hS := Lib.hid (hS.out.trans (Below.mono q2 hS.out.size)); clear q2)
      | (refine wpList_store_row rfl 32 _ _ rfl w4.heap.size (zO.c (.slice none 0 0)) rfl rfl 32 _ (rowA w4 _ _) info_op rfl (op_one zO _ _ _) ?_)
      | (refine storeOver _ (w4.heap.size + 1) _ rfl 42 _ _ rfl (u8s (zerosB 32)) 42 ((setRow_other _ w4.heap.size (w4.heap.size + 1) _ (by omega)).trans (hn2 w4 _ _)) rfl rfl di.out (ds.out _ (by kernel_rfl)) (u8s_one _) ?_; intro wx hrx hbx0; have hbx := Lib.hid (show Below w4.heap.size w4 wx from (below_setRow' ((below_a w4 _).alloc (by simp) _) (Nat.le_refl _) _).trans (hbx0.mono (Nat.le_succ _))); replace hS := Lib.hid (hS.out.trans (Below.mono hbx.out hS.out.size)); have rO := Lib.hid ((hbx0.block w4.heap.size (Nat.lt_succ_self _)).trans (setRow_heap _ _ _ (zO.c (.slice none 0 0)) _ _ (rowA w4 _ _))); have rI := Lib.hid hrx; clear hrx hbx0 hbx)
      | (go_at_call 39; (with_reducible refine (hF.out _ (bw.out.mono hS.out) (hG.out.mono hS.out)).mono ?_); rintro e9 w4 ⟨rfl, q2⟩; replace hS := Lib.hid (hS.out.trans (Below.mono q2 hS.out.size)); clear q2)
      | (go_at_call 37; (with_reducible refine (alive8 _ (hG.out.mono hS.out)).mono ?_); rintro e9 w4 ⟨rfl, q2⟩; replace hS := Lib.hid (hS.out.trans (Below.mono q2 hS.out.size)); clear q2))
    go_ret
    exact ⟨rfl, hS.out⟩
  have i2 : ¬ (400 : Int) < (N : Int) := by omega
  have hN4 : ¬ 400 < l.length := by rw [hN]; exact h400
  have di := Lib.hid zid_info
  have ds := Lib.hid (show ∀ x : Array Value, x = u8s (zerosB 32) → x.size = (u8s (zerosB 32)).size from fun x hx => by rw [hx])
  cases hd : decO l with
  | none =>
    have hv : vd l = 2 := by unfold vd; rw [if_neg hN4, hd]
    have hO := Lib.hid (fun (wz : World) (h : RdB wz (.slice ba N bc) l) (hg : GlobW wz) => judgeOf_no l _ wz h hl hg 2 hv (by decide))
    have hF := Lib.hid (fun (wz : World) (h : RdB wz (.slice ba N bc) l) (hg : GlobW wz) => fine_no l _ wz h hl hg (by rw [hv]; decide))
    have hD := Lib.hid (fun (wz : World) (h : RdB wz (.slice ba N bc) l) => dec_none l hl (by omega) hd _ wz h)
    clear hl hv hd hN4 hN
    go_enter Tryz.func9, Tryz.ntmps9
    go_wp2_with (first
      | (go_at_call 35; (with_reducible refine (hO.out _ (bw.out.mono hS.out) (hG.out.mono hS.out)).mono ?_); rintro e9 w4 ⟨rfl, q2⟩; replace hS := Lib.hid (hS.out.trans (Below.mono q2 hS.out.size)); clear q2)
      | (refine wpList_store_row rfl 32 _ _ rfl w4.heap.size (zO.c (.slice none 0 0)) rfl rfl 32 _ (rowA w4 _ _) info_op rfl (op_one zO _ _ _) ?_)
      | (refine storeOver _ (w4.heap.size + 1) _ rfl 42 _ _ rfl (u8s (zerosB 32)) 42 ((setRow_other _ w4.heap.size (w4.heap.size + 1) _ (by omega)).trans (hn2 w4 _ _)) rfl rfl di.out (ds.out _ (by kernel_rfl)) (u8s_one _) ?_; intro wx hrx hbx0; have hbx := Lib.hid (show Below w4.heap.size w4 wx from (below_setRow' ((below_a w4 _).alloc (by simp) _) (Nat.le_refl _) _).trans (hbx0.mono (Nat.le_succ _))); replace hS := Lib.hid (hS.out.trans (Below.mono hbx.out hS.out.size)); have rO := Lib.hid ((hbx0.block w4.heap.size (Nat.lt_succ_self _)).trans (setRow_heap _ _ _ (zO.c (.slice none 0 0)) _ _ (rowA w4 _ _))); have rI := Lib.hid hrx; clear hrx hbx0 hbx)
      | (go_at_call 15; (with_reducible refine (hD.out _ (bw.out.mono hS.out)).mono ?_); rintro e9 w4 ⟨rfl, q2⟩; replace hS := Lib.hid (hS.out.trans (Below.mono q2 hS.out.size)); clear q2)
      | (refine storeNew _ rfl 32 _ _ rfl (zO.c (.slice none 0 0)) 32 rfl rfl info_op rfl (op_one zO _ _ _) ?_; intro wx hrx hbx; replace hS := Lib.hid (hS.out.trans (Below.mono hbx hS.out.size)); have rq := Lib.hid hrx; clear hrx hbx)
      | (go_at_call 39; (with_reducible refine (hF.out _ (bw.out.mono hS.out) (hG.out.mono hS.out)).mono ?_); rintro e9 w4 ⟨rfl, q2⟩; replace hS := Lib.hid (hS.out.trans (Below.mono q2 hS.out.size)); clear q2)
      | (go_at_call 37; (with_reducible refine (alive8 _ (hG.out.mono hS.out)).mono ?_); rintro e9 w4 ⟨rfl, q2⟩; replace hS := Lib.hid (hS.out.trans (Below.mono q2 hS.out.size)); clear q2))
    go_ret
    exact ⟨rfl, hS.out⟩
  | some o =>
    obtain ⟨e1, fo, c0, hF0⟩ := decO_back hl hd
    have hD := Lib.hid (fun (wz : World) (h : RdB wz (.slice ba N bc) l) => dec_enc o fo hF0 c0 _ wz (by rw [e1]; exact h))
    have hV := Lib.hid (fun (wz : World) (v : Value) (h : RdI wz v o.n o.F) (hg : GlobW wz) => opVerify_any o fo v wz h hg)
    by_cases h0 : verO o = 0
    · have hv : vd l = 0 := by unfold vd; rw [if_neg hN4, hd]; simp only; rw [if_pos h0]
      have hO := Lib.hid (fun (wz : World) (h : RdB wz (.slice ba N bc) l) (hg : GlobW wz) => judgeOf_yes l _ wz h hl hg o hd hv)
      have hF := Lib.hid (fun (wz : World) (h : RdB wz (.slice ba N bc) l) (hg : GlobW wz) => fine_yes l _ wz h hl hg hv)
      have hE := Lib.hid (fun (wz : World) (v : Value) (h : RdI wz v o.n o.F) => (show Calls Tryz.prog 14 #[.agg (o.c v)] wz fun e w' => ∃ sv, e = .returned (.tuple #[sv, .int .i64 0]) ∧ OwnB wz.heap.size 5 w' sv l ∧ Below wz.heap.size wz w' from by rw [← e1]; exact opEncode_ok o fo v wz h c0))
      have hsu := Lib.hid (fun (wz : World) (h : RdB wz (.slice ba N bc) l) (hg : GlobW wz) => (show Calls Tryz.prog 17 #[.slice ba N bc] wz fun e w' => e = .returned (.tuple #[.agg (u8s (shaF l)), .int .i64 0]) ∧ Below wz.heap.size wz w' from by
        obtain ⟨Tg, Tf, g1, g2⟩ := hg
        exact sum_any (shaF l) _ l wz h hl (by omega) rfl g1 g2))
      have hsm := Lib.hid (fun (wz : World) (v1 v2 : Value) (h : RdI wz v1 o.n o.F) (h2 : RdI wz v2 o.n o.F) => sameO_yes o (Nat.le_trans (chk_zero c0).1 (by decide)) v1 v2 wz h h2)
      have hDl : (shaF l).length = 32 := shaF_length _
      rw [h0] at hV
      have hN6 := Lib.hid (show N ≤ 400 by omega)
      clear hl hv hd hN4 hN e1 fo c0 hF0 h0 di ds
      generalize shaF l = D at *
      have di := Lib.hid (show (Tryz.prog.info? 42).map (·.size) = some (u8s D).size by rw [u8s_size, hDl]; kernel_rfl)
      have ds := Lib.hid (show ∀ x : Array Value, x = u8s (zerosB 32) → x.size = (u8s D).size from fun x hx => by rw [hx, u8s_size, u8s_size, hDl, zerosB_length])
      have heq := Lib.hid (fun wz => (eql_id D D hDl hDl wz).trans (by rw [decide_eq_true rfl]))
      clear hDl
      go_enter Tryz.func9, Tryz.ntmps9
      go_upto_region 4 with (first
        | (go_at_call 35; (with_reducible refine (hO.out _ (bw.out.mono hS.out) (hG.out.mono hS.out)).mono ?_); rintro e9 w4 ⟨pa, pc, rfl, q1, q2⟩; (try replace xO := Lib.hid (xO.out.mono q2)); replace hS := Lib.hid (hS.out.trans (Below.mono q2 hS.out.size)); have xO := Lib.hid q1; clear q1; clear q2)
        | (refine wpList_store_row rfl 32 _ _ rfl w4.heap.size (o.c (.slice pa o.n pc)) rfl rfl 32 _ (rowA w4 _ _) info_op rfl (op_one o pa o.n pc) ?_)
        | (refine storeOver _ (w4.heap.size + 1) _ rfl 42 _ _ rfl (u8s D) 42 ((setRow_other _ w4.heap.size (w4.heap.size + 1) _ (by omega)).trans (hn2 w4 _ _)) rfl rfl di.out (ds.out _ (by kernel_rfl)) (u8s_one _) ?_; intro wx hrx hbx0; have hbx := Lib.hid (show Below w4.heap.size w4 wx from (below_setRow' ((below_a w4 _).alloc (by simp) _) (Nat.le_refl _) _).trans (hbx0.mono (Nat.le_succ _))); (try replace xO := Lib.hid (xO.out.mono hbx.out)); replace hS := Lib.hid (hS.out.trans (Below.mono hbx.out hS.out.size)); have rO := Lib.hid ((hbx0.block w4.heap.size (Nat.lt_succ_self _)).trans (setRow_heap _ _ _ (o.c (.slice pa o.n pc)) _ _ (rowA w4 _ _))); have rI := Lib.hid hrx; clear hrx hbx0 hbx))
      go_upto_region 9 with (first
        | (go_at_call 15; (with_reducible refine (hD.out _ (bw.out.mono hS.out)).mono ?_); rintro e9 w4 ⟨qa, qc, rfl, q1, q2⟩; (try replace rO := Lib.hid (rowB rO.out q2 (Array.getElem?_eq_some_iff.1 rO.out).1)); (try replace rI := Lib.hid (rowB rI.out q2 (Array.getElem?_eq_some_iff.1 rI.out).1)); (try replace xO := Lib.hid (xO.out.mono q2)); replace hS := Lib.hid (hS.out.trans (Below.mono q2 hS.out.size)); have xP := Lib.hid (heldI_now q1); clear q1; clear q2)
        | (refine storeNew _ rfl 32 _ _ rfl (o.c (.slice qa o.n qc)) 32 rfl rfl info_op rfl (op_one o qa o.n qc) ?_; intro wx hrx hbx; (try replace rO := Lib.hid (rowB rO.out hbx (Array.getElem?_eq_some_iff.1 rO.out).1)); (try replace rI := Lib.hid (rowB rI.out hbx (Array.getElem?_eq_some_iff.1 rI.out).1)); (try replace xO := Lib.hid (xO.out.mono hbx)); (try replace xP := Lib.hid (xP.out.mono hbx)); replace hS := Lib.hid (hS.out.trans (Below.mono hbx hS.out.size)); have rP := Lib.hid hrx; clear hrx hbx))
      go_upto_region 11 with (first
        | (refine wpList_load_row_g rfl 32 _ rfl _ rfl 32 (o.c (.slice qa o.n qc)) (0, 0) _ rP.out Tryz.underlying32 rfl info_op ?_)
        | (go_at_call 25; (with_reducible refine (hV.out _ _ xP.out (hG.out.mono hS.out)).mono ?_); rintro e9 w4 ⟨rfl, q2⟩; (try replace rO := Lib.hid (rowB rO.out q2 (Array.getElem?_eq_some_iff.1 rO.out).1)); (try replace rI := Lib.hid (rowB rI.out q2 (Array.getElem?_eq_some_iff.1 rI.out).1)); (try replace rP := Lib.hid (rowB rP.out q2 (Array.getElem?_eq_some_iff.1 rP.out).1)); (try replace xO := Lib.hid (xO.out.mono q2)); (try replace xP := Lib.hid (xP.out.mono q2)); replace hS := Lib.hid (hS.out.trans (Below.mono q2 hS.out.size)); clear q2))
      go_upto_region 12 with (first
        | (refine wpList_load_row_g rfl 32 _ rfl _ rfl 32 (o.c (.slice pa o.n pc)) (0, 0) _ rO.out Tryz.underlying32 rfl info_op ?_)
        | (go_at_call 14; (with_reducible refine (hE.out _ _ xO.out).mono ?_); rintro e9 w4 ⟨sv, rfl, q1, q2⟩; (try replace rO := Lib.hid (rowB rO.out q2 (Array.getElem?_eq_some_iff.1 rO.out).1)); (try replace rI := Lib.hid (rowB rI.out q2 (Array.getElem?_eq_some_iff.1 rI.out).1)); (try replace rP := Lib.hid (rowB rP.out q2 (Array.getElem?_eq_some_iff.1 rP.out).1)); (try replace xO := Lib.hid (xO.out.mono q2)); (try replace xP := Lib.hid (xP.out.mono q2)); replace hS := Lib.hid (hS.out.trans (Below.mono q2 hS.out.size)); have xC := Lib.hid q1.rd; clear q1; clear q2))
      obtain ⟨ca, cc, hsv⟩ := xC.out.slice
      subst hsv
      rw [hNl.out] at xC
      rw [hNl.out]
      go_upto_region 13 with (first
        | (go_at_call 17; (with_reducible refine (hsu.out _ (bw.out.mono hS.out) (hG.out.mono hS.out)).mono ?_); rintro e9 w4 ⟨rfl, q2⟩; (try replace rO := Lib.hid (rowB rO.out q2 (Array.getElem?_eq_some_iff.1 rO.out).1)); (try replace rI := Lib.hid (rowB rI.out q2 (Array.getElem?_eq_some_iff.1 rI.out).1)); (try replace rP := Lib.hid (rowB rP.out q2 (Array.getElem?_eq_some_iff.1 rP.out).1)); (try replace xO := Lib.hid (xO.out.mono q2)); (try replace xP := Lib.hid (xP.out.mono q2)); (try replace xC := Lib.hid (xC.out.mono q2)); replace hS := Lib.hid (hS.out.trans (Below.mono q2 hS.out.size)); clear q2)
        | (refine storeNew _ rfl 42 _ _ rfl (u8s D) 42 rfl rfl di.out (ds.out _ (by kernel_rfl)) (u8s_one _) ?_; intro wx hrx hbx; (try replace rO := Lib.hid (rowB rO.out hbx (Array.getElem?_eq_some_iff.1 rO.out).1)); (try replace rI := Lib.hid (rowB rI.out hbx (Array.getElem?_eq_some_iff.1 rI.out).1)); (try replace rP := Lib.hid (rowB rP.out hbx (Array.getElem?_eq_some_iff.1 rP.out).1)); (try replace xO := Lib.hid (xO.out.mono hbx)); (try replace xP := Lib.hid (xP.out.mono hbx)); (try replace xC := Lib.hid (xC.out.mono hbx)); replace hS := Lib.hid (hS.out.trans (Below.mono hbx hS.out.size)); have rS := Lib.hid hrx; clear hrx hbx))
      go_wp2_with (first
        | (go_at_call 39; (with_reducible refine (hF.out _ (bw.out.mono hS.out) (hG.out.mono hS.out)).mono ?_); rintro e9 w4 ⟨rfl, q2⟩; (try replace rO := Lib.hid (rowB rO.out q2 (Array.getElem?_eq_some_iff.1 rO.out).1)); (try replace rI := Lib.hid (rowB rI.out q2 (Array.getElem?_eq_some_iff.1 rI.out).1)); (try replace rP := Lib.hid (rowB rP.out q2 (Array.getElem?_eq_some_iff.1 rP.out).1)); (try replace rS := Lib.hid (rowB rS.out q2 (Array.getElem?_eq_some_iff.1 rS.out).1)); (try replace xO := Lib.hid (xO.out.mono q2)); (try replace xP := Lib.hid (xP.out.mono q2)); (try replace xC := Lib.hid (xC.out.mono q2)); replace hS := Lib.hid (hS.out.trans (Below.mono q2 hS.out.size)); clear q2)
        | (refine wpList_load_row_g rfl 32 _ rfl _ rfl 32 (o.c (.slice pa o.n pc)) (0, 0) _ rO.out Tryz.underlying32 rfl info_op ?_)
        | (refine wpList_load_row_g rfl 32 _ rfl _ rfl 32 (o.c (.slice qa o.n qc)) (0, 0) _ rP.out Tryz.underlying32 rfl info_op ?_)
        | (go_at_call 18; (with_reducible refine (hsm.out _ _ _ xO.out xP.out).mono ?_); rintro e9 w4 ⟨rfl, q2⟩; (try replace rO := Lib.hid (rowB rO.out q2 (Array.getElem?_eq_some_iff.1 rO.out).1)); (try replace rI := Lib.hid (rowB rI.out q2 (Array.getElem?_eq_some_iff.1 rI.out).1)); (try replace rP := Lib.hid (rowB rP.out q2 (Array.getElem?_eq_some_iff.1 rP.out).1)); (try replace rS := Lib.hid (rowB rS.out q2 (Array.getElem?_eq_some_iff.1 rS.out).1)); (try replace xO := Lib.hid (xO.out.mono q2)); (try replace xP := Lib.hid (xP.out.mono q2)); (try replace xC := Lib.hid (xC.out.mono q2)); replace hS := Lib.hid (hS.out.trans (Below.mono q2 hS.out.size)); clear q2)
        | (go_at_call 19; (with_reducible refine (same_true _ _ l _ (by have := hNl.out; have := hN6.out; omega) (bw.out.mono hS.out) xC.out).mono ?_); rintro e9 w4 ⟨rfl, q2⟩; (try replace rO := Lib.hid (rowB rO.out q2 (Array.getElem?_eq_some_iff.1 rO.out).1)); (try replace rI := Lib.hid (rowB rI.out q2 (Array.getElem?_eq_some_iff.1 rI.out).1)); (try replace rP := Lib.hid (rowB rP.out q2 (Array.getElem?_eq_some_iff.1 rP.out).1)); (try replace rS := Lib.hid (rowB rS.out q2 (Array.getElem?_eq_some_iff.1 rS.out).1)); (try replace xO := Lib.hid (xO.out.mono q2)); (try replace xP := Lib.hid (xP.out.mono q2)); (try replace xC := Lib.hid (xC.out.mono q2)); replace hS := Lib.hid (hS.out.trans (Below.mono q2 hS.out.size)); clear q2)
        | (refine wpList_load_row_g rfl 42 _ rfl _ rfl 42 (u8s D) (0, 0) _ rI.out Tryz.underlying42 rfl di.out ?_)
        | (refine wpList_load_row_g rfl 42 _ rfl _ rfl 42 (u8s D) (0, 0) _ rS.out Tryz.underlying42 rfl di.out ?_)
        | (refine wpList_eqlI rfl 42 _ _ rfl (u8s D) (u8s D) rfl rfl id_guard true (heq.out _) ?_)
        | (go_at_call 37; (with_reducible refine (alive8 _ (hG.out.mono hS.out)).mono ?_); rintro e9 w4 ⟨rfl, q2⟩; (try replace rO := Lib.hid (rowB rO.out q2 (Array.getElem?_eq_some_iff.1 rO.out).1)); (try replace rI := Lib.hid (rowB rI.out q2 (Array.getElem?_eq_some_iff.1 rI.out).1)); (try replace rP := Lib.hid (rowB rP.out q2 (Array.getElem?_eq_some_iff.1 rP.out).1)); (try replace rS := Lib.hid (rowB rS.out q2 (Array.getElem?_eq_some_iff.1 rS.out).1)); (try replace xO := Lib.hid (xO.out.mono q2)); (try replace xP := Lib.hid (xP.out.mono q2)); (try replace xC := Lib.hid (xC.out.mono q2)); replace hS := Lib.hid (hS.out.trans (Below.mono q2 hS.out.size)); clear q2))
      go_ret
      exact ⟨rfl, hS.out⟩
    · have hv : vd l = 4 := by unfold vd; rw [if_neg hN4, hd]; simp only; rw [if_neg h0]
      have hO := Lib.hid (fun (wz : World) (h : RdB wz (.slice ba N bc) l) (hg : GlobW wz) => judgeOf_no l _ wz h hl hg 4 hv (by decide))
      have hF := Lib.hid (fun (wz : World) (h : RdB wz (.slice ba N bc) l) (hg : GlobW wz) => fine_no l _ wz h hl hg (by rw [hv]; decide))
      have hVb : (verO o != 0) = true := by simpa using h0
      generalize verO o = VE at *
      clear hl hv hd hN4 hN e1 fo c0 hF0 h0
      go_enter Tryz.func9, Tryz.ntmps9
      go_upto_region 9 with (first
        | (go_at_call 35; (with_reducible refine (hO.out _ (bw.out.mono hS.out) (hG.out.mono hS.out)).mono ?_); rintro e9 w4 ⟨rfl, q2⟩; replace hS := Lib.hid (hS.out.trans (Below.mono q2 hS.out.size)); clear q2)
        | (refine wpList_store_row rfl 32 _ _ rfl w4.heap.size (zO.c (.slice none 0 0)) rfl rfl 32 _ (rowA w4 _ _) info_op rfl (op_one zO _ _ _) ?_)
        | (refine storeOver _ (w4.heap.size + 1) _ rfl 42 _ _ rfl (u8s (zerosB 32)) 42 ((setRow_other _ w4.heap.size (w4.heap.size + 1) _ (by omega)).trans (hn2 w4 _ _)) rfl rfl di.out (ds.out _ (by kernel_rfl)) (u8s_one _) ?_; intro wx hrx hbx0; have hbx := Lib.hid (show Below w4.heap.size w4 wx from (below_setRow' ((below_a w4 _).alloc (by simp) _) (Nat.le_refl _) _).trans (hbx0.mono (Nat.le_succ _))); replace hS := Lib.hid (hS.out.trans (Below.mono hbx.out hS.out.size)); have rO := Lib.hid ((hbx0.block w4.heap.size (Nat.lt_succ_self _)).trans (setRow_heap _ _ _ (zO.c (.slice none 0 0)) _ _ (rowA w4 _ _))); have rI := Lib.hid hrx; clear hrx hbx0 hbx)
        | (go_at_call 15; (with_reducible refine (hD.out _ (bw.out.mono hS.out)).mono ?_); rintro e9 w4 ⟨qa, qc, rfl, q1, q2⟩; replace hS := Lib.hid (hS.out.trans (Below.mono q2 hS.out.size)); have xP := Lib.hid (heldI_now q1); clear q1; clear q2)
        | (refine storeNew _ rfl 32 _ _ rfl (o.c (.slice qa o.n qc)) 32 rfl rfl info_op rfl (op_one o qa o.n qc) ?_; intro wx hrx hbx; (try replace xP := Lib.hid (xP.out.mono hbx)); replace hS := Lib.hid (hS.out.trans (Below.mono hbx hS.out.size)); have rP := Lib.hid hrx; clear hrx hbx))
      go_wp2_with (first
        | (refine wpList_load_row_g rfl 32 _ rfl _ rfl 32 (o.c (.slice qa o.n qc)) (0, 0) _ rP.out Tryz.underlying32 rfl info_op ?_)
        | (go_at_call 25; (with_reducible refine (hV.out _ _ xP.out (hG.out.mono hS.out)).mono ?_); rintro e9 w4 ⟨rfl, q2⟩; (try replace rP := Lib.hid (rowB rP.out q2 (Array.getElem?_eq_some_iff.1 rP.out).1)); (try replace xP := Lib.hid (xP.out.mono q2)); replace hS := Lib.hid (hS.out.trans (Below.mono q2 hS.out.size)); clear q2)
        | (go_at_call 39; (with_reducible refine (hF.out _ (bw.out.mono hS.out) (hG.out.mono hS.out)).mono ?_); rintro e9 w4 ⟨rfl, q2⟩; (try replace rP := Lib.hid (rowB rP.out q2 (Array.getElem?_eq_some_iff.1 rP.out).1)); (try replace xP := Lib.hid (xP.out.mono q2)); replace hS := Lib.hid (hS.out.trans (Below.mono q2 hS.out.size)); clear q2)
        | (go_at_call 37; (with_reducible refine (alive8 _ (hG.out.mono hS.out)).mono ?_); rintro e9 w4 ⟨rfl, q2⟩; (try replace rP := Lib.hid (rowB rP.out q2 (Array.getElem?_eq_some_iff.1 rP.out).1)); (try replace xP := Lib.hid (xP.out.mono q2)); replace hS := Lib.hid (hS.out.trans (Below.mono q2 hS.out.size)); clear q2))
      go_ret
      exact ⟨rfl, hS.out⟩
end Go.Proofs.YtoknefeciopdpaaGreatDoor.wir.val

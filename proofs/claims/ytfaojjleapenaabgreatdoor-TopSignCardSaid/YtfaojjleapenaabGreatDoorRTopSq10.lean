/- Texts that the row stands on, part 10. -/
import Derived.Test.YtfaojjleapenaabGreatDoorRTopSq09
import Derived.Test.YtfaojjleapenaabGreatDoorTie
import Derived.LaidMore
import Derived.OpenVars
import Derived.Stop.Joined
import Derived.ChangeSlices
import Derived.Lib.SmallJoins
import Derived.ChangeMaps5
import Derived.Deep.Strs
namespace Go.Proofs.YtfaojjleapenaabGreatDoor.wir.val.top
open Go.RowKit Go.YtfaojjleapenaabGreatDoor
set_option linter.unusedVariables false
set_option maxHeartbeats 16000000 in
set_option maxRecDepth 100000 in
theorem framed08_3 (T : Od) (fT : T.Fit) (hF : T.F.length = 32 * T.n) (cT : chkO T = 0) (vT : verO T = 0) (C : List Int) (hC : Bytes C) (hlen : C.length = (encO T).length) (q : Od) (Y : List Int) (V : Int) (hY : Y.length = 32) (hVd : vd C = V)
    (hO2 : ∀ (wz : World) (v : Value), RdB wz v C → GlobW wz → Calls Tryz.prog 9 #[v] wz fun e w' => ∃ (a : Option Addr) (c : Nat), e = .returned (.tuple #[.agg (q.c (.slice a q.n c)), .agg (u8s Y), .int .u8 V]) ∧ RdI w' (.slice a q.n c) q.n q.F ∧ Below wz.heap.size wz w')
    (hV : V = 0) (hq20 : q.n ≤ 20) (hno : (sameM q T && sigE q T) = false) (hBC : sameF (encO T) C = false) (pv bv cv : Value) (w : World) (hp : RdI w pv T.n T.F) (hb : RdB w bv (encO T)) (hcv : RdB w cv C) (hG0 : GlobW w) :
    Calls Tryz.prog 30 #[.agg (T.c pv), .agg (u8s (shaF (encO T))), bv, cv] w fun e w' => e = .returned (.bool true) ∧ Below w.heap.size w w' := by
  obtain ⟨v0, lB, bB⟩ := vd_good fT hF cT vT
  have hd := decO_enc fT hF cT
  have lC : C.length ≤ 400 := by omega
  have f1 := Lib.hid (fun (wz : World) (ba ca : Option Addr) (bn bc cn cc : Nat) (h1 : RdB wz (.slice ba bn bc) (encO T)) (h2 : RdB wz (.slice ca cn cc) C) => (show Calls Tryz.prog 58 #[.agg #[.int .u8 5, .int .u64 0, .slice none 0 0, .slice (some ⟨wz.heap.size, 0, none⟩) 2 2]] (wz.alloc (.cells #[.slice ba bn bc, .slice ca cn cc] 22)) fun e w' => ∃ sv, e = .returned (.tuple #[sv, .int .i64 0]) ∧ RdB w' sv (frm.frB (twoF (encO T) C)) ∧ Below wz.heap.size wz w' from by
    have hal := below_a wz (.cells #[.slice ba bn bc, .slice ca cn cc] 22)
    refine (frm.frEncode_ok (twoF (encO T) C) (twoF_fit _ _ bB hC lB lC) (twoF_ok _ _ lB lC) (.slice none 0 0) (.slice (some ⟨wz.heap.size, 0, none⟩) 2 2) _ (.inl ⟨none, 0, rfl, fun _ => rfl, rfl, rfl⟩) (rdS_frm (rd_pairS (.inr ⟨_, heap_alloc_new wz _⟩) (h1.mono hal) (h2.mono hal)))).mono ?_
    rintro e w' ⟨sv, he, ho, hbb⟩
    exact ⟨sv, he, ho.rd, hal.trans (hbb.mono (by simp))⟩))
  have f2 := Lib.hid (fun (wz : World) (v : Value) (h : RdB wz v (frm.frB (twoF (encO T) C))) => (show Calls Tryz.prog 59 #[v] wz fun e w' => ∃ (ia : Option Addr) (ic : Nat) (oa : Option Addr) (oc : Nat), e = .returned (.tuple #[.agg #[.int .u8 5, .int .u64 0, .slice ia 0 ic, .slice oa 2 oc], .int .i64 0]) ∧ RdS w' (.slice oa 2 oc) [encO T, C] ∧ Below wz.heap.size wz w' from by
    refine (frm.parse_any _ v wz h (twoF_bytes _ _ bB hC lB lC)).mono ?_
    rintro e w' ⟨hbb, _, h3⟩
    obtain ⟨iv, ov, he, hi, ho⟩ := h3 _ (frm.parse_fr (twoF_fit _ _ bB hC lB lC) (twoF_ok _ _ lB lC))
    have hi2 : RdI w' iv 0 [] := heldI_nowT hi
    have ho2 : RdS w' ov [encO T, C] := ho w' (fun _ _ _ => rfl) (Nat.le_refl _)
    obtain ⟨ia, ic, rfl⟩ := hi2.slice
    obtain ⟨oa, oc, rfl⟩ := ho2.slice
    exact ⟨ia, ic, oa, oc, he, ho2, hbb⟩))
  have f3 := Lib.hid (fun (wz : World) (a : Option Addr) (c : Nat) (h : RdS wz (.slice a 2 c) [encO T, C]) (hg : GlobW wz) => (show Calls Tryz.prog 6 #[.slice a 2 c] wz fun e w' => ∃ g, e = .returned (.tuple #[.slice (some ⟨g, 0, none⟩) 2 2, .int .i64 0]) ∧ w'.heap[g]? = some (.cells #[.int .u8 0, .int .u8 V] 5 (0, 0)) ∧ Below wz.heap.size wz w' from by
    refine (many_any [encO T, C] (.slice a 2 c) wz h (fun i => by rw [nthL_two]; split; exact bB; split; exact hC; exact bytes_nil) (by show 2 ≤ 60; decide) hg).mono ?_
    rintro e w' ⟨he, h1, h2⟩
    refine ⟨_, he, ?_, h2⟩
    rw [h1]
    show some (Obj.cells #[.int .u8 (vd (encO T)), .int .u8 (vd C)] 5 (0, 0)) = _
    rw [v0, hVd]))
  have f4 := Lib.hid (fun (wz : World) (v : Value) (h : RdB wz v (encO T)) (hg : GlobW wz) => judgeOf_yesT (encO T) v wz h bB hg T hd v0)
  have f5 := Lib.hid hO2
  have f6 := Lib.hid (fun (wz : World) (v1 v2 : Value) (h : RdI wz v1 T.n T.F) (h2 : RdI wz v2 T.n T.F) => sameO_yes T (Nat.le_trans (chk_zero cT).1 (by decide)) v1 v2 wz h h2)
  have f7 := Lib.hid (fun (wz : World) (va vb : Value) (h1 : RdB wz va (encO T)) (h2 : RdB wz vb C) => (same_any va vb (encO T) C wz (by omega) h1 h2).mono (R' := fun e w' => e = .returned (.bool false) ∧ Below wz.heap.size wz w') (fun e w' ⟨a1, a2⟩ => ⟨by rw [a1, hBC], a2.below (Below.refl _ _)⟩))
  have f8 := Lib.hid (fun (wz : World) (v1 v2 : Value) (h : RdI wz v1 q.n q.F) (h2 : RdI wz v2 T.n T.F) => (show Calls Tryz.prog 11 #[.agg (q.c v1), .agg (T.c v2)] wz fun e w' => e = .returned (.bool false) ∧ Below wz.heap.size wz w' from by rw [← hno]; exact sameO_gen q T hq20 v1 v2 wz h h2))
  have hDl : (shaF (encO T)).length = 32 := shaF_length _
  subst hV
  generalize shaF (encO T) = D at *
  generalize frm.frB (twoF (encO T) C) = FB at *
  have di := Lib.hid (show (Tryz.prog.info? 43).map (·.size) = some (u8s D).size by rw [u8s_size, hDl]; kernel_rfl)
  have ds := Lib.hid (show ∀ x : Array Value, x = u8s (zerosB 32) → x.size = (u8s D).size from fun x hx => by rw [hx, u8s_size, u8s_size, hDl, zerosB_length])
  have di2 := Lib.hid (show (Tryz.prog.info? 43).map (·.size) = some (u8s Y).size by rw [u8s_size, hY]; kernel_rfl)
  have ds2 := Lib.hid (show ∀ x : Array Value, x = u8s (zerosB 32) → x.size = (u8s Y).size from fun x hx => by rw [hx, u8s_size, u8s_size, hY, zerosB_length])
  have hneq := Lib.hid (show ∀ wz, (binOp .neq 43 (.agg (u8s D)) (.agg (u8s D))).run Tryz.prog wz = .ok (.bool false) wz from fun wz => by rw [neq_idT D D hDl hDl wz, decide_eq_true rfl]; rfl)
  obtain ⟨pa, pc, rfl⟩ := hp.slice
  obtain ⟨ba, bc, rfl⟩ := hb.slice
  obtain ⟨ca, cc, rfl⟩ := hcv.slice
  rw [hlen] at hcv ⊢
  obtain ⟨W, hW⟩ : ∃ W, W = (w.alloc (.cells (T.c (.slice pa T.n pc)) 41)).alloc (.cells (u8s D) 43) := ⟨_, rfl⟩
  have hS0 := Lib.hid (show Below w.heap.size w W by rw [hW]; exact ((Below.refl w.heap.size w).alloc (Nat.le_refl _) _).alloc (by simp) _)
  have rT := Lib.hid (show W.heap[w.heap.size]? = some (.cells (T.c (.slice pa T.n pc)) 41 (0, 0)) by rw [hW]; exact rowA w _ _)
  have rid := Lib.hid (show W.heap[w.heap.size + 1]? = some (.cells (u8s D) 43 (0, 0)) by rw [hW]; exact hn2 w _ _)
  have xT := Lib.hid (hp.mono hS0.out)
  have xB := Lib.hid (hb.mono hS0.out)
  have xC := Lib.hid (hcv.mono hS0.out)
  have hG := Lib.hid (hG0.mono hS0.out)
  obtain ⟨N, hN⟩ : ∃ N, (encO T).length = N := ⟨_, rfl⟩
  rw [hN] at xB xC ⊢
  have hN := Lib.hid hN
  generalize encO T = B at *
  clear hp hb hcv hG0 v0 lB bB hd lC hC hlen hY hVd hO2 hDl fT hF cT vT hBC hq20 hno
  go_enter Tryz.func30, Tryz.ntmps30
  go_upto_region 1 with fail
  rw [← hW]
  clear hW
  go_upto_region 2 with (go_at_call 58; (with_reducible refine (f1.out _ _ _ _ _ _ _ xB.out xC.out).mono ?_); rintro e9 w4 ⟨sv, rfl, q1, q2⟩; (try replace rT := Lib.hid (rowB rT.out q2 (Array.getElem?_eq_some_iff.1 rT.out).1)); (try replace rid := Lib.hid (rowB rid.out q2 (Array.getElem?_eq_some_iff.1 rid.out).1)); (try replace xT := Lib.hid (xT.out.mono q2)); (try replace xB := Lib.hid (xB.out.mono q2)); (try replace xC := Lib.hid (xC.out.mono q2)); (try replace hG := Lib.hid (hG.out.mono q2)); replace hS0 := Lib.hid (hS0.out.trans (Below.mono q2 hS0.out.size)); have xF := Lib.hid q1; clear q1; clear q2)
  go_upto_region 3 with (first
    | (go_at_call 59; (with_reducible refine (f2.out _ _ xF.out).mono ?_); rintro e9 w4 ⟨ia, ic, oa, oc, rfl, q1, q2⟩; (try replace rT := Lib.hid (rowB rT.out q2 (Array.getElem?_eq_some_iff.1 rT.out).1)); (try replace rid := Lib.hid (rowB rid.out q2 (Array.getElem?_eq_some_iff.1 rid.out).1)); (try replace xT := Lib.hid (xT.out.mono q2)); (try replace xB := Lib.hid (xB.out.mono q2)); (try replace xC := Lib.hid (xC.out.mono q2)); (try replace hG := Lib.hid (hG.out.mono q2)); (try replace xF := Lib.hid (xF.out.mono q2)); replace hS0 := Lib.hid (hS0.out.trans (Below.mono q2 hS0.out.size)); have xS := Lib.hid q1; clear q1; clear q2)
    | (refine storeNew _ rfl 105 _ _ rfl #[.int .u8 5, .int .u64 0, .slice ia 0 ic, .slice oa 2 oc] 105 rfl rfl info_frameT rfl (by simp [Value.oneCell']) ?_; intro wx hrx hbx; (try replace rT := Lib.hid (rowB rT.out hbx (Array.getElem?_eq_some_iff.1 rT.out).1)); (try replace rid := Lib.hid (rowB rid.out hbx (Array.getElem?_eq_some_iff.1 rid.out).1)); (try replace xT := Lib.hid (xT.out.mono hbx)); (try replace xB := Lib.hid (xB.out.mono hbx)); (try replace xC := Lib.hid (xC.out.mono hbx)); (try replace hG := Lib.hid (hG.out.mono hbx)); (try replace xF := Lib.hid (xF.out.mono hbx)); (try replace xS := Lib.hid (xS.out.mono hbx)); replace hS0 := Lib.hid (hS0.out.trans (Below.mono hbx hS0.out.size)); have rF := Lib.hid hrx; clear hrx hbx))
  clear xF
  have c3 := cell_of_row _ _ 3 _ _ _ rF.out
  replace c3 : wx.cell? ⟨_, 3, none⟩ = some (.slice oa 2 oc) := c3
  go_upto_region 6 with (go_at_call 6; (with_reducible refine (f3.out _ _ _ xS.out hG.out).mono ?_); rintro e9 w4 ⟨gv, rfl, q1, q2⟩; (try replace rT := Lib.hid (rowB rT.out q2 (Array.getElem?_eq_some_iff.1 rT.out).1)); (try replace rid := Lib.hid (rowB rid.out q2 (Array.getElem?_eq_some_iff.1 rid.out).1)); (try replace rF := Lib.hid (rowB rF.out q2 (Array.getElem?_eq_some_iff.1 rF.out).1)); (try replace xT := Lib.hid (xT.out.mono q2)); (try replace xB := Lib.hid (xB.out.mono q2)); (try replace xC := Lib.hid (xC.out.mono q2)); (try replace hG := Lib.hid (hG.out.mono q2)); (try replace xS := Lib.hid (xS.out.mono q2)); replace hS0 := Lib.hid (hS0.out.trans (Below.mono q2 hS0.out.size)); have rv := Lib.hid q1; clear q1; clear q2)
  clear c3
  have c3 := cell_of_row _ _ 3 _ _ _ rF.out
  replace c3 : w4.cell? ⟨_, 3, none⟩ = some (.slice oa 2 oc) := c3
  obtain ⟨bs, os, hoa, hbs, s0, hs0, rs0⟩ := rdS_at2 xS.out 0 (by show 0 < 2; decide)
  subst hoa
  rw [Nat.add_zero] at hs0
  replace rs0 : RdB w4 s0 B := rs0
  obtain ⟨sa, sc, rfl⟩ := rs0.slice
  rw [hN.out] at rs0 hs0
  have rs0 := Lib.hid rs0
  clear xS hbs
  go_upto_region 7 with (first
    | (go_at_call 9; (with_reducible refine (f4.out _ _ rs0.out hG.out).mono ?_); rintro e9 w4 ⟨ya, yc, rfl, q1, q2⟩; (try replace rT := Lib.hid (rowB rT.out q2 (Array.getElem?_eq_some_iff.1 rT.out).1)); (try replace rid := Lib.hid (rowB rid.out q2 (Array.getElem?_eq_some_iff.1 rid.out).1)); (try replace rF := Lib.hid (rowB rF.out q2 (Array.getElem?_eq_some_iff.1 rF.out).1)); (try replace rv := Lib.hid (rowB rv.out q2 (Array.getElem?_eq_some_iff.1 rv.out).1)); (try replace xT := Lib.hid (xT.out.mono q2)); (try replace xB := Lib.hid (xB.out.mono q2)); (try replace xC := Lib.hid (xC.out.mono q2)); (try replace hG := Lib.hid (hG.out.mono q2)); (try replace rs0 := Lib.hid (rs0.out.mono q2)); replace hS0 := Lib.hid (hS0.out.trans (Below.mono q2 hS0.out.size)); have xO := Lib.hid q1; clear q1 c3 hs0; clear q2)
    | (refine wpList_store_row rfl 41 _ _ rfl w4.heap.size (T.c (.slice ya T.n yc)) rfl rfl 41 _ (rowA w4 _ _) info_op rfl (op_one T ya T.n yc) ?_)
    | (refine storeOver _ (w4.heap.size + 1) _ rfl 43 _ _ rfl (u8s D) 43 ((setRow_other _ w4.heap.size (w4.heap.size + 1) _ (by omega)).trans (hn2 w4 _ _)) rfl rfl di.out (ds.out _ (by kernel_rfl)) (u8s_one _) ?_; intro wx hrx hbx0; have hbx := Lib.hid (show Below w4.heap.size w4 wx from (below_setRow' ((below_a w4 _).alloc (by simp) _) (Nat.le_refl _) _).trans (hbx0.mono (Nat.le_succ _))); (try replace rT := Lib.hid (rowB rT.out hbx.out (Array.getElem?_eq_some_iff.1 rT.out).1)); (try replace rid := Lib.hid (rowB rid.out hbx.out (Array.getElem?_eq_some_iff.1 rid.out).1)); (try replace rF := Lib.hid (rowB rF.out hbx.out (Array.getElem?_eq_some_iff.1 rF.out).1)); (try replace rv := Lib.hid (rowB rv.out hbx.out (Array.getElem?_eq_some_iff.1 rv.out).1)); (try replace xT := Lib.hid (xT.out.mono hbx.out)); (try replace xB := Lib.hid (xB.out.mono hbx.out)); (try replace xC := Lib.hid (xC.out.mono hbx.out)); (try replace hG := Lib.hid (hG.out.mono hbx.out)); (try replace rs0 := Lib.hid (rs0.out.mono hbx.out)); (try replace xO := Lib.hid (xO.out.mono hbx.out)); replace hS0 := Lib.hid (hS0.out.trans (Below.mono hbx.out hS0.out.size)); have rO := Lib.hid ((hbx0.block w4.heap.size (Nat.lt_succ_self _)).trans (setRow_heap _ _ _ (T.c (.slice ya T.n yc)) _ _ (rowA w4 _ _))); have rI := Lib.hid hrx; clear hrx hbx0 hbx))
  go_upto_region 8 with (first
    | (go_at_call 9; (with_reducible refine (f5.out _ _ xC.out hG.out).mono ?_); rintro e9 w4 ⟨za, zc, rfl, q1, q2⟩; (try replace rT := Lib.hid (rowB rT.out q2 (Array.getElem?_eq_some_iff.1 rT.out).1)); (try replace rid := Lib.hid (rowB rid.out q2 (Array.getElem?_eq_some_iff.1 rid.out).1)); (try replace rF := Lib.hid (rowB rF.out q2 (Array.getElem?_eq_some_iff.1 rF.out).1)); (try replace rv := Lib.hid (rowB rv.out q2 (Array.getElem?_eq_some_iff.1 rv.out).1)); (try replace rO := Lib.hid (rowB rO.out q2 (Array.getElem?_eq_some_iff.1 rO.out).1)); (try replace rI := Lib.hid (rowB rI.out q2 (Array.getElem?_eq_some_iff.1 rI.out).1)); (try replace xT := Lib.hid (xT.out.mono q2)); (try replace xB := Lib.hid (xB.out.mono q2)); (try replace xC := Lib.hid (xC.out.mono q2)); (try replace hG := Lib.hid (hG.out.mono q2)); (try replace rs0 := Lib.hid (rs0.out.mono q2)); (try replace xO := Lib.hid (xO.out.mono q2)); replace hS0 := Lib.hid (hS0.out.trans (Below.mono q2 hS0.out.size)); have xQ := Lib.hid q1; clear q1; clear q2)
    | (refine wpList_store_row rfl 41 _ _ rfl w4.heap.size (q.c (.slice za q.n zc)) rfl rfl 41 _ (rowA w4 _ _) info_op rfl (op_one q za q.n zc) ?_)
    | (refine storeOver _ (w4.heap.size + 1) _ rfl 43 _ _ rfl (u8s Y) 43 ((setRow_other _ w4.heap.size (w4.heap.size + 1) _ (by omega)).trans (hn2 w4 _ _)) rfl rfl di2.out (ds2.out _ (by kernel_rfl)) (u8s_one _) ?_; intro wx hrx hbx0; have hbx := Lib.hid (show Below w4.heap.size w4 wx from (below_setRow' ((below_a w4 _).alloc (by simp) _) (Nat.le_refl _) _).trans (hbx0.mono (Nat.le_succ _))); (try replace rT := Lib.hid (rowB rT.out hbx.out (Array.getElem?_eq_some_iff.1 rT.out).1)); (try replace rid := Lib.hid (rowB rid.out hbx.out (Array.getElem?_eq_some_iff.1 rid.out).1)); (try replace rF := Lib.hid (rowB rF.out hbx.out (Array.getElem?_eq_some_iff.1 rF.out).1)); (try replace rv := Lib.hid (rowB rv.out hbx.out (Array.getElem?_eq_some_iff.1 rv.out).1)); (try replace rO := Lib.hid (rowB rO.out hbx.out (Array.getElem?_eq_some_iff.1 rO.out).1)); (try replace rI := Lib.hid (rowB rI.out hbx.out (Array.getElem?_eq_some_iff.1 rI.out).1)); (try replace xT := Lib.hid (xT.out.mono hbx.out)); (try replace xB := Lib.hid (xB.out.mono hbx.out)); (try replace xC := Lib.hid (xC.out.mono hbx.out)); (try replace hG := Lib.hid (hG.out.mono hbx.out)); (try replace rs0 := Lib.hid (rs0.out.mono hbx.out)); (try replace xO := Lib.hid (xO.out.mono hbx.out)); (try replace xQ := Lib.hid (xQ.out.mono hbx.out)); replace hS0 := Lib.hid (hS0.out.trans (Below.mono hbx.out hS0.out.size)); have rQ := Lib.hid ((hbx0.block w4.heap.size (Nat.lt_succ_self _)).trans (setRow_heap _ _ _ (q.c (.slice za q.n zc)) _ _ (rowA w4 _ _))); have rY := Lib.hid hrx; clear hrx hbx0 hbx))
  have v0 : wx.cell? ⟨gv, 0, none⟩ = some (.int .u8 0) := cell_of_row _ _ 0 _ _ _ rv.out
  have v1 : wx.cell? ⟨gv, 1, none⟩ = some (.int .u8 0) := cell_of_row _ _ 1 _ _ _ rv.out
  go_upto_region 10 with (first
    | (refine loadR 43 _ rfl _ rfl rfl 43 (u8s D) (0, 0) _ rI.out Tryz.underlying43 rfl di.out ?_)
    | (refine loadR 43 _ rfl _ rfl rfl 43 (u8s D) (0, 0) _ rid.out Tryz.underlying43 rfl di.out ?_)
    | (refine neqR 43 _ _ rfl (u8s D) (u8s D) rfl rfl rfl id_guardT false (hneq.out _) ?_)
    | (refine loadR 41 _ rfl _ rfl rfl 41 (T.c (.slice ya T.n yc)) (0, 0) _ rO.out Tryz.underlying41 rfl info_op ?_)
    | (refine loadR 41 _ rfl _ rfl rfl 41 (T.c (.slice pa T.n pc)) (0, 0) _ rT.out Tryz.underlying41 rfl info_op ?_)
    | (go_at_call 11; (with_reducible refine (f6.out _ _ _ xO.out xT.out).mono ?_); rintro e9 w4 ⟨rfl, q2⟩; (try replace rT := Lib.hid (rowB rT.out q2 (Array.getElem?_eq_some_iff.1 rT.out).1)); (try replace rid := Lib.hid (rowB rid.out q2 (Array.getElem?_eq_some_iff.1 rid.out).1)); (try replace rF := Lib.hid (rowB rF.out q2 (Array.getElem?_eq_some_iff.1 rF.out).1)); (try replace rv := Lib.hid (rowB rv.out q2 (Array.getElem?_eq_some_iff.1 rv.out).1)); (try replace rO := Lib.hid (rowB rO.out q2 (Array.getElem?_eq_some_iff.1 rO.out).1)); (try replace rI := Lib.hid (rowB rI.out q2 (Array.getElem?_eq_some_iff.1 rI.out).1)); (try replace rQ := Lib.hid (rowB rQ.out q2 (Array.getElem?_eq_some_iff.1 rQ.out).1)); (try replace rY := Lib.hid (rowB rY.out q2 (Array.getElem?_eq_some_iff.1 rY.out).1)); (try replace xT := Lib.hid (xT.out.mono q2)); (try replace xB := Lib.hid (xB.out.mono q2)); (try replace xC := Lib.hid (xC.out.mono q2)); (try replace hG := Lib.hid (hG.out.mono q2)); (try replace rs0 := Lib.hid (rs0.out.mono q2)); (try replace xO := Lib.hid (xO.out.mono q2)); (try replace xQ := Lib.hid (xQ.out.mono q2)); replace hS0 := Lib.hid (hS0.out.trans (Below.mono q2 hS0.out.size)); clear v0 v1; clear q2))
  go_wp2_with (first
    | (go_at_call 10; (with_reducible refine (f7.out _ _ _ xB.out xC.out).mono ?_); rintro e9 w4 ⟨rfl, q2⟩; (try replace rT := Lib.hid (rowB rT.out q2 (Array.getElem?_eq_some_iff.1 rT.out).1)); (try replace rid := Lib.hid (rowB rid.out q2 (Array.getElem?_eq_some_iff.1 rid.out).1)); (try replace rF := Lib.hid (rowB rF.out q2 (Array.getElem?_eq_some_iff.1 rF.out).1)); (try replace rv := Lib.hid (rowB rv.out q2 (Array.getElem?_eq_some_iff.1 rv.out).1)); (try replace rO := Lib.hid (rowB rO.out q2 (Array.getElem?_eq_some_iff.1 rO.out).1)); (try replace rI := Lib.hid (rowB rI.out q2 (Array.getElem?_eq_some_iff.1 rI.out).1)); (try replace rQ := Lib.hid (rowB rQ.out q2 (Array.getElem?_eq_some_iff.1 rQ.out).1)); (try replace rY := Lib.hid (rowB rY.out q2 (Array.getElem?_eq_some_iff.1 rY.out).1)); (try replace xT := Lib.hid (xT.out.mono q2)); (try replace xB := Lib.hid (xB.out.mono q2)); (try replace xC := Lib.hid (xC.out.mono q2)); (try replace hG := Lib.hid (hG.out.mono q2)); (try replace rs0 := Lib.hid (rs0.out.mono q2)); (try replace xO := Lib.hid (xO.out.mono q2)); (try replace xQ := Lib.hid (xQ.out.mono q2)); replace hS0 := Lib.hid (hS0.out.trans (Below.mono q2 hS0.out.size)); clear q2)
    | (refine loadR 41 _ rfl _ rfl rfl 41 (q.c (.slice za q.n zc)) (0, 0) _ rQ.out Tryz.underlying41 rfl info_op ?_)
    | (refine loadR 41 _ rfl _ rfl rfl 41 (T.c (.slice pa T.n pc)) (0, 0) _ rT.out Tryz.underlying41 rfl info_op ?_)
    | (go_at_call 11; (with_reducible refine (f8.out _ _ _ xQ.out xT.out).mono ?_); rintro e9 w4 ⟨rfl, q2⟩; (try replace rT := Lib.hid (rowB rT.out q2 (Array.getElem?_eq_some_iff.1 rT.out).1)); (try replace rid := Lib.hid (rowB rid.out q2 (Array.getElem?_eq_some_iff.1 rid.out).1)); (try replace rF := Lib.hid (rowB rF.out q2 (Array.getElem?_eq_some_iff.1 rF.out).1)); (try replace rv := Lib.hid (rowB rv.out q2 (Array.getElem?_eq_some_iff.1 rv.out).1)); (try replace rO := Lib.hid (rowB rO.out q2 (Array.getElem?_eq_some_iff.1 rO.out).1)); (try replace rI := Lib.hid (rowB rI.out q2 (Array.getElem?_eq_some_iff.1 rI.out).1)); (try replace rQ := Lib.hid (rowB rQ.out q2 (Array.getElem?_eq_some_iff.1 rQ.out).1)); (try replace rY := Lib.hid (rowB rY.out q2 (Array.getElem?_eq_some_iff.1 rY.out).1)); (try replace xT := Lib.hid (xT.out.mono q2)); (try replace xB := Lib.hid (xB.out.mono q2)); (try replace xC := Lib.hid (xC.out.mono q2)); (try replace hG := Lib.hid (hG.out.mono q2)); (try replace rs0 := Lib.hid (rs0.out.mono q2)); (try replace xO := Lib.hid (xO.out.mono q2)); (try replace xQ := Lib.hid (xQ.out.mono q2)); replace hS0 := Lib.hid (hS0.out.trans (Below.mono q2 hS0.out.size)); clear q2))
  go_ret
  exact ⟨rfl, hS0.out⟩
end Go.Proofs.YtfaojjleapenaabGreatDoor.wir.val.top
namespace Go.Proofs.YtfaojjleapenaabGreatDoor
open Go.RowKit Go.YtfaojjleapenaabGreatDoor
set_option linter.unusedVariables false
variable {Tg Tf : TypeId}
set_option maxRecDepth 100000 in
set_option maxHeartbeats 2000000 in
theorem pieces_gen (A : Option Addr) (c : Nat) (L : List (List Int)) (w : World) (hLc : L.length ≤ c) (hcm : c ≤ maxLen) (hcell : ∀ i, i < L.length → ∃ b o, A = some ⟨b, o, none⟩ ∧ b < w.heap.size ∧ ∃ s, w.cell? ⟨b, o + i, none⟩ = some s ∧ RdB w s (nthL L i))
   (hn : L.length ≤ 20) (hlen : ∀ i, (nthL L i).length ≤ 10000) (hby : ∀ i, Bytes (nthL L i))
   (hg : w.heap[1]? = some (.cells (u32s constW) Tg (0, 0))) (hgf : w.heap[0]? = some (.cells firstW.cells Tf (0, 0))) :
    Calls Tryz.prog 29 #[.slice A L.length c] w
     fun e w' => e = .returned (.tuple #[.agg (u8s (endF (blocksF firstW (flatN L L.length)) (restF (flatN L L.length)) (flatN L L.length).length)), .int .i64 0]) ∧ Below w.heap.size w w' := by
  unfold maxLen at hcm
  have hcell' := Lib.hid hcell; have hlen' := Lib.hid hlen; have hby' := Lib.hid hby; have hg' := Lib.hid hg; have hgf' := Lib.hid hgf
  clear hcell hlen hby hg hgf
  have hlt : 1 < w.heap.size := (Array.getElem?_eq_some_iff.1 hg'.out).1
  have hltf : 0 < w.heap.size := (Array.getElem?_eq_some_iff.1 hgf'.out).1
  generalize hm : L.length = n at *
  have hm' := Lib.hid hm; clear hm
  go_enter Tryz.func29, Tryz.ntmps29
  go_wp2
  generalize hWx : w.alloc (Obj.cells _ 43) = Wx
  have hWb : Below w.heap.size w Wx := by rw [← hWx]; exact (Below.refl _ _).alloc (Nat.le_refl _) _
  have hWz : Wx.heap.size = w.heap.size + 1 := by rw [← hWx]; simp
  have hW0 : Wx.heap[w.heap.size]? = some (.cells (u8s (zerosB 32)) 43 (0, 0)) := by rw [← hWx]; exact heap_alloc_new w _
  have hWz' := Lib.hid hWz; have hW0' := Lib.hid hW0
  clear hWx hWz hW0
  go_loop [5, 15] (fun _ i => ∃ k : Nat, k ≤ n ∧ i = .int .i64 k) (fun _ i => n - (intOf i).toNat)
  case atStart => exact ⟨0, by omega, rfl⟩
  case round =>
    obtain ⟨k, hk, rfl⟩ := hrel
    by_cases hlt' : k < n
    · obtain ⟨b, o, rfl, hbw, s, hs, hrs⟩ := hcell'.out k hlt'
      obtain ⟨sa, sc, rfl⟩ := hrs.slice
      have hs1 := (hWb.cell (p := (⟨b, o + k, none⟩ : Addr)) hbw).trans hs
      have hle := hlen'.out k
      go_wp2
      go_round
      case rel => exact ⟨k + 1, by omega, by go_num⟩
      case measure => simp [intOf]; omega
    · have hkn : k = n := by omega
      subst hkn
      clear hcm
      go_upto_region 10 with (go_at_call 55; refine (start_any (Tf := Tf) _ ?_).mono ?_; (exact (hWb.block _ hltf).trans hgf'.out); rintro e w1 ⟨rfl, hb1⟩; have hb1' := Lib.hid hb1; clear hb1)
      have hz1 : w.heap.size < w1.heap.size := by have := hb1'.out.size; have := hWz'.out; omega
      have hB1 : Below (w.heap.size + 1) Wx w1 := hb1'.out.mono (by have := hWz'.out; omega)
      have hB1' := Lib.hid hB1; clear hB1
      go_wp2
      go_loopw [8, 27] (fun _ i wr => ∃ j : Nat, j ≤ k ∧ i = .int .i64 j ∧ Below (w.heap.size + 1) Wx wr ∧ w1.heap.size < wr.heap.size ∧ ∃ rv, wr.heap[w1.heap.size]? = some (.cells #[.int .u32 (blocksF firstW (flatN L j)).a, .int .u32 (blocksF firstW (flatN L j)).b, .int .u32 (blocksF firstW (flatN L j)).c, .int .u32 (blocksF firstW (flatN L j)).d, .int .u32 (blocksF firstW (flatN L j)).e, .int .u32 (blocksF firstW (flatN L j)).f, .int .u32 (blocksF firstW (flatN L j)).g, .int .u32 (blocksF firstW (flatN L j)).h, rv, .int .i64 ((flatN L j).length : Nat)] 99 (0, 0)) ∧ RdB wr rv (restF (flatN L j))) (fun _ i _ => k - (intOf i).toNat)
      case atStart => exact ⟨0, by omega, rfl, hB1'.out.alloc (by omega) _, by simp, .slice none 0 0, by rw [show blocksF firstW (flatN L 0) = firstW from blocksF_small _ _ (by simp [flatN]), show (flatN L 0).length = 0 from rfl]; exact heap_alloc_new w1 _, .inl ⟨none, 0, rfl, fun _ => rfl, by simp [flatN, restF]⟩⟩
      case round =>
        obtain ⟨j, hj, rfl, hbr, hzr, rv, hrow, hrd⟩ := hrel
        have hrow' := Lib.hid hrow; have hrd' := Lib.hid hrd; clear hrow hrd
        have hbw' : Below w.heap.size w wr := hWb.trans (hbr.mono (by omega))
        by_cases hlt' : j < k
        · obtain ⟨b, o, rfl, hbw, s, hs, hrs⟩ := hcell'.out j hlt'
          obtain ⟨sa, sc, rfl⟩ := hrs.slice
          have hs1 := (hbw'.cell (p := (⟨b, o + j, none⟩ : Addr)) hbw).trans hs
          have hrs' := Lib.hid (hrs.mono hbw')
          have hgr := Lib.hid ((hbw'.block _ hlt).trans hg'.out)
          have hfl := flatN_length L hlen'.out j
          have hll := hlen'.out j
          have hN : Hid ((flatN L j).length + (nthL L j).length ≤ 200000) := Lib.hid (by omega)
          have hrl : Hid ((restF (flatN L j)).length < 64) := Lib.hid (by rw [restF_length]; exact Nat.mod_lt _ (by decide))
          have hG : Hid (blocksF (blocksF firstW (flatN L j)) (restF (flatN L j) ++ nthL L j) = blocksF firstW (flatN L (j + 1))) := Lib.hid (blocksF_append _ _ _).symm
          clear hs hrs hfl hll
          go_wp2_with (first | (refine wpList_load_row rfl 99 _ rfl w1.heap.size rfl 99 _ _ _ hrow'.out Tryz.underlying99 rfl (by kernel_rfl) ?_) | (go_at_call 56; refine (put_any (Tg := Tg) (blocksF firstW (flatN L j)) (blocksF firstW (flatN L (j + 1))) rv (restF (flatN L j)) (flatN L j).length (.slice sa (nthL L j).length sc) (nthL L j) _ (blocksF_ok _ _ firstW_ok) hrd'.out hrs'.out (bytes_drop _ _ (flatN_bytes L hby'.out j)) (hby'.out j) hrl.out hN.out hG.out hgr.out).mono ?_; rintro e w2 ⟨r', rfl, ho2, hb2⟩; obtain ⟨pa, pc, rfl⟩ := ho2.rd.slice; have ho2' := Lib.hid ho2; have hb2' := Lib.hid hb2; have hrow2 := Lib.hid ((hb2.block _ hzr).trans hrow'.out); clear ho2 hb2) | (refine wpList_store_row rfl 99 _ _ rfl w1.heap.size _ rfl rfl 99 _ hrow2.out (by kernel_rfl) (by simp) (by simp [Value.oneCell']) ?_))
          go_roundw
          case rel =>
            have hB2 : Below (w.heap.size + 1) Wx w2 := hbr.trans (hb2'.out.mono (by omega))
            have hz2 := hb2'.out.size
            have hrest : restF (restF (flatN L j) ++ nthL L j) = restF (flatN L (j + 1)) := (restF_append _ _).symm
            have ho3 := ho2'.out
            rw [hrest] at ho3
            refine ⟨j + 1, by omega, by go_num, below_setRow' (g := w1.heap.size) hB2 (by omega) _, by rw [size_setRow]; omega, .slice pa (restF (restF (flatN L j) ++ nthL L j)).length pc, ?_, ?_⟩
            · have hl : (((flatN L (j + 1)).length : Nat) : Int) = (flatN L j).length + (nthL L j).length := by rw [flatN, List.length_append]; exact Int.natCast_add _ _
              rw [hl]
              exact setRow_heap _ _ _ _ _ _ hrow2.out
            · rw [hrest]
              exact (ownB_setRow (g := w1.heap.size) ho3 (Nat.le_refl _) hzr _).rd
          case measure => simp [intOf]; omega
        · have hjk : j = k := by omega
          subst hjk
          have hfl := flatN_length L hlen'.out j
          have hN : Hid ((flatN L j).length ≤ 200000) := Lib.hid (by omega)
          have hrl : Hid ((restF (flatN L j)).length < 64) := Lib.hid (by rw [restF_length]; exact Nat.mod_lt _ (by decide))
          have hFb := Lib.hid (flatN_bytes L hby'.out j)
          have hgr := Lib.hid ((hbw'.block _ hlt).trans hg'.out)
          have hres := Lib.hid ((hbr.block w.heap.size (by omega)).trans hW0'.out)
          clear hfl
          have hlen32 : (endF (blocksF firstW (flatN L j)) (restF (flatN L j)) (flatN L j).length).length = 32 := writtenN_length _ 8
          have hi : (Tryz.prog.info? 43).map (·.size) = some (u8s (endF (blocksF firstW (flatN L j)) (restF (flatN L j)) (flatN L j).length)).size := by rw [u8s_size, hlen32]; kernel_rfl
          have hs2 : (u8s (zerosB 32)).size = (u8s (endF (blocksF firstW (flatN L j)) (restF (flatN L j)) (flatN L j).length)).size := by rw [u8s_size, u8s_size, hlen32, zerosB_length]
          have hi' := Lib.hid hi; have hs2' := Lib.hid hs2
          clear hi hs2 hlen32
          go_wp2_with (first | (refine wpList_load_row rfl 99 _ rfl w1.heap.size rfl 99 _ _ _ hrow'.out Tryz.underlying99 rfl (by kernel_rfl) ?_) | (go_at_call 57; refine (finish_any (Tg := Tg) (blocksF firstW (flatN L j)) _ rv (restF (flatN L j)) (flatN L j).length _ (blocksF_ok _ _ firstW_ok) hrd'.out (bytes_drop _ _ hFb.out) hrl.out hN.out rfl hgr.out).mono ?_; rintro e w2 ⟨rfl, hb2⟩; have hrow2' := Lib.hid ((hb2.block _ (by omega)).trans hres.out); have hB2' := Lib.hid (hbw'.trans (hb2.mono (by omega))); clear hb2) | (refine wpList_store_row rfl 43 _ _ rfl w.heap.size (u8s (endF (blocksF firstW (flatN L j)) (restF (flatN L j)) (flatN L j).length)) rfl rfl 43 _ hrow2'.out hi'.out hs2'.out (u8s_one _) ?_))
          try simp only [Exit.inBlock, Exit.then]
          exact bodyPost_ret (results_row_tmp rfl _ _ w.heap.size 43 _ _ _ rfl (setRow_heap _ _ _ _ _ _ hrow2'.out) Tryz.underlying43 rfl hi'.out) rfl ⟨rfl, below_setRow' (g := w.heap.size) hB2'.out (Nat.le_refl _) _⟩
theorem pieces_rd (L : List (List Int)) (v : Value) (w : World) (hL : RdL w v L)
   (hn : L.length ≤ 20) (hlen : ∀ i, (nthL L i).length ≤ 10000) (hby : ∀ i, Bytes (nthL L i))
   (hg : w.heap[1]? = some (.cells (u32s constW) Tg (0, 0))) (hgf : w.heap[0]? = some (.cells firstW.cells Tf (0, 0))) :
    Calls Tryz.prog 29 #[v] w
     fun e w' => e = .returned (.tuple #[.agg (u8s (shaF L.flatten)), .int .i64 0]) ∧ Below w.heap.size w w' := by
  rcases hL with ⟨rfl, rfl⟩ | ⟨b, o, c, rfl, h1, h2, h3, h4⟩
  · have h := pieces_gen (Tg := Tg) (Tf := Tf) none 0 [] w (Nat.le_refl _) (by decide) (fun i hi => absurd hi (Nat.not_lt_zero _)) hn hlen hby hg hgf
    rw [flatN_all] at h
    exact h
  · have h := pieces_gen (Tg := Tg) (Tf := Tf) (some ⟨b, o, none⟩) c L w h1 h2 (fun i hi => ⟨b, o, rfl, h3, h4 i hi⟩) hn hlen hby hg hgf
    rw [flatN_all] at h
    exact h
end Go.Proofs.YtfaojjleapenaabGreatDoor
namespace Go.Proofs.YtfaojjleapenaabGreatDoor.wir.val.top
open Go.RowKit Go.YtfaojjleapenaabGreatDoor
set_option linter.unusedVariables false
theorem read08_any (T : Od) (fT : T.Fit) (hF : T.F.length = 32 * T.n) (hc : chkO T = 0) (pv bv : Value) (w : World) (hp : RdI w pv T.n T.F) (hr : RdB w bv (encO T)) :
    Calls Tryz.prog 27 #[.agg (T.c pv), bv] w fun e w' => e = .returned (.bool true) ∧ Below w.heap.size w w' := by
  rcases act_kinds (chk_zero hc).2.2 with h | ⟨h, hs⟩ | ⟨h, hs, hv⟩
  · exact read08_A T fT hF hc h pv bv w hp hr
  · exact read08_B T fT hF hc h hs pv bv w hp hr
  · exact read08_C T fT hF hc h hs hv pv bv w hp hr
theorem framed08_any (T : Od) (fT : T.Fit) (hF : T.F.length = 32 * T.n) (cT : chkO T = 0) (vT : verO T = 0) (C : List Int) (hC : Bytes C) (hlen : C.length = (encO T).length) (pv bv cv : Value) (w : World) (hp : RdI w pv T.n T.F) (hb : RdB w bv (encO T)) (hcv : RdB w cv C) (hG0 : GlobW w) :
    Calls Tryz.prog 30 #[.agg (T.c pv), .agg (u8s (shaF (encO T))), bv, cv] w fun e w' => e = .returned (.bool true) ∧ Below w.heap.size w w' := by
  obtain ⟨v0, lB, bB⟩ := vd_good fT hF cT vT
  by_cases h : encO T = C
  · subst h
    exact framed08_1 T fT hF cT vT _ hC hlen T (shaF (encO T)) 0 (shaF_length _) v0 (fun wz v h hg => judgeOf_yesT (encO T) v wz h bB hg T (decO_enc fT hF cT) v0) rfl rfl (sameF_self _) pv bv cv w hp hb hcv hG0
  · have hne : sameF (encO T) C = false := by unfold sameF; exact decide_eq_false h
    by_cases hv : vd C = 0
    · have hl4 : ¬ 400 < C.length := by omega
      obtain ⟨q, hq⟩ : ∃ q, decO C = some q := by
        cases hd : decO C with
        | some q => exact ⟨q, rfl⟩
        | none =>
          unfold vd at hv
          rw [if_neg hl4, hd] at hv
          cases hv
      obtain ⟨e1, fq, cq, lq⟩ := decO_back hC hq
      exact framed08_3 T fT hF cT vT C hC hlen q (shaF C) 0 (shaF_length _) hv (fun wz v h hg => judgeOf_yesT C v wz h hC hg q hq hv) rfl (Nat.le_trans (chk_zero cq).1 (by decide)) (same_no fT fq hF lq cT cq (by rw [e1]; exact fun x => h x.symm)) hne pv bv cv w hp hb hcv hG0
    · exact framed08_2 T fT hF cT vT C hC hlen zO (zerosB 32) (vd C) (zerosB_length _) rfl (fun wz v h hg => judgeOf_noT C v wz h hC hg hv) hv hne pv bv cv w hp hb hcv hG0
theorem own_put {B : Nat} {w : World} {v : Value} {l : List Int} (h : OwnB B 5 w v l) (hn : 0 < l.length) : ∃ g c, v = .slice (some ⟨g, 0, none⟩) l.length c ∧ B ≤ g ∧ g < w.heap.size ∧ ∀ i, i < l.length → (w.cell? ⟨g, i, none⟩ = some (.int .u8 (ith l i)) ∧ w.frozen? ⟨g, i, none⟩ = false ∧ ∀ x, RdB (w.setCell ⟨g, i, none⟩ (.int .u8 x)) v (l.set i x)) := by
  have hrd := h.rd
  rcases h.2 with ⟨rfl, h0⟩ | ⟨g, cap, cur, rfl, hb, hg, hle, hm, hs, ht⟩
  · omega
  · rcases hrd with ⟨_, _, e, _, h2⟩ | ⟨b, o, c', e, h1, h2, h3, h4⟩
    · rw [h2] at hn; exact absurd hn (Nat.lt_irrefl _)
    · cases e
      refine ⟨g, cap, rfl, hb, h3, fun i hi => ⟨?_, frozen_of_row _ _ _ _ _ hg, fun x => ?_⟩⟩
      · have := h4 i hi
        rwa [Nat.zero_add] at this
      · refine .inr ⟨g, 0, cap, by rw [List.length_set], by rw [List.length_set]; exact h1, h2, (Array.getElem?_eq_some_iff.1 (setCell_row hg i (.int .u8 x))).1, fun j hj => ?_⟩
        rw [List.length_set] at hj
        have h5 := h4 j hj
        have h6 := h4 i hi
        rw [Nat.zero_add] at h5 h6 ⊢
        rw [cell_of_row _ _ _ _ _ _ hg] at h5 h6
        rw [cell_of_row _ _ _ _ _ _ (setCell_row hg i (.int .u8 x)), Array.getElem?_setIfInBounds]
        have hlt := (Array.getElem?_eq_some_iff.1 h6).1
        by_cases hij : i = j
        · subst hij
          rw [if_pos rfl, if_pos hlt]
          unfold ith
          rw [List.getElem?_set_self hi]
          rfl
        · rw [if_neg hij, h5]
          unfold ith
          rw [List.getElem?_set_ne hij]
theorem bytes_putT {l : List Int} (h : Bytes l) (i : Nat) (x : Int) (hx : 0 ≤ x ∧ x < 256) : Bytes (l.set i x) := fun j => by
  unfold ith
  by_cases hij : i = j
  · subst hij
    by_cases hi : i < l.length
    · rw [List.getElem?_set_self hi]; exact hx
    · rw [List.getElem?_eq_none (by rw [List.length_set]; omega)]; simp
  · rw [List.getElem?_set_ne hij]; exact h j
theorem xor_byte (x y : Int) : 0 ≤ bits .xor .u8 x y ∧ bits .xor .u8 x y < 256 := by
  have h := bits_within .xor .u8 x y
  have h1 : IntKind.u8.min = 0 := by decide
  have h2 : IntKind.u8.max = 255 := by decide
  rw [h1, h2] at h
  omega
theorem chk_errs {o : Od} (h : chkO o ≠ 0) : (chkO o == 4 || (chkO o == 32 || chkO o == 8)) = true ∧ (chkO o != 0) = true := by
  rcases chk_vals o with h1 | h1 | h1 | h1
  · exact absurd h1 h
  · rw [h1]; decide
  · rw [h1]; decide
  · rw [h1]; decide
set_option maxHeartbeats 16000000 in
set_option maxRecDepth 100000 in
theorem top_great (a : Nat) (ha : a < 4294967296) (o : Od) (fo : o.Raw) (pv : Value) (n y : Int) (w : World) (hp0 : RdI w pv o.n o.F) (hG0 : GlobW w) (hg : greatB o = true) :
    Calls Tryz.prog 5 #[.int .u32 (a : Int), .agg (o.c pv), .int .i64 n, .int .u8 y] w fun x w' => x = .returned (.bool true) ∧ Below w.heap.size w w' := by
  obtain ⟨pa, pc, rfl⟩ := hp0.slice
  obtain ⟨W, hW⟩ : ∃ W, W = w.alloc (.cells (o.c (.slice pa o.n pc)) 41) := ⟨_, rfl⟩
  have hS0 := Lib.hid (show Below w.heap.size w W by rw [hW]; exact (Below.refl w.heap.size w).alloc (Nat.le_refl _) _)
  have r0 := Lib.hid (show W.heap[w.heap.size]? = some (.cells (o.c (.slice pa o.n pc)) 41 (0, 0)) by rw [hW]; exact heap_alloc_new w _)
  have xp := Lib.hid (hp0.mono hS0.out)
  have hG := Lib.hid (hG0.mono hS0.out)
  have hgr := Lib.hid (fun wz => great_any o pa pc wz)
  have hal := Lib.hid (fun (wz : World) (hg : GlobW wz) => alive08_any wz hg)
  rw [hg] at hgr
  clear hg fo ha hp0 hG0
  go_enter Tryz.func5, Tryz.ntmps5
  go_upto_region 1 with fail
  rw [← hW]
  clear hW
  go_wp2_with (first | (refine wpList_load_row_g rfl 41 _ rfl w.heap.size rfl 41 (o.c (.slice pa o.n pc)) (0, 0) _ r0.out Tryz.underlying41 rfl info_op ?_) | (go_at_call 25; (with_reducible refine (hgr.out _).mono ?_); rintro e9 w4 ⟨rfl, q2⟩; (try replace r0 := Lib.hid (rowB r0.out q2 (Array.getElem?_eq_some_iff.1 r0.out).1)); (try replace xp := Lib.hid (xp.out.mono q2)); (try replace hG := Lib.hid (hG.out.mono q2)); replace hS0 := Lib.hid (hS0.out.trans (Below.mono q2 hS0.out.size)); clear q2))
  go_ret
  exact ⟨rfl, hS0.out⟩
set_option maxHeartbeats 16000000 in
set_option maxRecDepth 100000 in
theorem top_bad (a : Nat) (ha : a < 4294967296) (o : Od) (fo : o.Raw) (pv : Value) (n y : Int) (w : World) (hp0 : RdI w pv o.n o.F) (hG0 : GlobW w) (hg : greatB o = false) (E : Int) (hE : (E != 0) = true ∧ (E = 2 ∨ E = 4 ∨ E = 32 ∨ E = 8))
    (hsg : ∀ (wz : World), RdI wz pv o.n o.F → GlobW wz → Calls Tryz.prog 20 #[.int .u32 (a : Int), .agg (o.c pv)] wz fun e w' => e = .returned (.tuple #[.agg (zO.c (.slice none 0 0)), .int .i64 E]) ∧ Below wz.heap.size wz w') :
    Calls Tryz.prog 5 #[.int .u32 (a : Int), .agg (o.c pv), .int .i64 n, .int .u8 y] w fun x w' => x = .returned (.bool true) ∧ Below w.heap.size w w' := by
  obtain ⟨pa, pc, rfl⟩ := hp0.slice
  obtain ⟨W, hW⟩ : ∃ W, W = w.alloc (.cells (o.c (.slice pa o.n pc)) 41) := ⟨_, rfl⟩
  have hS0 := Lib.hid (show Below w.heap.size w W by rw [hW]; exact (Below.refl w.heap.size w).alloc (Nat.le_refl _) _)
  have r0 := Lib.hid (show W.heap[w.heap.size]? = some (.cells (o.c (.slice pa o.n pc)) 41 (0, 0)) by rw [hW]; exact heap_alloc_new w _)
  have xp := Lib.hid (hp0.mono hS0.out)
  have hG := Lib.hid (hG0.mono hS0.out)
  have hgr := Lib.hid (fun wz => great_any o pa pc wz)
  have hal := Lib.hid (fun (wz : World) (hg : GlobW wz) => alive08_any wz hg)
  rw [hg] at hgr
  have f2 := Lib.hid hsg
  clear hg fo ha hp0 hG0 hsg
  rcases hE.2 with rfl | rfl | rfl | rfl <;> clear hE
  all_goals
    go_enter Tryz.func5, Tryz.ntmps5
    go_upto_region 1 with fail
    rw [← hW]
    clear hW
    go_wp2_with (first
      | (refine wpList_load_row_g rfl 41 _ rfl w.heap.size rfl 41 (o.c (.slice pa o.n pc)) (0, 0) _ r0.out Tryz.underlying41 rfl info_op ?_)
      | (go_at_call 25; (with_reducible refine (hgr.out _).mono ?_); rintro e9 w4 ⟨rfl, q2⟩; (try replace r0 := Lib.hid (rowB r0.out q2 (Array.getElem?_eq_some_iff.1 r0.out).1)); (try replace xp := Lib.hid (xp.out.mono q2)); (try replace hG := Lib.hid (hG.out.mono q2)); replace hS0 := Lib.hid (hS0.out.trans (Below.mono q2 hS0.out.size)); clear q2)
      | (go_at_call 26; (with_reducible refine (hal.out _ hG.out).mono ?_); rintro e9 w4 ⟨rfl, q2⟩; (try replace r0 := Lib.hid (rowB r0.out q2 (Array.getElem?_eq_some_iff.1 r0.out).1)); (try replace xp := Lib.hid (xp.out.mono q2)); (try replace hG := Lib.hid (hG.out.mono q2)); replace hS0 := Lib.hid (hS0.out.trans (Below.mono q2 hS0.out.size)); clear q2)
      | (go_at_call 20; (with_reducible refine (f2.out _ xp.out hG.out).mono ?_); rintro e9 w4 ⟨rfl, q2⟩; (try replace r0 := Lib.hid (rowB r0.out q2 (Array.getElem?_eq_some_iff.1 r0.out).1)); (try replace xp := Lib.hid (xp.out.mono q2)); (try replace hG := Lib.hid (hG.out.mono q2)); replace hS0 := Lib.hid (hS0.out.trans (Below.mono q2 hS0.out.size)); clear q2)
      | (refine storeNew _ rfl 41 _ _ rfl (zO.c (.slice none 0 0)) 41 rfl rfl info_op rfl (op_one zO _ _ _) ?_; intro wx hrx hbx; (try replace r0 := Lib.hid (rowB r0.out hbx (Array.getElem?_eq_some_iff.1 r0.out).1)); (try replace xp := Lib.hid (xp.out.mono hbx)); (try replace hG := Lib.hid (hG.out.mono hbx)); replace hS0 := Lib.hid (hS0.out.trans (Below.mono hbx hS0.out.size)); have r9 := Lib.hid hrx; clear hrx hbx))
    go_ret
    exact ⟨rfl, hS0.out⟩
set_option maxHeartbeats 16000000 in
set_option maxRecDepth 100000 in
theorem top_ok (a : Nat) (ha : a < 4294967296) (o : Od) (fo : o.Raw) (pv : Value) (n y : Int) (w : World) (hp0 : RdI w pv o.n o.F) (hG0 : GlobW w) (hg : greatB o = false) (ha1 : 1 ≤ a ∧ a < 500000003) (h0 : chkO (o.byA (grp.pw 4 a)).bare = 0) :
    Calls Tryz.prog 5 #[.int .u32 (a : Int), .agg (o.c pv), .int .i64 n, .int .u8 y] w fun x w' => x = .returned (.bool true) ∧ Below w.heap.size w w' := by
  have ffo := raw_fit fo hg
  have hlF := hp0.len
  obtain ⟨pa, pc, rfl⟩ := hp0.slice
  obtain ⟨W, hW⟩ : ∃ W, W = w.alloc (.cells (o.c (.slice pa o.n pc)) 41) := ⟨_, rfl⟩
  have hS0 := Lib.hid (show Below w.heap.size w W by rw [hW]; exact (Below.refl w.heap.size w).alloc (Nat.le_refl _) _)
  have r0 := Lib.hid (show W.heap[w.heap.size]? = some (.cells (o.c (.slice pa o.n pc)) 41 (0, 0)) by rw [hW]; exact heap_alloc_new w _)
  have xp := Lib.hid (hp0.mono hS0.out)
  have hG := Lib.hid (hG0.mono hS0.out)
  have hgr := Lib.hid (fun wz => great_any o pa pc wz)
  have hal := Lib.hid (fun (wz : World) (hg : GlobW wz) => alive08_any wz hg)
  rw [hg] at hgr
  obtain ⟨T, fT, cT, vT, nT, FT, ⟨tau, tE, tS⟩, hSg⟩ := sig_made a ha1 o ffo hlF h0
  have hF : T.F.length = 32 * T.n := by rw [nT, FT]; exact hlF
  obtain ⟨v0, lB, bB⟩ := vd_good fT hF cT vT
  have hlM := msgB_short T fT (chk_zero cT).1 hF (chk_zero cT).2.2
  have bM := msgB_bytes T fT (chk_zero cT).1 (chk_zero cT).2.2
  have hRt := ver_right cT vT
  have hIn := chk_in cT
  obtain ⟨R, hR⟩ : ∃ R, numB T.e ++ numB T.s = R := ⟨_, rfl⟩
  have hB : encO T = msgB T ++ R := by rw [← hR]; unfold encO; rw [List.append_assoc]
  have hdB : (encO T).drop (msgB T).length = R := by rw [hB, List.drop_left' rfl]
  have bR : Bytes R := bytes_tail (a := msgB T) (by rw [← hB]; exact bB)
  have f2 := Lib.hid (fun (wz : World) (h : RdI wz (.slice pa o.n pc) o.n o.F) (hg : GlobW wz) => hSg wz _ h hg)
  have f3 := Lib.hid (fun (wz : World) (v : Value) (h : RdI wz v T.n T.F) => msg_ok T fT v wz h (chk_bare cT) (msgB T) rfl)
  have f4 := Lib.hid (fun (wz : World) (v : Value) (h : RdI wz v T.n T.F) => opEncode_ok T fT v wz h cT)
  have f5 := Lib.hid (fun (wz : World) (v bv : Value) (h : RdI wz v T.n T.F) (hb : RdB wz bv (encO T)) => read08_any T fT hF cT v bv wz h hb)
  have f6 := Lib.hid (fun (wz : World) (qa : Option Addr) (qc : Nat) (mv : Value) (hm : RdB wz mv (msgB T)) (hg : GlobW wz) => signed08_any a ha1 T (msgB T) tau tE tS bM (by omega) hRt hIn qa qc mv wz hm hg)
  have f7 := Lib.hid (fun (wz : World) (v : Value) (h : RdI wz v T.n T.F) (hg : GlobW wz) => (show Calls Tryz.prog 19 #[.agg (T.c v)] wz fun e w' => e = .returned (.tuple #[.agg (u8s (shaF (encO T))), .int .i64 0]) ∧ Below wz.heap.size wz w' from by
    obtain ⟨Tg, Tf, g1, g2⟩ := hg
    exact opID_ok T fT v wz h cT g1 g2))
  have f8 := Lib.hid (fun (wz : World) (ma ra : Option Addr) (mn mc rn rc : Nat) (h1 : RdB wz (.slice ma mn mc) (msgB T)) (h2 : RdB wz (.slice ra rn rc) R) (hg : GlobW wz) => (show Calls Tryz.prog 29 #[.slice (some ⟨wz.heap.size, 0, none⟩) 2 2] (wz.alloc (.cells #[.slice ma mn mc, .slice ra rn rc] 22)) fun e w' => e = .returned (.tuple #[.agg (u8s (shaF (encO T))), .int .i64 0]) ∧ Below wz.heap.size wz w' from by
    have hal := below_a wz (.cells #[.slice ma mn mc, .slice ra rn rc] 22)
    obtain ⟨Tg, Tf, g1, g2⟩ := hg.mono hal
    have hS2 := rd_pairS (.inr ⟨_, heap_alloc_new wz (.cells #[.slice ma mn mc, .slice ra rn rc] 22)⟩) (h1.mono hal) (h2.mono hal)
    have hL : RdL (wz.alloc (.cells #[.slice ma mn mc, .slice ra rn rc] 22)) (.slice (some ⟨wz.heap.size, 0, none⟩) 2 2) [msgB T, R] := by
      rcases hS2 with ⟨_, _, e, _, _⟩ | h
      · cases e
      · exact .inr h
    have h := pieces_rd (Tg := Tg) (Tf := Tf) [msgB T, R] _ _ hL (by show 2 ≤ 20; decide) (fun i => by rw [nthL_two]; split; omega; split; rw [hB, List.length_append] at lB; omega; simp) (fun i => by rw [nthL_two]; split; exact bM; split; exact bR; exact bytes_nil) g1 g2
    have e : [msgB T, R].flatten = encO T := by rw [hB]; simp
    rw [e] at h
    exact h.mono fun e w' ⟨h1, h2⟩ => ⟨h1, hal.trans (h2.mono (by simp))⟩))
  have f9 := Lib.hid (fun (wz : World) (C : List Int) (hC : Bytes C) (hl : C.length = (encO T).length) (v bv cv : Value) (h : RdI wz v T.n T.F) (hb : RdB wz bv (encO T)) (hc : RdB wz cv C) (hg : GlobW wz) => framed08_any T fT hF cT vT C hC hl v bv cv wz h hb hc hg)
  have hDl : (shaF (encO T)).length = 32 := shaF_length _
  generalize shaF (encO T) = D at *
  have di := Lib.hid (show (Tryz.prog.info? 43).map (·.size) = some (u8s D).size by rw [u8s_size, hDl]; kernel_rfl)
  have ds := Lib.hid (show ∀ x : Array Value, x = u8s (zerosB 32) → x.size = (u8s D).size from fun x hx => by rw [hx, u8s_size, u8s_size, hDl, zerosB_length])
  have hneq := Lib.hid (show ∀ wz, (binOp .neq 43 (.agg (u8s D)) (.agg (u8s D))).run Tryz.prog wz = .ok (.bool false) wz from fun wz => by rw [neq_idT D D hDl hDl wz, decide_eq_true rfl]; rfl)
  have hNN : (encO T).length = (msgB T).length + R.length := by rw [hB, List.length_append]
  have hMp := msg_pos T
  obtain ⟨NB, hNB⟩ : ∃ N, (encO T).length = N := ⟨_, rfl⟩
  obtain ⟨NM, hNM⟩ : ∃ N, (msgB T).length = N := ⟨_, rfl⟩
  obtain ⟨NR, hNR⟩ : ∃ N, R.length = N := ⟨_, rfl⟩
  rw [hNB, hNM, hNR] at hNN
  rw [hNM] at hdB hMp
  rw [hNB] at lB
  rw [hNB] at f9
  have i1 : decide ((NB : Int) < (NM : Int)) = false := by simp; omega
  have i2 : decide (NB < NM) = false := by simp; omega
  have u1 := Lib.hid (show NM ≤ NB by omega)
  have hpos := Lib.hid (show 0 < NB by omega)
  have hl4 := Lib.hid lB
  have hNB := Lib.hid hNB
  have hNM := Lib.hid hNM
  have hNR := Lib.hid hNR
  have hdB := Lib.hid hdB
  have bB := Lib.hid bB
  clear hg fo ha hp0 hG0 ffo hlF h0 fT cT vT nT FT tau tE tS hSg hF v0 hlM bM hRt hIn hR hB bR hDl hNN hMp lB ha1
  generalize encO T = B at *
  generalize msgB T = M at *
  go_enter Tryz.func5, Tryz.ntmps5
  go_upto_region 1 with fail
  rw [← hW]
  clear hW
  go_upto_region 5 with (first
    | (refine wpList_load_row_g rfl 41 _ rfl w.heap.size rfl 41 (o.c (.slice pa o.n pc)) (0, 0) _ r0.out Tryz.underlying41 rfl info_op ?_)
    | (go_at_call 25; (with_reducible refine (hgr.out _).mono ?_); rintro e9 w4 ⟨rfl, q2⟩; (try replace r0 := Lib.hid (rowB r0.out q2 (Array.getElem?_eq_some_iff.1 r0.out).1)); (try replace xp := Lib.hid (xp.out.mono q2)); (try replace hG := Lib.hid (hG.out.mono q2)); replace hS0 := Lib.hid (hS0.out.trans (Below.mono q2 hS0.out.size)); clear q2)
    | (go_at_call 26; (with_reducible refine (hal.out _ hG.out).mono ?_); rintro e9 w4 ⟨rfl, q2⟩; (try replace r0 := Lib.hid (rowB r0.out q2 (Array.getElem?_eq_some_iff.1 r0.out).1)); (try replace xp := Lib.hid (xp.out.mono q2)); (try replace hG := Lib.hid (hG.out.mono q2)); replace hS0 := Lib.hid (hS0.out.trans (Below.mono q2 hS0.out.size)); clear q2))
  go_upto_region 8 with (first
    | (refine wpList_load_row_g rfl 41 _ rfl w.heap.size rfl 41 (o.c (.slice pa o.n pc)) (0, 0) _ r0.out Tryz.underlying41 rfl info_op ?_)
    | (go_at_call 20; (with_reducible refine (f2.out _ xp.out hG.out).mono ?_); rintro e9 w4 ⟨qa, qc, rfl, q1, q2⟩; (try replace r0 := Lib.hid (rowB r0.out q2 (Array.getElem?_eq_some_iff.1 r0.out).1)); (try replace xp := Lib.hid (xp.out.mono q2)); (try replace hG := Lib.hid (hG.out.mono q2)); replace hS0 := Lib.hid (hS0.out.trans (Below.mono q2 hS0.out.size)); have xT := Lib.hid q1; clear q1; clear q2)
    | (refine storeNew _ rfl 41 _ _ rfl (T.c (.slice qa T.n qc)) 41 rfl rfl info_op rfl (op_one T qa T.n qc) ?_; intro wx hrx hbx; (try replace r0 := Lib.hid (rowB r0.out hbx (Array.getElem?_eq_some_iff.1 r0.out).1)); (try replace xp := Lib.hid (xp.out.mono hbx)); (try replace hG := Lib.hid (hG.out.mono hbx)); (try replace xT := Lib.hid (xT.out.mono hbx)); replace hS0 := Lib.hid (hS0.out.trans (Below.mono hbx hS0.out.size)); have r9 := Lib.hid hrx; clear hrx hbx))
  clear r0 xp
  go_upto_region 9 with (first
    | (refine loadR 41 _ rfl _ rfl rfl 41 (T.c (.slice qa T.n qc)) (0, 0) _ r9.out Tryz.underlying41 rfl info_op ?_)
    | (go_at_call 18; (with_reducible refine (f3.out _ _ xT.out).mono ?_); rintro e9 w4 ⟨sv, rfl, q1, q2⟩; (try replace r9 := Lib.hid (rowB r9.out q2 (Array.getElem?_eq_some_iff.1 r9.out).1)); (try replace xT := Lib.hid (xT.out.mono q2)); (try replace hG := Lib.hid (hG.out.mono q2)); replace hS0 := Lib.hid (hS0.out.trans (Below.mono q2 hS0.out.size)); have xM := Lib.hid q1; clear q1; clear q2))
  obtain ⟨ma, mc, hsv⟩ := xM.out.slice
  subst hsv
  rw [hNM.out] at xM ⊢
  go_upto_region 10 with (first
    | (refine loadR 41 _ rfl _ rfl rfl 41 (T.c (.slice qa T.n qc)) (0, 0) _ r9.out Tryz.underlying41 rfl info_op ?_)
    | (go_at_call 14; (with_reducible refine (f4.out _ _ xT.out).mono ?_); rintro e9 w4 ⟨sv, rfl, q1, q2⟩; (try replace r9 := Lib.hid (rowB r9.out q2 (Array.getElem?_eq_some_iff.1 r9.out).1)); (try replace xT := Lib.hid (xT.out.mono q2)); (try replace hG := Lib.hid (hG.out.mono q2)); (try replace xM := Lib.hid (xM.out.mono q2)); replace hS0 := Lib.hid (hS0.out.trans (Below.mono q2 hS0.out.size)); have xB := Lib.hid q1.rd; clear q1; clear q2))
  obtain ⟨ba, bc, hsv⟩ := xB.out.slice
  subst hsv
  rw [hNB.out] at xB ⊢
  go_upto_region 12 with (first
    | (refine loadR 41 _ rfl _ rfl rfl 41 (T.c (.slice qa T.n qc)) (0, 0) _ r9.out Tryz.underlying41 rfl info_op ?_)
    | (go_at_call 27; (with_reducible refine (f5.out _ _ _ xT.out xB.out).mono ?_); rintro e9 w4 ⟨rfl, q2⟩; (try replace r9 := Lib.hid (rowB r9.out q2 (Array.getElem?_eq_some_iff.1 r9.out).1)); (try replace xT := Lib.hid (xT.out.mono q2)); (try replace hG := Lib.hid (hG.out.mono q2)); (try replace xM := Lib.hid (xM.out.mono q2)); (try replace xB := Lib.hid (xB.out.mono q2)); replace hS0 := Lib.hid (hS0.out.trans (Below.mono q2 hS0.out.size)); clear q2)
    | (go_at_call 28; (with_reducible refine (f6.out _ _ _ _ xM.out hG.out).mono ?_); rintro e9 w4 ⟨rfl, q2⟩; (try replace r9 := Lib.hid (rowB r9.out q2 (Array.getElem?_eq_some_iff.1 r9.out).1)); (try replace xT := Lib.hid (xT.out.mono q2)); (try replace hG := Lib.hid (hG.out.mono q2)); (try replace xM := Lib.hid (xM.out.mono q2)); (try replace xB := Lib.hid (xB.out.mono q2)); replace hS0 := Lib.hid (hS0.out.trans (Below.mono q2 hS0.out.size)); clear q2))
  go_upto_region 13 with (first
    | (refine loadR 41 _ rfl _ rfl rfl 41 (T.c (.slice qa T.n qc)) (0, 0) _ r9.out Tryz.underlying41 rfl info_op ?_)
    | (go_at_call 19; (with_reducible refine (f7.out _ _ xT.out hG.out).mono ?_); rintro e9 w4 ⟨rfl, q2⟩; (try replace r9 := Lib.hid (rowB r9.out q2 (Array.getElem?_eq_some_iff.1 r9.out).1)); (try replace xT := Lib.hid (xT.out.mono q2)); (try replace hG := Lib.hid (hG.out.mono q2)); (try replace xM := Lib.hid (xM.out.mono q2)); (try replace xB := Lib.hid (xB.out.mono q2)); replace hS0 := Lib.hid (hS0.out.trans (Below.mono q2 hS0.out.size)); clear q2)
    | (refine storeNew _ rfl 43 _ _ rfl (u8s D) 43 rfl rfl di.out (ds.out _ (by kernel_rfl)) (u8s_one _) ?_; intro wx hrx hbx; (try replace r9 := Lib.hid (rowB r9.out hbx (Array.getElem?_eq_some_iff.1 r9.out).1)); (try replace xT := Lib.hid (xT.out.mono hbx)); (try replace hG := Lib.hid (hG.out.mono hbx)); (try replace xM := Lib.hid (xM.out.mono hbx)); (try replace xB := Lib.hid (xB.out.mono hbx)); replace hS0 := Lib.hid (hS0.out.trans (Below.mono hbx hS0.out.size)); have rI := Lib.hid hrx; clear hrx hbx))
  go_upto_region 14 with (first
    | (refine wpList_cut rfl 22 _ _ rfl (by kernel_rfl) (by kernel_rfl) _ B _ _ _ rfl xB.out hNB.out NM rfl u1.out R NR hdB.out hNR.out ?_; intro ra rc x0; have xR := Lib.hid x0; clear x0)
    | (go_at_call 29; (with_reducible refine (f8.out _ _ _ _ _ _ _ xM.out xR.out hG.out).mono ?_); rintro e9 w4 ⟨rfl, q2⟩; (try replace r9 := Lib.hid (rowB r9.out q2 (Array.getElem?_eq_some_iff.1 r9.out).1)); (try replace rI := Lib.hid (rowB rI.out q2 (Array.getElem?_eq_some_iff.1 rI.out).1)); (try replace xT := Lib.hid (xT.out.mono q2)); (try replace hG := Lib.hid (hG.out.mono q2)); (try replace xM := Lib.hid (xM.out.mono q2)); (try replace xB := Lib.hid (xB.out.mono q2)); (try replace xR := Lib.hid (xR.out.mono q2)); replace hS0 := Lib.hid (hS0.out.trans (Below.mono q2 hS0.out.size)); clear q2)
    | (refine storeNew _ rfl 43 _ _ rfl (u8s D) 43 rfl rfl di.out (ds.out _ (by kernel_rfl)) (u8s_one _) ?_; intro wx hrx hbx; (try replace r9 := Lib.hid (rowB r9.out hbx (Array.getElem?_eq_some_iff.1 r9.out).1)); (try replace rI := Lib.hid (rowB rI.out hbx (Array.getElem?_eq_some_iff.1 rI.out).1)); (try replace xT := Lib.hid (xT.out.mono hbx)); (try replace hG := Lib.hid (hG.out.mono hbx)); (try replace xM := Lib.hid (xM.out.mono hbx)); (try replace xB := Lib.hid (xB.out.mono hbx)); (try replace xR := Lib.hid (xR.out.mono hbx)); replace hS0 := Lib.hid (hS0.out.trans (Below.mono hbx hS0.out.size)); have rJ := Lib.hid hrx; clear hrx hbx))
  clear xR xM
  go_upto_region 16 with (first
    | (refine loadR 43 _ rfl _ rfl rfl 43 (u8s D) (0, 0) _ rI.out Tryz.underlying43 rfl di.out ?_)
    | (refine loadR 43 _ rfl _ rfl rfl 43 (u8s D) (0, 0) _ rJ.out Tryz.underlying43 rfl di.out ?_)
    | (refine neqR 43 _ _ rfl (u8s D) (u8s D) rfl rfl rfl id_guardT false (hneq.out _) ?_))
  clear rJ
  go_upto_region 17 with (refine appendB rfl _ _ 22 rfl wx.heap.size 5 Tryz.underlying22 (by kernel_rfl) _ rfl [] (own_nil wx) _ rfl B (xB.out.mono (below_a wx _)) (by have := hNB.out; have := hl4.out; simp; omega) (by simp) ?_)
  intro v5 w5 k1 k2
  replace k1 : OwnB wx.heap.size 5 w5 v5 B := k1
  have hbA := Lib.hid ((below_a wx (.cells #[] 5)).trans ((own_nil wx).below k2 (by simp)))
  have xC := Lib.hid k1.rd
  obtain ⟨g, cc, hv5, hgB, hgw, hat⟩ := own_put k1 (by rw [hNB.out]; exact hpos.out)
  subst hv5
  rw [hNB.out] at xC hat ⊢
  have hgB := Lib.hid hgB; have hgw := Lib.hid hgw; have hat := Lib.hid hat
  clear k1 k2
  refine Stop.go ?_
  by_cases hn0 : 0 ≤ n
  · by_cases hn1 : n < (NB : Int)
    · obtain ⟨u, rfl⟩ : ∃ u : Nat, n = (u : Int) := ⟨n.toNat, by omega⟩
      have hu : u < NB := by omega
      obtain ⟨hc1, hc2, hc3⟩ := hat.out u hu
      have hc3 := Lib.hid hc3
      have hu := Lib.hid hu
      go_upto_region 19 with fail
      have hbX := xor_byte (ith B u) y
      have xD := Lib.hid (hc3.out (bits .xor .u8 (ith B u) y))
      have hCb := Lib.hid (bytes_putT bB.out u _ hbX)
      have hCl := Lib.hid (show (B.set u (bits .xor .u8 (ith B u) y)).length = NB by rw [List.length_set]; exact hNB.out)
      clear hc1 hc2 hc3 hbX
      have hbF := Lib.hid (hbA.out.setCell (p := ⟨g, u, none⟩) hgB.out (.int .u8 (bits .xor .u8 (ith B u) y)))
      (try replace r9 := Lib.hid (rowB r9.out hbF.out (Array.getElem?_eq_some_iff.1 r9.out).1))
      (try replace rI := Lib.hid (rowB rI.out hbF.out (Array.getElem?_eq_some_iff.1 rI.out).1))
      (try replace xT := Lib.hid (xT.out.mono hbF.out))
      (try replace hG := Lib.hid (hG.out.mono hbF.out))
      (try replace xB := Lib.hid (xB.out.mono hbF.out))
      replace hS0 := Lib.hid (hS0.out.trans (Below.mono hbF.out hS0.out.size))
      clear hbF
      go_wp2_with (first
        | (refine loadR 41 _ rfl _ rfl rfl 41 (T.c (.slice qa T.n qc)) (0, 0) _ r9.out Tryz.underlying41 rfl info_op ?_)
        | (refine loadR 43 _ rfl _ rfl rfl 43 (u8s D) (0, 0) _ rI.out Tryz.underlying43 rfl di.out ?_)
        | (go_at_call 30; (with_reducible refine (f9.out _ _ hCb.out hCl.out _ _ _ xT.out xB.out xD.out hG.out).mono ?_); rintro e9 w4 ⟨rfl, q2⟩; (try replace r9 := Lib.hid (rowB r9.out q2 (Array.getElem?_eq_some_iff.1 r9.out).1)); (try replace rI := Lib.hid (rowB rI.out q2 (Array.getElem?_eq_some_iff.1 rI.out).1)); (try replace xT := Lib.hid (xT.out.mono q2)); (try replace hG := Lib.hid (hG.out.mono q2)); (try replace xB := Lib.hid (xB.out.mono q2)); replace hS0 := Lib.hid (hS0.out.trans (Below.mono q2 hS0.out.size)); clear q2))
      go_ret
      exact ⟨rfl, hS0.out⟩
    · go_upto_region 19 with fail
      have hbF := hbA
      (try replace r9 := Lib.hid (rowB r9.out hbF.out (Array.getElem?_eq_some_iff.1 r9.out).1))
      (try replace rI := Lib.hid (rowB rI.out hbF.out (Array.getElem?_eq_some_iff.1 rI.out).1))
      (try replace xT := Lib.hid (xT.out.mono hbF.out))
      (try replace hG := Lib.hid (hG.out.mono hbF.out))
      (try replace xB := Lib.hid (xB.out.mono hbF.out))
      replace hS0 := Lib.hid (hS0.out.trans (Below.mono hbF.out hS0.out.size))
      clear hbF
      go_wp2_with (first
        | (refine loadR 41 _ rfl _ rfl rfl 41 (T.c (.slice qa T.n qc)) (0, 0) _ r9.out Tryz.underlying41 rfl info_op ?_)
        | (refine loadR 43 _ rfl _ rfl rfl 43 (u8s D) (0, 0) _ rI.out Tryz.underlying43 rfl di.out ?_)
        | (go_at_call 30; (with_reducible refine (f9.out _ _ bB.out hNB.out _ _ _ xT.out xB.out xC.out hG.out).mono ?_); rintro e9 w4 ⟨rfl, q2⟩; (try replace r9 := Lib.hid (rowB r9.out q2 (Array.getElem?_eq_some_iff.1 r9.out).1)); (try replace rI := Lib.hid (rowB rI.out q2 (Array.getElem?_eq_some_iff.1 rI.out).1)); (try replace xT := Lib.hid (xT.out.mono q2)); (try replace hG := Lib.hid (hG.out.mono q2)); (try replace xB := Lib.hid (xB.out.mono q2)); replace hS0 := Lib.hid (hS0.out.trans (Below.mono q2 hS0.out.size)); clear q2))
      go_ret
      exact ⟨rfl, hS0.out⟩
  · go_upto_region 19 with fail
    have hbF := hbA
    (try replace r9 := Lib.hid (rowB r9.out hbF.out (Array.getElem?_eq_some_iff.1 r9.out).1))
    (try replace rI := Lib.hid (rowB rI.out hbF.out (Array.getElem?_eq_some_iff.1 rI.out).1))
    (try replace xT := Lib.hid (xT.out.mono hbF.out))
    (try replace hG := Lib.hid (hG.out.mono hbF.out))
    (try replace xB := Lib.hid (xB.out.mono hbF.out))
    replace hS0 := Lib.hid (hS0.out.trans (Below.mono hbF.out hS0.out.size))
    clear hbF
    go_wp2_with (first
      | (refine loadR 41 _ rfl _ rfl rfl 41 (T.c (.slice qa T.n qc)) (0, 0) _ r9.out Tryz.underlying41 rfl info_op ?_)
      | (refine loadR 43 _ rfl _ rfl rfl 43 (u8s D) (0, 0) _ rI.out Tryz.underlying43 rfl di.out ?_)
      | (go_at_call 30; (with_reducible refine (f9.out _ _ bB.out hNB.out _ _ _ xT.out xB.out xC.out hG.out).mono ?_); rintro e9 w4 ⟨rfl, q2⟩; (try replace r9 := Lib.hid (rowB r9.out q2 (Array.getElem?_eq_some_iff.1 r9.out).1)); (try replace rI := Lib.hid (rowB rI.out q2 (Array.getElem?_eq_some_iff.1 rI.out).1)); (try replace xT := Lib.hid (xT.out.mono q2)); (try replace hG := Lib.hid (hG.out.mono q2)); (try replace xB := Lib.hid (xB.out.mono q2)); replace hS0 := Lib.hid (hS0.out.trans (Below.mono q2 hS0.out.size)); clear q2))
    go_ret
    exact ⟨rfl, hS0.out⟩
theorem top_law (a : Nat) (ha : a < 4294967296) (o : Od) (fo : o.Raw) (pv : Value) (n y : Int) (w : World) (hp0 : RdI w pv o.n o.F) (hG0 : GlobW w) :
    Calls Tryz.prog 5 #[.int .u32 (a : Int), .agg (o.c pv), .int .i64 n, .int .u8 y] w fun x w' => x = .returned (.bool true) ∧ Below w.heap.size w w' := by
  cases hg : greatB o with
  | true => exact top_great a ha o fo pv n y w hp0 hG0 hg
  | false =>
    by_cases h1 : 1 ≤ a ∧ a < 500000003
    · by_cases h0 : chkO (o.byA (grp.pw 4 a)).bare = 0
      · exact top_ok a ha o fo pv n y w hp0 hG0 hg h1 h0
      · obtain ⟨_, e2⟩ := chk_errs h0
        refine top_bad a ha o fo pv n y w hp0 hG0 hg _ ⟨e2, .inr ?_⟩ fun wz hz hgz => opSign_bad a h1 o (raw_fit fo hg) pv wz hz h0
        rcases chk_vals (o.byA (grp.pw 4 a)).bare with h | h | h | h
        · exact absurd h h0
        · exact .inl h
        · exact .inr (.inl h)
        · exact .inr (.inr h)
    · exact top_bad a ha o fo pv n y w hp0 hG0 hg 2 ⟨by decide, .inl rfl⟩ fun wz hz hgz => opSign_arg a h1 o pv wz hz
end Go.Proofs.YtfaojjleapenaabGreatDoor.wir.val.top
namespace Go.Proofs.YtfaojjleapenaabGreatDoor
open Go.ChangeShapes Go.WideShapes Go.ChangeAt Go.WideMaps Go.WideElems Go.RowKit Go.YtfaojjleapenaabGreatDoor
set_option linter.unusedVariables false
theorem own : ownKnob Tryz.prog.godebug = none := by kernel_rfl
theorem laidOut : laidOutB Tryz.prog = true := by kernel_rfl
theorem gFirst : Tryz.prog.globalNamed "braid/digest.firstWords" = some 0 := by kernel_rfl
theorem gConst : Tryz.prog.globalNamed "braid/digest.constants" = some 1 := by kernel_rfl
theorem tFirst : (Tryz.prog.globals[0]?).map (·.type) = some 97 := by kernel_rfl
theorem tConst : (Tryz.prog.globals[1]?).map (·.type) = some 160 := by kernel_rfl
def laidL : List (String × DataW Unit) := [("braid/digest.firstWords", Rows.laid_braid_digest_firstWords), ("braid/digest.constants", Rows.laid_braid_digest_constants)]
section
variable {H : Type} {enc : TypeId × Value → H} {P : Program} {w : World} {base : Nat} {sp : Nat → Bool} {held : Bool}
def theInt : Value → Int
  | .int _ k => k
  | _ => 0
theorem trod_ints {fuel : Nat} {t e : TypeId} {n : Nat} {kd : IntKind} {cs : List Value} {x : DataW H × List MemPlace} (ht : P.underlying t = some (.array n e)) (he : P.underlying e = some (.int kd)) (hc : P.cellsOf e = 1) (hct : P.cellsOf t = n)
    (h : DataW.trod enc P w base sp held fuel t cs = some x) : ∃ ks : List Int, cs = ks.map (Value.int kd) ∧ ks.length = n ∧ (∀ k ∈ ks, (Lit.int kd k).wf = true) ∧ x.1 = .agg (ks.map fun k => .lit (.int kd k)) := by
  obtain ⟨xs, m, rfl, rfl, hl, hn, hel⟩ := DataW.trod_array ht h
  have hlen : cs.length = n := hl.trans hct
  have key : ∀ i, i < n → ∃ k, cs[i]? = some (.int kd k) ∧ (Lit.int kd k).wf = true ∧ xs[i]? = some (.lit (.int kd k), []) := by
    intro i hi
    have hx : xs[i]? = some xs[i] := List.getElem?_eq_getElem (by omega)
    have h1 := hel i hi
    rw [hc, Nat.mul_one, hx] at h1
    obtain ⟨k, e1, e2, e3⟩ := DataW.trod_int he h1
    refine ⟨k, ?_, e3, by rw [hx, e2]⟩
    have e4 : ((cs.drop i).take 1)[0]? = some (.int kd k) := by rw [e1]; rfl
    simpa [List.getElem?_take, List.getElem?_drop] using e4
  refine ⟨cs.map theInt, ?_, by simp [hlen], ?_, ?_⟩
  · apply List.ext_getElem?
    intro i
    by_cases hi : i < n
    · obtain ⟨k, e1, _, _⟩ := key i hi
      simp [e1, theInt]
    · rw [List.getElem?_eq_none (by omega), List.getElem?_eq_none (by simp; omega)]
  · intro k hk
    obtain ⟨i, hi, rfl⟩ := List.getElem_of_mem hk
    have hi' : i < n := by simpa [hlen] using hi
    obtain ⟨k, e1, e2, _⟩ := key i hi'
    have : (cs.map theInt)[i]? = some k := by simp [e1, theInt]
    rw [List.getElem?_eq_getElem hi] at this
    rw [Option.some.inj this]; exact e2
  · show DataW.agg _ = DataW.agg _
    congr 1
    apply List.ext_getElem?
    intro i
    by_cases hi : i < n
    · obtain ⟨k, e1, _, e3⟩ := key i hi
      simp [e1, e3, theInt]
    · rw [List.getElem?_eq_none (by simp; omega), List.getElem?_eq_none (by simp; omega)]
theorem trodAll_stays (hl : laidOutB P = true) {W W' : World} {sp' : Nat → Bool} : ∀ {ts : List TypeId} {vs : List Value} {ds : List (DataW H)} {ps : List MemPlace}, (∀ t ∈ ts, P.readableRec t = true ∧ t < P.types.size) →
    DataW.TrodAll enc P W base (fun _ => true) true ts vs ds ps → (∀ p ∈ ps, W.sameAt W' p) → (∀ p ∈ ps, sp' p.block = true) → DataW.TrodAll enc P W' base sp' true ts vs ds ps
  | [], [], [], _, _, h, _, _ => h
  | [], [], _ :: _, _, _, h, _, _ => h.elim
  | [], _ :: _, _, _, _, h, _, _ => by cases ‹List (DataW H)› <;> exact h.elim
  | _ :: _, [], _, _, _, h, _, _ => by cases ‹List (DataW H)› <;> exact h.elim
  | _ :: _, _ :: _, [], _, _, h, _, _ => h.elim
  | t :: ts, v :: vs, d :: ds, ps, ht, h, hs, hp => by
    obtain ⟨p, q, h1, h2, rfl⟩ := h
    obtain ⟨r1, r2⟩ := ht t List.mem_cons_self
    exact ⟨p, q, Trod_stays hl r1 r2 h1 (fun x hx => hs x (List.mem_append_left _ hx)) (fun x hx => hp x (List.mem_append_left _ hx)),
      trodAll_stays hl (fun u hu => ht u (List.mem_cons_of_mem _ hu)) h2 (fun x hx => hs x (List.mem_append_right _ hx)) (fun x hx => hp x (List.mem_append_right _ hx)), rfl⟩
/-- A law's end: true, in a world whose old memory is as' it was. -/
theorem law_post {f : Func} {s : ChangeSpec} {apart fresh handsOn : Bool} {W W' : World} {args : Array Value} {v : Value} {ds gs : List (DataW H)} {before : List MemPlace} (hl : laidOutB P = true)
    (hts : ∀ t ∈ f.params.toList, P.readableRec t = true ∧ t < P.types.size) (hvs : varsRowed P s.vars = true)
    (hW : DataW.Whole enc P f.params.toList s.vars apart W args.toList ds gs before) (hb : Below W.heap.size W W')
    (hres : ∀ (b : Nat) (sp : Nat → Bool) (hd : Bool), DataW.TrodAll enc P W' b sp hd f.resultTypes.toList (v.resultList f.resultTypes.size) (s.fn H (ds ++ gs)).results [])
    (hargs : (s.fn H (ds ++ gs)).args = ds) (hvars : (s.fn H (ds ++ gs)).vars = gs) :
    s.post enc P f apart fresh handsOn false W args v W' := by
  have hW2 := hW
  have hlt : ∀ p ∈ before, p.block < W.heap.size := fun p hp => hW.lt p hp
  obtain ⟨p, q, hA, hV, rfl, hfz, hnd⟩ := hW
  refine ⟨ds, gs, p ++ q, [], p, q, hW2, hres _ _ _, ?_, ?_, hb.frame _, fun h => by cases h⟩
  · rw [hargs]
    exact trodAll_stays hl hts hA (fun x hx => hb.same (hlt x (List.mem_append_left _ hx))) (fun x hx => by simpa using hlt x (List.mem_append_left _ hx))
  · rw [hvars]
    exact Below.trodVars hl hb hvs hV
end
theorem u32s_of {cs : Array Value} {ks : List Int} (h : cs.toList = ks.map (Value.int .u32)) : cs = u32s ks := by
  apply Array.toList_inj.1
  rw [h]; simp [u32s]
theorem lits_inj : ∀ {a b : List Int}, (a.map fun k => (DataW.lit (.int .u32 k) : DataW Unit)) = b.map (fun k => .lit (.int .u32 k)) → a = b
  | [], [], _ => rfl
  | [], _ :: _, h => by simp at h
  | _ :: _, [], h => by simp at h
  | a :: xs, b :: ys, h => by
    simp only [List.map_cons, List.cons.injEq, DataW.lit.injEq, Lit.int.injEq, true_and] at h
    rw [h.1, lits_inj h.2]
theorem bytes_of {ks : List Int} (h : ∀ k ∈ ks, (Lit.int .u8 k).wf = true) : Bytes ks := by
  intro i
  unfold ith
  cases e : ks[i]? with
  | none => simp
  | some k =>
    have h2 := h k (List.mem_of_getElem? e)
    have h3 : 0 ≤ k ∧ k ≤ 255 := by simpa [Lit.wf, IntKind.min, IntKind.max, IntKind.signed, IntKind.bits] using h2
    show 0 ≤ k ∧ k < 256
    omega
/-- What the condition on the listed variables gives the walks. -/
theorem of_laid {W : World} (h : laidMetH Tryz.prog laidL W) : ∃ Tg Tf : TypeId, W.heap[1]? = some (.cells (u32s constW) Tg (0, 0)) ∧ W.heap[0]? = some (.cells firstW.cells Tf (0, 0)) := by
  rw [MakeChecks.laidMetH_plain _ _ _ (by kernel_rfl)] at h
  obtain ⟨ps, ⟨g0, t0, cs0, f0, p0, q0, hg0, ht0, hv0, hd0, ⟨g1, t1, cs1, f1, p1, q1, hg1, ht1, hv1, hd1, _, eq1⟩, eq0⟩, _, hm⟩ := h
  obtain rfl := Option.some.inj (gFirst.symm.trans hg0)
  obtain rfl := Option.some.inj (gConst.symm.trans hg1)
  obtain rfl := Option.some.inj (tFirst.symm.trans ht0)
  obtain rfl := Option.some.inj (tConst.symm.trans ht1)
  obtain ⟨k0, a0, l0, _, x0⟩ := trod_ints Tryz.underlying97 Tryz.underlying31 (by kernel_rfl) (by kernel_rfl) hd0
  obtain ⟨k1, a1, l1, _, x1⟩ := trod_ints Tryz.underlying160 Tryz.underlying31 (by kernel_rfl) (by kernel_rfl) hd1
  have c0 := u32s_of a0
  have c1 := u32s_of a1
  have d0 : k0 = firstW.list := lits_inj (DataW.agg.inj (x0.symm.trans rfl))
  have d1 : k1 = constW := lits_inj (DataW.agg.inj (x1.symm.trans rfl))
  have z0 : cs0.size = 8 := by rw [c0]; simpa [u32s] using l0
  have z1 : cs1.size = 64 := by rw [c1]; simpa [u32s] using l1
  have m0 := (hm 0 0 (by rw [eq0]; exact List.mem_append_left _ (List.mem_append_left _ (MemPlace.mem_row.2 ⟨0, by omega, rfl⟩)))).1
  have m1 := (hm 1 0 (by rw [eq0, eq1]; exact List.mem_append_right _ (List.mem_append_left _ (List.mem_append_left _ (MemPlace.mem_row.2 ⟨0, by omega, rfl⟩))))).1
  obtain ⟨e0, T0, m0⟩ := m0
  obtain ⟨e1, T1, m1⟩ := m1
  unfold World.var? at hv0 hv1
  rw [gFirst] at hv0
  rw [gConst] at hv1
  simp only [Option.bind_some, m0, m1, Option.some.injEq] at hv0 hv1
  refine ⟨T1, T0, ?_, ?_⟩
  · rw [m1, hv1, c1, d1]
  · rw [m0, hv0, c0, d0]; rfl
/-- The door's own heap meets the condition. -/
theorem door_met (os : Os) (args : Array Value) : laidMetH Tryz.prog laidL ((World.doorLaid Tryz.prog 400 os).forCall (fun _ _ => 0) ⟨#[], args, []⟩).memory :=
  laidMetH_of_parts3 (fuel := 8) (laidMet_of_run' 8 (by kernel_rfl) (by kernel_rfl)) (by kernel_rfl) (by kernel_rfl)
end Go.Proofs.YtfaojjleapenaabGreatDoor
namespace Go.Proofs.YtfaojjleapenaabGreatDoor
open Go.ChangeShapes Go.WideShapes Go.ChangeAt Go.WideMaps Go.WideElems Go.RowKit Go.YtfaojjleapenaabGreatDoor
set_option linter.unusedVariables false
section
variable {H : Type} {enc : TypeId × Value → H} {P : Program} {W : World}
end
end Go.Proofs.YtfaojjleapenaabGreatDoor
namespace Go.Proofs.YtfaojjleapenaabGreatDoor.wir.val
open Go.ChangeShapes Go.WideShapes Go.ChangeAt Go.WideMaps Go.WideElems Go.RowKit Go.Joins Go.YtfaojjleapenaabGreatDoor
set_option linter.unusedVariables false
section
variable {H : Type} {enc : TypeId × Value → H} {P : Program} {W : World}
theorem addr_add_spot (a : Addr) (j k : Nat) : (a.add j).add k = a.add (j + k) := by
  by_cases hj : j = 0
  · subst hj; simp [Addr.add]
  · by_cases hk : k = 0
    · subst hk; simp [Addr.add]
    · simp [Addr.add, hj, hk, Nat.add_assoc]
theorem trod_ids {t e e8 : TypeId} (ht : P.underlying t = some (.slice e)) (he : P.underlying e = some (.array 32 e8)) (he8 : P.underlying e8 = some (.int .u8)) (hc8 : P.cellsOf e8 = 1) (hc : P.cellsOf e = 32) {fuel : Nat} {cs : List Value} {x : DataW H × List MemPlace}
    (h : DataW.trod enc P W 0 (fun _ => true) true fuel t cs = some x) : ∃ v n F, cs = [v] ∧ RdI W v n F ∧ Bytes F := by
  rcases DataW.trod_slice ht h with ⟨rfl, _⟩ | ⟨a, len, cap, elems, rest, m, _, rfl, _, hb, hl, hm, hlen, hel, _, _⟩
  · exact ⟨_, 0, [], rfl, .inl ⟨none, 0, rfl, fun _ => rfl, rfl, rfl⟩, bytes_nil⟩
  · have each : ∀ i, i < len → ∃ ks : List Int, ks.length = 32 ∧ Bytes ks ∧ ∀ j, j < 32 → W.cell? (a.add (i * 32 + j)) = some (.int .u8 (ith ks j)) := by
      intro i hi
      have h1 := hel i hi
      have hy : elems[i]? = some elems[i] := List.getElem?_eq_getElem (by omega)
      rw [hc, hy, Option.bind_eq_some_iff] at h1
      obtain ⟨cs', hcs, hy'⟩ := h1
      obtain ⟨ks, e1, e2, e3, _⟩ := trod_ints he he8 hc8 hc hy'
      have hcell := World.cells?_some hcs
      refine ⟨ks, e2, bytes_of e3, fun j hj => ?_⟩
      have h2 := hcell.2.2 j hj
      rw [addr_add_spot, e1] at h2
      rw [h2]
      simp [ith, e2, hj]
    have build : ∀ k, k ≤ len → ∃ F : List Int, F.length = 32 * k ∧ Bytes F ∧ ∀ i, i < 32 * k → W.cell? (a.add i) = some (.int .u8 (ith F i)) := by
      intro k
      induction k with
      | zero => intro _; exact ⟨[], rfl, bytes_nil, fun i hi => by omega⟩
      | succ k ih =>
        intro hk
        obtain ⟨F, f1, f2, f3⟩ := ih (by omega)
        obtain ⟨ks, k1, k2, k3⟩ := each k (by omega)
        refine ⟨F ++ ks, by rw [List.length_append, f1, k1]; omega, bytes_append _ _ f2 k2, fun i hi => ?_⟩
        rw [ith_append, f1]
        split
        · rename_i h; exact f3 i h
        · rename_i h
          have := k3 (i - 32 * k) (by omega)
          rw [show k * 32 + (i - 32 * k) = i by omega] at this
          exact this
    obtain ⟨F, f1, f2, f3⟩ := build len (Nat.le_refl _)
    by_cases h0 : len = 0
    · subst h0
      obtain rfl : F = [] := List.eq_nil_of_length_eq_zero (by omega)
      exact ⟨_, 0, [], rfl, .inl ⟨some a, cap, rfl, (fun h => by cases h), rfl, rfl⟩, bytes_nil⟩
    · obtain ⟨b, o, spot⟩ := a
      have hspot : spot = none := by simpa [Addr.add] using World.cell?_spot (f3 0 (by omega))
      subst hspot
      refine ⟨_, len, F, rfl, .inr ⟨b, o, cap, rfl, hl, hm, World.block_lt_of_cell? _ _ (f3 0 (by omega)), f1, fun i hi => ?_⟩, f2⟩
      have := f3 i (by omega)
      rw [addr_add] at this
      exact this
theorem trod_struct5 {t : TypeId} {f0 f1 f2 f3 f4 : Field} {base fuel : Nat} {spare : Nat → Bool} {held : Bool} {w : World} {cs : List Value} {x : DataW H × List MemPlace} (ht : P.underlying t = some (.struct #[f0, f1, f2, f3, f4])) (h : DataW.trod enc P w base spare held fuel t cs = some x) :
    ∃ y0 y1 y2 y3 y4 n, cs.length = P.cellsOf t ∧ DataW.trod enc P w base spare held n f0.type ((cs.drop f0.offset).take (P.cellsOf f0.type)) = some y0 ∧
      DataW.trod enc P w base spare held n f1.type ((cs.drop f1.offset).take (P.cellsOf f1.type)) = some y1 ∧ DataW.trod enc P w base spare held n f2.type ((cs.drop f2.offset).take (P.cellsOf f2.type)) = some y2 ∧
      DataW.trod enc P w base spare held n f3.type ((cs.drop f3.offset).take (P.cellsOf f3.type)) = some y3 ∧ DataW.trod enc P w base spare held n f4.type ((cs.drop f4.offset).take (P.cellsOf f4.type)) = some y4 := by
  obtain ⟨xs, n, _, rfl, hl, hlen, hf⟩ := DataW.trod_struct ht h
  match xs, hlen with
  | [y0, y1, y2, y3, y4], _ => exact ⟨y0, y1, y2, y3, y4, n, hl, by simpa using hf 0 f0 rfl, by simpa using hf 1 f1 rfl, by simpa using hf 2 f2 rfl, by simpa using hf 3 f3 rfl, by simpa using hf 4 f4 rfl⟩
end
theorem array11 {α : Type} {cs : Array α} (h : cs.size = 11) : ∃ c0 c1 c2 c3 c4 c5 c6 c7 c8 c9 c10, cs = #[c0, c1, c2, c3, c4, c5, c6, c7, c8, c9, c10] := by
  obtain ⟨l⟩ := cs
  match l, h with
  | [c0, c1, c2, c3, c4, c5, c6, c7, c8, c9, c10], _ => exact ⟨c0, c1, c2, c3, c4, c5, c6, c7, c8, c9, c10, rfl⟩
theorem natOf64 (x : Int) (h : (Lit.int .u64 x).wf = true) : ∃ n : Nat, x = (n : Int) ∧ n < 18446744073709551616 := by
  have h3 : 0 ≤ x ∧ x ≤ 18446744073709551615 := by simpa [Lit.wf, IntKind.min, IntKind.max, IntKind.signed, IntKind.bits] using h
  exact ⟨x.toNat, by omega, by omega⟩
theorem natOf32 (x : Int) (h : (Lit.int .u32 x).wf = true) : ∃ n : Nat, x = (n : Int) ∧ n < 4294967296 := by
  have h3 : 0 ≤ x ∧ x ≤ 4294967295 := by simpa [Lit.wf, IntKind.min, IntKind.max, IntKind.signed, IntKind.bits] using h
  exact ⟨x.toNat, by omega, by omega⟩
theorem boundsOf64 (x : Int) (h : (Lit.int .i64 x).wf = true) : -9223372036854775808 ≤ x ∧ x ≤ 9223372036854775807 := by
  simpa [Lit.wf, IntKind.min, IntKind.max, IntKind.signed, IntKind.bits] using h
section
variable {H : Type} {enc : TypeId × Value → H} {W : World}
set_option maxRecDepth 10000 in
theorem open_op {v : Value} {d : DataW H} {p : List MemPlace} {r : Reach} {b0 : Nat} (hv : Value.okWide Tryz.prog W r b0 41 v) (h : DataW.Trod enc Tryz.prog W 0 (fun _ => true) true 41 v d p) :
    ∃ (o : Od) (pv : Value), v = .agg (o.c pv) ∧ o.Raw ∧ RdI W pv o.n o.F := by
  obtain ⟨cs, rfl, hsz⟩ := okWide_struct Tryz.underlying41 hv
  obtain ⟨c0, c1, c2, c3, c4, c5, c6, c7, c8, c9, c10, rfl⟩ := array11 (hsz.trans (by kernel_rfl))
  obtain ⟨fuel, hf⟩ := h
  obtain ⟨y0, y1, y2, y3, y4, n, _, e0, e1, e2, e3, e4⟩ := trod_struct5 Tryz.underlying41 hf
  have k32 : Tryz.prog.cellsOf 31 = 1 := by kernel_rfl
  have kI : Tryz.prog.cellsOf 32 = 1 := by kernel_rfl
  have k64 : Tryz.prog.cellsOf 33 = 1 := by kernel_rfl
  have kA : Tryz.prog.cellsOf 37 = 6 := by kernel_rfl
  have kS : Tryz.prog.cellsOf 39 = 2 := by kernel_rfl
  have k8 : Tryz.prog.cellsOf 5 = 1 := by kernel_rfl
  have kT : Tryz.prog.cellsOf 9 = 1 := by kernel_rfl
  have kV : Tryz.prog.cellsOf 35 = 4 := by kernel_rfl
  have kN : Tryz.prog.cellsOf 2 = 1 := by kernel_rfl
  dsimp only at e0 e1 e2 e3 e4
  rw [k32] at e0
  rw [kI] at e1
  rw [k64] at e2
  rw [kA] at e3
  rw [kS] at e4
  simp only [Value.cells, List.drop_zero, List.take_succ_cons, List.take_zero, List.drop_succ_cons] at e0 e1 e2 e3 e4
  obtain ⟨au, a0, _, w0⟩ := DataW.trod_int Tryz.underlying31 e0
  obtain ⟨pv, pn, F, a1, hF, hFb⟩ := trod_ids Tryz.underlying32 Tryz.underlying43 Tryz.underlying5 (by kernel_rfl) (by kernel_rfl) e1
  obtain ⟨st, a2, _, w2⟩ := DataW.trod_int Tryz.underlying33 e2
  obtain ⟨z0, z1, z2, n2, _, _, g0, g1, g2⟩ := Deep.trod_struct3 Tryz.underlying37 e3
  obtain ⟨u0, u1, n3, _, _, s0, s1⟩ := trod_struct2 Tryz.underlying39 e4
  dsimp only at g0 g1 g2 s0 s1
  rw [k8] at g0
  rw [kT] at g1
  rw [kV] at g2
  rw [k32] at s0 s1
  simp only [List.drop_zero, List.take_succ_cons, List.take_zero, List.drop_succ_cons] at g0 g1 g2 s0 s1
  obtain ⟨k, b0, _, x0⟩ := DataW.trod_int Tryz.underlying5 g0
  obtain ⟨key, b1, _, x1⟩ := DataW.trod_string Tryz.underlying9 g1
  obtain ⟨q0, q1, q2, q3, n4, _, _, v0, v1, v2, v3⟩ := trod_struct4 Tryz.underlying35 g2
  dsimp only at v0 v1 v2 v3
  rw [k8] at v0
  rw [kN] at v1
  rw [k64] at v2
  rw [kT] at v3
  simp only [List.drop_zero, List.take_succ_cons, List.take_zero, List.drop_succ_cons] at v0 v1 v2 v3
  obtain ⟨vk, d0, _, y0⟩ := DataW.trod_int Tryz.underlying5 v0
  obtain ⟨vn, d1, _, y1⟩ := DataW.trod_int Tryz.underlying2 v1
  obtain ⟨vb, d2, _, y2⟩ := DataW.trod_int Tryz.underlying33 v2
  obtain ⟨vs, d3, _, y3⟩ := DataW.trod_string Tryz.underlying9 v3
  obtain ⟨e, f0, _, t0⟩ := DataW.trod_int Tryz.underlying31 s0
  obtain ⟨s, f1, _, t1⟩ := DataW.trod_int Tryz.underlying31 s1
  obtain ⟨au, rfl, hau⟩ := natOf32 au w0
  obtain ⟨st, rfl, hst⟩ := natOf64 st w2
  obtain ⟨vb, rfl, hvb⟩ := natOf64 vb y2
  obtain ⟨e, rfl, he⟩ := natOf32 e t0
  obtain ⟨s, rfl, hs⟩ := natOf32 s t1
  have hk : 0 ≤ k ∧ k ≤ 255 := by simpa [Lit.wf, IntKind.min, IntKind.max, IntKind.signed, IntKind.bits] using x0
  have hvk : 0 ≤ vk ∧ vk ≤ 255 := by simpa [Lit.wf, IntKind.min, IntKind.max, IntKind.signed, IntKind.bits] using y0
  refine ⟨⟨au, pn, F, st, k, key, ⟨vk, vn, vb, vs⟩, e, s⟩, pv, ?_, ⟨hau, hFb, hst, ⟨hk.1, show k < 256 by omega⟩, ⟨hvk.1, show vk < 256 by omega⟩, boundsOf64 vn y1, hvb, he, hs⟩, hF⟩
  rw [(List.cons.inj a0).1, (List.cons.inj a1).1, (List.cons.inj a2).1, (List.cons.inj b0).1, (List.cons.inj b1).1, (List.cons.inj d0).1, (List.cons.inj d1).1, (List.cons.inj d2).1, (List.cons.inj d3).1, (List.cons.inj f0).1, (List.cons.inj f1).1]
end
end Go.Proofs.YtfaojjleapenaabGreatDoor.wir.val

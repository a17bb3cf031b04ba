/- JudgeSigned's walk. -/
import Derived.Test.YtoknefeciopdpaaGreatDoorK11
namespace Go.Proofs.YtoknefeciopdpaaGreatDoor.wir.val
open Go.RowKit Go.YtoknefeciopdpaaGreatDoor
set_option linter.unusedVariables false
theorem vd_enc {T : Od} (fT : T.Fit) (hF : T.F.length = 32 * T.n) (hc : chkO T = 0) : vd (encO T) = if verO T = 0 then 0 else 4 := by
  obtain ⟨h1, h2, h3⟩ := chk_zero hc
  have hl := encO_short T fT h1 hF h3
  unfold vd
  rw [if_neg (by omega), decO_enc fT hF hc]
set_option maxHeartbeats 8000000 in
set_option maxRecDepth 100000 in
theorem signed_law8 (a : Nat) (ha : a < 4294967296) (o : Od) (fo : o.Raw) (pv : Value) (e s : Nat) (he : e < 4294967296) (hs : s < 4294967296) (w : World) (hp0 : RdI w pv o.n o.F) (hG0 : GlobW w) :
    Calls Tryz.prog 10 #[.int .u32 (a : Int), .agg (o.c pv), .agg #[.int .u32 (e : Int), .int .u32 (s : Int)]] w fun x w' => x = .returned (.bool true) ∧ Below w.heap.size w w' := by
  obtain ⟨pa, pc, rfl⟩ := hp0.slice
  obtain ⟨W, hW⟩ : ∃ W, W = (w.alloc (.cells (o.c (.slice pa o.n pc)) 32)).alloc (.cells #[.int .u32 (e : Int), .int .u32 (s : Int)] 30) := ⟨_, rfl⟩
  have hS := Lib.hid (show Below w.heap.size w W by rw [hW]; exact ((Below.refl w.heap.size w).alloc (Nat.le_refl _) _).alloc (by simp) _)
  have r4 := Lib.hid (show W.heap[w.heap.size]? = some (.cells (o.c (.slice pa o.n pc)) 32 (0, 0)) by rw [hW]; exact rowA w _ _)
  have r5 := Lib.hid (show W.heap[w.heap.size + 1]? = some (.cells #[.int .u32 (e : Int), .int .u32 (s : Int)] 30 (0, 0)) by rw [hW]; exact hn2 w _ _)
  have pw := Lib.hid hp0
  have hG := Lib.hid hG0
  have hgr := Lib.hid (fun wz => great_any o pa pc wz)
  have hlF := hp0.len
  clear hp0 hG0
  cases hg : greatB o with
  | true =>
    rw [hg] at hgr
    clear fo hg hlF
    go_enter Tryz.func10, Tryz.ntmps10
    go_upto_region 1 with fail
    rw [← hW]
    clear hW
    go_wp2_with (first | (refine wpList_load_row_g rfl 32 _ rfl w.heap.size rfl 32 (o.c (.slice pa o.n pc)) (0, 0) _ r4.out Tryz.underlying32 rfl info_op ?_) | (go_at_call 20; (with_reducible refine (hgr.out _).mono ?_); rintro e9 w4 ⟨rfl, q2⟩; (try replace r4 := Lib.hid (rowB r4.out q2 (Array.getElem?_eq_some_iff.1 r4.out).1)); replace hS := Lib.hid (hS.out.trans (Below.mono q2 hS.out.size)); clear q2) | (go_at_call 37; (with_reducible refine (alive8 _ (hG.out.mono hS.out)).mono ?_); rintro e9 w4 ⟨rfl, q2⟩; (try replace r4 := Lib.hid (rowB r4.out q2 (Array.getElem?_eq_some_iff.1 r4.out).1)); replace hS := Lib.hid (hS.out.trans (Below.mono q2 hS.out.size)); clear q2))
    go_ret
    exact ⟨rfl, hS.out⟩
  | false =>
    rw [hg] at hgr
    have ffo := raw_fit fo hg
    clear fo hg
    by_cases h1 : 1 ≤ a ∧ a < 500000003
    · by_cases hc0 : chkO (o.byA (grp.pw 4 a)).bare = 0
      · obtain ⟨T, fT, cT, vT, nT, FT, _, hSg0⟩ := sig_gen a h1 o ffo hlF hc0
        have hF : T.F.length = 32 * T.n := by rw [nT, FT]; exact hlF
        obtain ⟨v0, vlen, vby⟩ := vd_good fT hF cT vT
        have hd := decO_enc fT hF cT
        have hsg := Lib.hid (fun (wz : World) (h : RdI wz (.slice pa o.n pc) o.n o.F) (hg : GlobW wz) => hSg0 wz _ h hg)
        have hen := Lib.hid (fun (wz : World) (v : Value) (h : RdI wz v T.n T.F) => opEncode_ok T fT v wz h cT)
        have hof := Lib.hid (fun (wz : World) (v : Value) (h : RdB wz v (encO T)) (hg : GlobW wz) => judgeOf_yes (encO T) v wz h vby hg T hd v0)
        have hid := Lib.hid (fun (wz : World) (v : Value) (h : RdI wz v T.n T.F) (hg : GlobW wz) => (show Calls Tryz.prog 16 #[.agg (T.c v)] wz fun e w' => e = .returned (.tuple #[.agg (u8s (shaF (encO T))), .int .i64 0]) ∧ Below wz.heap.size wz w' from by
          obtain ⟨Tg, Tf, g1, g2⟩ := hg
          exact opID_ok T fT v wz h cT g1 g2))
        have hsm := Lib.hid (fun (wz : World) (v1 v2 : Value) (h : RdI wz v1 T.n T.F) (h2 : RdI wz v2 T.n T.F) => sameO_yes T (Nat.le_trans (chk_zero cT).1 (by decide)) v1 v2 wz h h2)
        have f2 := fit_sg fT e s he hs
        have hck := Lib.hid (fun (wz : World) (v : Value) (h : RdI wz v T.n T.F) => ropCheck_any (T.sg e s) f2 v wz h)
        have hver := Lib.hid (fun (wz : World) (v : Value) (h : RdI wz v T.n T.F) (hg : GlobW wz) => opVerify_any (T.sg e s) f2 v wz h hg)
        have hrest : chkO (T.sg e s) ≠ 0 ∨ (chkO (T.sg e s) = 0 ∧ ∃ B : List Int, (∀ (wz : World) (v : Value), RdI wz v T.n T.F → Calls Tryz.prog 14 #[.agg ((T.sg e s).c v)] wz fun e9 w' => ∃ sv, e9 = .returned (.tuple #[sv, .int .i64 0]) ∧ OwnB wz.heap.size 5 w' sv B ∧ Below wz.heap.size wz w') ∧
            (∀ (wz : World) (v : Value), RdB wz v B → GlobW wz → Calls Tryz.prog 36 #[v] wz fun e9 w' => e9 = .returned (.int .u8 (if verO (T.sg e s) = 0 then 0 else 4)) ∧ Below wz.heap.size wz w')) := by
          by_cases hc : chkO (T.sg e s) = 0
          · refine .inr ⟨hc, encO (T.sg e s), fun wz v h => opEncode_ok (T.sg e s) f2 v wz h hc, fun wz v h hg => ?_⟩
            have h := verdict_any (encO (T.sg e s)) v wz h (encO_bytes (T.sg e s) f2 (chk_zero hc).1 (chk_zero hc).2.2) hg
            rw [vd_enc f2 hF hc] at h
            exact h
          · exact .inl hc
        have hDl : (shaF (encO T)).length = 32 := shaF_length _
        generalize shaF (encO T) = D at *
        have di := Lib.hid (show (Tryz.prog.info? 42).map (·.size) = some (u8s D).size by rw [u8s_size, hDl]; kernel_rfl)
        have ds := Lib.hid (show ∀ x : Array Value, x = u8s (zerosB 32) → x.size = (u8s D).size from fun x hx => by rw [hx, u8s_size, u8s_size, hDl, zerosB_length])
        have hneq := Lib.hid (fun wz => (neq_id D D hDl hDl wz).trans (by rw [decide_eq_true rfl]))
        generalize encO T = EC at *
        obtain ⟨NC, hNC0⟩ : ∃ N, EC.length = N := ⟨_, rfl⟩
        have hNC := Lib.hid hNC0
        have hrest := Lib.hid hrest
        clear hSg0 ffo hlF h1 hc0 hd v0 vlen vby fT cT vT nT FT hF f2 hDl hNC0
        go_enter Tryz.func10, Tryz.ntmps10
        go_upto_region 1 with fail
        rw [← hW]
        clear hW
        go_upto_region 3 with (first | (refine wpList_load_row_g rfl 32 _ rfl w.heap.size rfl 32 (o.c (.slice pa o.n pc)) (0, 0) _ r4.out Tryz.underlying32 rfl info_op ?_) | (go_at_call 20; (with_reducible refine (hgr.out _).mono ?_); rintro e9 w4 ⟨rfl, q2⟩; (try replace r4 := Lib.hid (rowB r4.out q2 (Array.getElem?_eq_some_iff.1 r4.out).1)); (try replace r5 := Lib.hid (rowB r5.out q2 (Array.getElem?_eq_some_iff.1 r5.out).1)); replace hS := Lib.hid (hS.out.trans (Below.mono q2 hS.out.size)); clear q2))
        go_upto_region 6 with (first | (refine wpList_load_row_g rfl 32 _ rfl w.heap.size rfl 32 (o.c (.slice pa o.n pc)) (0, 0) _ r4.out Tryz.underlying32 rfl info_op ?_) | (go_at_call 23; (with_reducible refine (hsg.out _ (pw.out.mono hS.out) (hG.out.mono hS.out)).mono ?_); rintro e9 wS ⟨qa, qc, rfl, q1, q2⟩; (try replace r4 := Lib.hid (rowB r4.out q2 (Array.getElem?_eq_some_iff.1 r4.out).1)); (try replace r5 := Lib.hid (rowB r5.out q2 (Array.getElem?_eq_some_iff.1 r5.out).1)); replace hS := Lib.hid (hS.out.trans (Below.mono q2 hS.out.size)); have xT := Lib.hid q1; have hgS := Lib.hid (show w.heap.size ≤ wS.heap.size from Nat.le_of_lt (Array.getElem?_eq_some_iff.1 r4.out).1); clear q1; clear q2) | (refine storeNew _ rfl 32 _ _ rfl (T.c (.slice qa T.n qc)) 32 rfl rfl info_op rfl (op_one T qa T.n qc) ?_; intro wx hrx hbx; (try replace r4 := Lib.hid (rowB r4.out hbx (Array.getElem?_eq_some_iff.1 r4.out).1)); (try replace r5 := Lib.hid (rowB r5.out hbx (Array.getElem?_eq_some_iff.1 r5.out).1)); replace hS := Lib.hid (hS.out.trans (Below.mono hbx hS.out.size)); have rT := Lib.hid hrx; have hT := Lib.hid hbx; clear hrx hbx))
        have hgT := Lib.hid hgS.out
        go_upto_region 7 with (first | (refine wpList_load_row_g rfl 32 _ rfl _ rfl 32 (T.c (.slice qa T.n qc)) (0, 0) _ rT.out Tryz.underlying32 rfl info_op ?_) | (go_at_call 14; (with_reducible refine (hen.out _ _ (xT.out.mono hT.out)).mono ?_); rintro e9 w4 ⟨sv, rfl, q1, q2⟩; (try replace r4 := Lib.hid (rowB r4.out q2 (Array.getElem?_eq_some_iff.1 r4.out).1)); (try replace r5 := Lib.hid (rowB r5.out q2 (Array.getElem?_eq_some_iff.1 r5.out).1)); (try replace rT := Lib.hid (rowB rT.out q2 (Array.getElem?_eq_some_iff.1 rT.out).1)); replace hT := Lib.hid (hT.out.trans (Below.mono q2 hT.out.size)); replace hS := Lib.hid (hS.out.trans (Below.mono q2 hS.out.size)); have xC := Lib.hid q1.rd; clear q1; clear q2))
        obtain ⟨ca, cc, hsv⟩ := xC.out.slice
        subst hsv
        rw [hNC.out] at xC
        rw [hNC.out]
        go_upto_region 8 with (first
          | (go_at_call 35; (with_reducible refine (hof.out _ _ xC.out (hG.out.mono hS.out)).mono ?_); rintro e9 w4 ⟨xa, xc, rfl, q1, q2⟩; (try replace r4 := Lib.hid (rowB r4.out q2 (Array.getElem?_eq_some_iff.1 r4.out).1)); (try replace r5 := Lib.hid (rowB r5.out q2 (Array.getElem?_eq_some_iff.1 r5.out).1)); (try replace rT := Lib.hid (rowB rT.out q2 (Array.getElem?_eq_some_iff.1 rT.out).1)); (try replace xC := Lib.hid (xC.out.mono q2)); replace hT := Lib.hid (hT.out.trans (Below.mono q2 hT.out.size)); replace hS := Lib.hid (hS.out.trans (Below.mono q2 hS.out.size)); have xO := Lib.hid q1; clear q1; clear q2)
          | (refine wpList_store_row rfl 32 _ _ rfl w4.heap.size (T.c (.slice xa T.n xc)) rfl rfl 32 _ (rowA w4 _ _) info_op rfl (op_one T xa T.n xc) ?_)
          | (refine storeOver _ (w4.heap.size + 1) _ rfl 42 _ _ rfl (u8s D) 42 ((setRow_other _ w4.heap.size (w4.heap.size + 1) _ (by omega)).trans (hn2 w4 _ _)) rfl rfl di.out (ds.out _ (by kernel_rfl)) (u8s_one _) ?_; intro wx hrx hbx0; have hbx := Lib.hid (show Below w4.heap.size w4 wx from (below_setRow' ((below_a w4 _).alloc (by simp) _) (Nat.le_refl _) _).trans (hbx0.mono (Nat.le_succ _))); (try replace r4 := Lib.hid (rowB r4.out hbx.out (Array.getElem?_eq_some_iff.1 r4.out).1)); (try replace r5 := Lib.hid (rowB r5.out hbx.out (Array.getElem?_eq_some_iff.1 r5.out).1)); (try replace rT := Lib.hid (rowB rT.out hbx.out (Array.getElem?_eq_some_iff.1 rT.out).1)); (try replace xC := Lib.hid (xC.out.mono hbx.out)); (try replace xO := Lib.hid (xO.out.mono hbx.out)); replace hT := Lib.hid (hT.out.trans (Below.mono hbx.out hT.out.size)); replace hS := Lib.hid (hS.out.trans (Below.mono hbx.out hS.out.size)); have rO := Lib.hid ((hbx0.block w4.heap.size (Nat.lt_succ_self _)).trans (setRow_heap _ _ _ (T.c (.slice xa T.n xc)) _ _ (rowA w4 _ _))); have rI := Lib.hid hrx; clear hrx hbx0 hbx))
        go_upto_region 9 with (first | (refine wpList_load_row_g rfl 32 _ rfl _ rfl 32 (T.c (.slice qa T.n qc)) (0, 0) _ rT.out Tryz.underlying32 rfl info_op ?_) | (go_at_call 16; (with_reducible refine (hid.out _ _ (xT.out.mono hT.out) (hG.out.mono hS.out)).mono ?_); rintro e9 w4 ⟨rfl, q2⟩; (try replace r4 := Lib.hid (rowB r4.out q2 (Array.getElem?_eq_some_iff.1 r4.out).1)); (try replace r5 := Lib.hid (rowB r5.out q2 (Array.getElem?_eq_some_iff.1 r5.out).1)); (try replace rT := Lib.hid (rowB rT.out q2 (Array.getElem?_eq_some_iff.1 rT.out).1)); (try replace rO := Lib.hid (rowB rO.out q2 (Array.getElem?_eq_some_iff.1 rO.out).1)); (try replace rI := Lib.hid (rowB rI.out q2 (Array.getElem?_eq_some_iff.1 rI.out).1)); (try replace xC := Lib.hid (xC.out.mono q2)); (try replace xO := Lib.hid (xO.out.mono q2)); replace hT := Lib.hid (hT.out.trans (Below.mono q2 hT.out.size)); replace hS := Lib.hid (hS.out.trans (Below.mono q2 hS.out.size)); clear q2) | (refine storeNew _ rfl 42 _ _ rfl (u8s D) 42 rfl rfl di.out (ds.out _ (by kernel_rfl)) (u8s_one _) ?_; intro wx hrx hbx; (try replace r4 := Lib.hid (rowB r4.out hbx (Array.getElem?_eq_some_iff.1 r4.out).1)); (try replace r5 := Lib.hid (rowB r5.out hbx (Array.getElem?_eq_some_iff.1 r5.out).1)); (try replace rT := Lib.hid (rowB rT.out hbx (Array.getElem?_eq_some_iff.1 rT.out).1)); (try replace rO := Lib.hid (rowB rO.out hbx (Array.getElem?_eq_some_iff.1 rO.out).1)); (try replace rI := Lib.hid (rowB rI.out hbx (Array.getElem?_eq_some_iff.1 rI.out).1)); (try replace xC := Lib.hid (xC.out.mono hbx)); (try replace xO := Lib.hid (xO.out.mono hbx)); replace hT := Lib.hid (hT.out.trans (Below.mono hbx hT.out.size)); replace hS := Lib.hid (hS.out.trans (Below.mono hbx hS.out.size)); have rS := Lib.hid hrx; clear hrx hbx))
        go_upto_region 11 with (first
          | (refine wpList_load_row_g rfl 32 _ rfl _ rfl 32 (T.c (.slice xa T.n xc)) (0, 0) _ rO.out Tryz.underlying32 rfl info_op ?_)
          | (refine wpList_load_row_g rfl 32 _ rfl _ rfl 32 (T.c (.slice qa T.n qc)) (0, 0) _ rT.out Tryz.underlying32 rfl info_op ?_)
          | (go_at_call 18; (with_reducible refine (hsm.out _ _ _ xO.out (xT.out.mono hT.out)).mono ?_); rintro e9 w4 ⟨rfl, q2⟩; (try replace r4 := Lib.hid (rowB r4.out q2 (Array.getElem?_eq_some_iff.1 r4.out).1)); (try replace r5 := Lib.hid (rowB r5.out q2 (Array.getElem?_eq_some_iff.1 r5.out).1)); (try replace rT := Lib.hid (rowB rT.out q2 (Array.getElem?_eq_some_iff.1 rT.out).1)); (try replace rO := Lib.hid (rowB rO.out q2 (Array.getElem?_eq_some_iff.1 rO.out).1)); (try replace rI := Lib.hid (rowB rI.out q2 (Array.getElem?_eq_some_iff.1 rI.out).1)); (try replace rS := Lib.hid (rowB rS.out q2 (Array.getElem?_eq_some_iff.1 rS.out).1)); (try replace xC := Lib.hid (xC.out.mono q2)); (try replace xO := Lib.hid (xO.out.mono q2)); replace hT := Lib.hid (hT.out.trans (Below.mono q2 hT.out.size)); replace hS := Lib.hid (hS.out.trans (Below.mono q2 hS.out.size)); clear q2)
          | (refine wpList_load_row_g rfl 42 _ rfl _ rfl 42 (u8s D) (0, 0) _ rI.out Tryz.underlying42 rfl di.out ?_)
          | (refine wpList_load_row_g rfl 42 _ rfl _ rfl 42 (u8s D) (0, 0) _ rS.out Tryz.underlying42 rfl di.out ?_)
          | (refine wpList_neqS rfl 42 _ _ rfl (u8s D) (u8s D) rfl rfl id_guard false (hneq.out _) ?_))
        clear rO rI rS xO xC r4
        have y9 := frozen_of_row w4 wS.heap.size 9 _ _ rT.out
        have y10 := frozen_of_row w4 wS.heap.size 10 _ _ rT.out
        obtain ⟨z9, z10⟩ := (cellsO rT.out).2.2.2.2.2
        go_upto_region 12 with (refine wpList_load_row_g rfl 30 _ rfl _ rfl 30 #[.int .u32 (e : Int), .int .u32 (s : Int)] (0, 0) _ r5.out Tryz.underlying30 rfl info_sig ?_)
        rw [setSg e s rT.out]
        have rU := Lib.hid (setRow_heap _ _ _ ((T.sg e s).c (.slice qa T.n qc)) _ _ rT.out)
        have hTU := Lib.hid (below_setRow' (g := wS.heap.size) hT.out (Nat.le_refl _) ((T.sg e s).c (.slice qa T.n qc)))
        have hSU := Lib.hid (below_setRow' (g := wS.heap.size) hS.out hgT.out ((T.sg e s).c (.slice qa T.n qc)))
        clear rT hT hS r5 y9 y10 z9 z10
        generalize w4.setRow wS.heap.size ((T.sg e s).c (.slice qa T.n qc)) = wU at *
        have hS := hSU
        have hT := hTU
        clear hSU hTU
        rcases hrest.out with hne | ⟨hc, B, hE20, hV20⟩
        · have hcb : (chkO (T.sg e s) != 0) = true := by simpa using hne
          generalize chkO (T.sg e s) = CK at *
          clear hrest hne
          go_wp2_with (first
            | (refine wpList_load_row_g rfl 32 _ rfl _ rfl 32 ((T.sg e s).c (.slice qa T.n qc)) (0, 0) _ rU.out Tryz.underlying32 rfl info_op ?_)
            | (go_at_call 44; (with_reducible refine (hck.out _ _ (xT.out.mono hT.out)).mono ?_); rintro e9 w4 ⟨rfl, q2⟩; (try replace rU := Lib.hid (rowB rU.out q2 (Array.getElem?_eq_some_iff.1 rU.out).1)); replace hT := Lib.hid (hT.out.trans (Below.mono q2 hT.out.size)); replace hS := Lib.hid (hS.out.trans (Below.mono q2 hS.out.size)); clear q2)
            | (go_at_call 37; (with_reducible refine (alive8 _ (hG.out.mono hS.out)).mono ?_); rintro e9 w4 ⟨rfl, q2⟩; (try replace rU := Lib.hid (rowB rU.out q2 (Array.getElem?_eq_some_iff.1 rU.out).1)); replace hT := Lib.hid (hT.out.trans (Below.mono q2 hT.out.size)); replace hS := Lib.hid (hS.out.trans (Below.mono q2 hS.out.size)); clear q2))
          go_ret
          exact ⟨rfl, hS.out⟩
        · rw [hc] at hck
          have hE2 := Lib.hid hE20
          have hV2 := Lib.hid hV20
          clear hrest hc hE20 hV20
          generalize verO (T.sg e s) = VE at *
          go_upto_region 15 with (first
            | (refine wpList_load_row_g rfl 32 _ rfl _ rfl 32 ((T.sg e s).c (.slice qa T.n qc)) (0, 0) _ rU.out Tryz.underlying32 rfl info_op ?_)
            | (go_at_call 44; (with_reducible refine (hck.out _ _ (xT.out.mono hT.out)).mono ?_); rintro e9 w4 ⟨rfl, q2⟩; (try replace rU := Lib.hid (rowB rU.out q2 (Array.getElem?_eq_some_iff.1 rU.out).1)); replace hT := Lib.hid (hT.out.trans (Below.mono q2 hT.out.size)); replace hS := Lib.hid (hS.out.trans (Below.mono q2 hS.out.size)); clear q2)
            | (go_at_call 14; (with_reducible refine (hE2.out _ _ (xT.out.mono hT.out)).mono ?_); rintro e9 w4 ⟨sv, rfl, q1, q2⟩; (try replace rU := Lib.hid (rowB rU.out q2 (Array.getElem?_eq_some_iff.1 rU.out).1)); replace hT := Lib.hid (hT.out.trans (Below.mono q2 hT.out.size)); replace hS := Lib.hid (hS.out.trans (Below.mono q2 hS.out.size)); have xB := Lib.hid q1.rd; clear q1; clear q2))
          obtain ⟨ca2, cc2, hsv⟩ := xB.out.slice
          subst hsv
          generalize B.length = NB at *
          by_cases hz : VE = 0
          · subst hz
            rw [if_pos rfl] at hV2
            go_wp2_with (first
              | (refine wpList_load_row_g rfl 32 _ rfl _ rfl 32 ((T.sg e s).c (.slice qa T.n qc)) (0, 0) _ rU.out Tryz.underlying32 rfl info_op ?_)
              | (go_at_call 25; (with_reducible refine (hver.out _ _ (xT.out.mono hT.out) (hG.out.mono hS.out)).mono ?_); rintro e9 w4 ⟨rfl, q2⟩; (try replace rU := Lib.hid (rowB rU.out q2 (Array.getElem?_eq_some_iff.1 rU.out).1)); (try replace xB := Lib.hid (xB.out.mono q2)); replace hT := Lib.hid (hT.out.trans (Below.mono q2 hT.out.size)); replace hS := Lib.hid (hS.out.trans (Below.mono q2 hS.out.size)); clear q2)
              | (go_at_call 36; (with_reducible refine (hV2.out _ _ xB.out (hG.out.mono hS.out)).mono ?_); rintro e9 w4 ⟨rfl, q2⟩; (try replace rU := Lib.hid (rowB rU.out q2 (Array.getElem?_eq_some_iff.1 rU.out).1)); (try replace xB := Lib.hid (xB.out.mono q2)); replace hT := Lib.hid (hT.out.trans (Below.mono q2 hT.out.size)); replace hS := Lib.hid (hS.out.trans (Below.mono q2 hS.out.size)); clear q2)
              | (go_at_call 37; (with_reducible refine (alive8 _ (hG.out.mono hS.out)).mono ?_); rintro e9 w4 ⟨rfl, q2⟩; (try replace rU := Lib.hid (rowB rU.out q2 (Array.getElem?_eq_some_iff.1 rU.out).1)); (try replace xB := Lib.hid (xB.out.mono q2)); replace hT := Lib.hid (hT.out.trans (Below.mono q2 hT.out.size)); replace hS := Lib.hid (hS.out.trans (Below.mono q2 hS.out.size)); clear q2))
            go_ret
            exact ⟨rfl, hS.out⟩
          · rw [if_neg hz] at hV2
            have hzb : (VE == 0) = false := by simpa using hz
            clear hz
            go_wp2_with (first
              | (refine wpList_load_row_g rfl 32 _ rfl _ rfl 32 ((T.sg e s).c (.slice qa T.n qc)) (0, 0) _ rU.out Tryz.underlying32 rfl info_op ?_)
              | (go_at_call 25; (with_reducible refine (hver.out _ _ (xT.out.mono hT.out) (hG.out.mono hS.out)).mono ?_); rintro e9 w4 ⟨rfl, q2⟩; (try replace rU := Lib.hid (rowB rU.out q2 (Array.getElem?_eq_some_iff.1 rU.out).1)); (try replace xB := Lib.hid (xB.out.mono q2)); replace hT := Lib.hid (hT.out.trans (Below.mono q2 hT.out.size)); replace hS := Lib.hid (hS.out.trans (Below.mono q2 hS.out.size)); clear q2)
              | (go_at_call 36; (with_reducible refine (hV2.out _ _ xB.out (hG.out.mono hS.out)).mono ?_); rintro e9 w4 ⟨rfl, q2⟩; (try replace rU := Lib.hid (rowB rU.out q2 (Array.getElem?_eq_some_iff.1 rU.out).1)); (try replace xB := Lib.hid (xB.out.mono q2)); replace hT := Lib.hid (hT.out.trans (Below.mono q2 hT.out.size)); replace hS := Lib.hid (hS.out.trans (Below.mono q2 hS.out.size)); clear q2)
              | (go_at_call 37; (with_reducible refine (alive8 _ (hG.out.mono hS.out)).mono ?_); rintro e9 w4 ⟨rfl, q2⟩; (try replace rU := Lib.hid (rowB rU.out q2 (Array.getElem?_eq_some_iff.1 rU.out).1)); (try replace xB := Lib.hid (xB.out.mono q2)); replace hT := Lib.hid (hT.out.trans (Below.mono q2 hT.out.size)); replace hS := Lib.hid (hS.out.trans (Below.mono q2 hS.out.size)); clear q2))
            go_ret
            exact ⟨rfl, hS.out⟩
      · have hsg := Lib.hid (fun (wz : World) (h : RdI wz (.slice pa o.n pc) o.n o.F) => opSign_bad a h1 o ffo _ wz h hc0)
        have hcb : (chkO (o.byA (grp.pw 4 a)).bare != 0) = true := by simpa using hc0
        generalize chkO (o.byA (grp.pw 4 a)).bare = CK at *
        clear ffo hlF h1 hc0
        go_enter Tryz.func10, Tryz.ntmps10
        go_upto_region 1 with fail
        rw [← hW]
        clear hW
        go_wp2_with (first
          | (refine wpList_load_row_g rfl 32 _ rfl w.heap.size rfl 32 (o.c (.slice pa o.n pc)) (0, 0) _ r4.out Tryz.underlying32 rfl info_op ?_)
          | (go_at_call 20; (with_reducible refine (hgr.out _).mono ?_); rintro e9 w4 ⟨rfl, q2⟩; (try replace r4 := Lib.hid (rowB r4.out q2 (Array.getElem?_eq_some_iff.1 r4.out).1)); replace hS := Lib.hid (hS.out.trans (Below.mono q2 hS.out.size)); clear q2)
          | (go_at_call 23; (with_reducible refine (hsg.out _ (pw.out.mono hS.out)).mono ?_); rintro e9 w4 ⟨rfl, q2⟩; (try replace r4 := Lib.hid (rowB r4.out q2 (Array.getElem?_eq_some_iff.1 r4.out).1)); replace hS := Lib.hid (hS.out.trans (Below.mono q2 hS.out.size)); clear q2)
          | (refine storeNew _ rfl 32 _ _ rfl (zO.c (.slice none 0 0)) 32 rfl rfl info_op rfl (op_one zO _ _ _) ?_; intro wx hrx hbx; (try replace r4 := Lib.hid (rowB r4.out hbx (Array.getElem?_eq_some_iff.1 r4.out).1)); replace hS := Lib.hid (hS.out.trans (Below.mono hbx hS.out.size)); have rq := Lib.hid hrx; clear hrx hbx)
          | (go_at_call 37; (with_reducible refine (alive8 _ (hG.out.mono hS.out)).mono ?_); rintro e9 w4 ⟨rfl, q2⟩; (try replace r4 := Lib.hid (rowB r4.out q2 (Array.getElem?_eq_some_iff.1 r4.out).1)); replace hS := Lib.hid (hS.out.trans (Below.mono q2 hS.out.size)); clear q2))
        go_ret
        exact ⟨rfl, hS.out⟩
    · have hsg := Lib.hid (fun (wz : World) (h : RdI wz (.slice pa o.n pc) o.n o.F) => opSign_arg a h1 o _ wz h)
      clear ffo hlF h1
      go_enter Tryz.func10, Tryz.ntmps10
      go_upto_region 1 with fail
      rw [← hW]
      clear hW
      go_wp2_with (first
        | (refine wpList_load_row_g rfl 32 _ rfl w.heap.size rfl 32 (o.c (.slice pa o.n pc)) (0, 0) _ r4.out Tryz.underlying32 rfl info_op ?_)
        | (go_at_call 20; (with_reducible refine (hgr.out _).mono ?_); rintro e9 w4 ⟨rfl, q2⟩; (try replace r4 := Lib.hid (rowB r4.out q2 (Array.getElem?_eq_some_iff.1 r4.out).1)); replace hS := Lib.hid (hS.out.trans (Below.mono q2 hS.out.size)); clear q2)
        | (go_at_call 23; (with_reducible refine (hsg.out _ (pw.out.mono hS.out)).mono ?_); rintro e9 w4 ⟨rfl, q2⟩; (try replace r4 := Lib.hid (rowB r4.out q2 (Array.getElem?_eq_some_iff.1 r4.out).1)); replace hS := Lib.hid (hS.out.trans (Below.mono q2 hS.out.size)); clear q2)
        | (refine storeNew _ rfl 32 _ _ rfl (zO.c (.slice none 0 0)) 32 rfl rfl info_op rfl (op_one zO _ _ _) ?_; intro wx hrx hbx; (try replace r4 := Lib.hid (rowB r4.out hbx (Array.getElem?_eq_some_iff.1 r4.out).1)); replace hS := Lib.hid (hS.out.trans (Below.mono hbx hS.out.size)); have rq := Lib.hid hrx; clear hrx hbx)
        | (go_at_call 37; (with_reducible refine (alive8 _ (hG.out.mono hS.out)).mono ?_); rintro e9 w4 ⟨rfl, q2⟩; (try replace r4 := Lib.hid (rowB r4.out q2 (Array.getElem?_eq_some_iff.1 r4.out).1)); replace hS := Lib.hid (hS.out.trans (Below.mono q2 hS.out.size)); clear q2))
      go_ret
      exact ⟨rfl, hS.out⟩
end Go.Proofs.YtoknefeciopdpaaGreatDoor.wir.val

/- Layers 6 and 8: the reference: what is signed, and verdicts. JudgeFinds' walk. -/
import Derived.Test.YtoknefeciopdpaaGreatDoorK13
import Derived.Test.YtoknefeciopdpaaGreatDoorK10
import Derived.Test.YtoknefeciopdpaaGreatDoorS03x
namespace Go.Proofs.YtoknefeciopdpaaGreatDoor.wir.val
open Go.RowKit Go.YtoknefeciopdpaaGreatDoor
set_option linter.unusedVariables false
set_option maxHeartbeats 4000000 in
set_option maxRecDepth 100000 in
theorem rSigned_any (o : Od) (fo : o.Fit) (h0 : chkO o = 0) (pv : Value) (w : World) (hp : RdI w pv o.n o.F) :
    Calls Tryz.prog 64 #[.agg (o.c pv)] w fun e w' => e = .returned (.bool (rightB o.au (msgB o) o.s o.e)) ∧ Below w.heap.size w w' := by
  obtain ⟨hn, _, hA⟩ := chk_zero h0
  obtain ⟨W, hW⟩ : ∃ W, W = w.alloc (.cells (o.c pv) 32) := ⟨_, rfl⟩
  have hr0 := heap_alloc_new w (.cells (o.c pv) 32)
  have hb0 := (Below.refl w.heap.size w).alloc (Nat.le_refl _) (.cells (o.c pv) 32)
  rw [← hW] at hr0 hb0
  have hms := Lib.hid (msgB_short o fo hn hp.len hA)
  have hmb := Lib.hid (msgB_bytes o fo hn hA)
  obtain ⟨pa, pc, rfl⟩ := hp.slice
  have hb1 := Lib.hid hb0
  have hrow := Lib.hid hr0
  have hlt := (Array.getElem?_eq_some_iff.1 hr0).1
  have hS := Lib.hid (show ∀ (wz : World) (h : Below W.heap.size W wz), (fun wz => wz.cell? ⟨w.heap.size, 0, none⟩ = some (.int .u32 (o.au : Int)) ∧ wz.cell? ⟨w.heap.size, 1, none⟩ = some (.slice pa o.n pc) ∧ wz.cell? ⟨w.heap.size, 2, none⟩ = some (.int .u64 (o.st : Int)) ∧ wz.cell? ⟨w.heap.size, 3, none⟩ = some (.int .u8 o.k) ∧ wz.cell? ⟨w.heap.size, 4, none⟩ = some (.string o.key) ∧ wz.cell? ⟨w.heap.size, 5, none⟩ = some (.int .u8 o.v.k) ∧ wz.cell? ⟨w.heap.size, 6, none⟩ = some (.int .i64 o.v.n) ∧ wz.cell? ⟨w.heap.size, 7, none⟩ = some (.int .u64 (o.v.b : Int)) ∧ wz.cell? ⟨w.heap.size, 8, none⟩ = some (.string o.v.s) ∧ wz.cell? ⟨w.heap.size, 9, none⟩ = some (.int .u32 (o.e : Int)) ∧ wz.cell? ⟨w.heap.size, 10, none⟩ = some (.int .u32 (o.s : Int))) wz from fun wz h => cells11 (rowB hrow.out h hlt))
  have hM := Lib.hid (fun (wz : World) (hb : Below W.heap.size W wz) => rmsg_any o fo hn hA (.slice pa o.n pc) wz ((hp.mono hb0).mono hb))
  have hR := Lib.hid (fun (wz : World) (v : Value) (h : RdB wz v (msgB o)) => rright_any o.au (chk_in h0) o.s o.e fo.s fo.e v (msgB o) wz h hmb.out (Nat.le_trans hms.out (by decide)))
  generalize rightB o.au (msgB o) o.s o.e = RB at *
  generalize hme : msgB o = MB at *
  clear hr0 hb0 hp fo hn hA hme h0
  go_enter Tryz.func64, Tryz.ntmps64
  go_upto_region 1 with fail
  rw [← hW]
  clear hW
  have hB := Lib.hid (show Below W.heap.size W W.drew from (Below.refl _ _).drew)
  obtain ⟨c0, c1, c2, c3, c4, c5, c6, c7, c8, c9, c10⟩ := hS.out W (Below.refl _ _)
  go_region_held3 (fun wz => wz.cell? ⟨w.heap.size, 0, none⟩ = some (.int .u32 (o.au : Int)) ∧ wz.cell? ⟨w.heap.size, 1, none⟩ = some (.slice pa o.n pc) ∧ wz.cell? ⟨w.heap.size, 2, none⟩ = some (.int .u64 (o.st : Int)) ∧ wz.cell? ⟨w.heap.size, 3, none⟩ = some (.int .u8 o.k) ∧ wz.cell? ⟨w.heap.size, 4, none⟩ = some (.string o.key) ∧ wz.cell? ⟨w.heap.size, 5, none⟩ = some (.int .u8 o.v.k) ∧ wz.cell? ⟨w.heap.size, 6, none⟩ = some (.int .i64 o.v.n) ∧ wz.cell? ⟨w.heap.size, 7, none⟩ = some (.int .u64 (o.v.b : Int)) ∧ wz.cell? ⟨w.heap.size, 8, none⟩ = some (.string o.v.s) ∧ wz.cell? ⟨w.heap.size, 9, none⟩ = some (.int .u32 (o.e : Int)) ∧ wz.cell? ⟨w.heap.size, 10, none⟩ = some (.int .u32 (o.s : Int))) (first | (exact hS.out _ hB.out) | go_keep)
    (first
      | (go_at_call 62; (with_reducible refine (hM.out _ hB.out).mono ?_); rintro e w4 ⟨z4, rfl, q1, q2⟩; replace hB := Lib.hid (hB.out.trans (Below.mono q2 hB.out.size)); have hO := Lib.hid q1.rd; obtain ⟨ma, mc, hz4⟩ := hO.out.slice; subst hz4; clear q1 q2)
      | (go_at_call 109; (with_reducible refine (hR.out _ _ hO.out).mono ?_); rintro e w4 ⟨rfl, q2⟩; replace hB := Lib.hid (hB.out.trans (Below.mono q2 hB.out.size)); clear q2))
  all_goals
    clear c0 c1 c2 c3 c4 c5 c6 c7 c8 c9 c10
    go_wp2
    go_ret
    exact ⟨rfl, hb1.out.trans (hB.out.mono hb1.out.size)⟩
theorem ver_right {o : Od} (h0 : chkO o = 0) : verO o = if rightB o.au (msgB o) o.s o.e = true then 0 else 22 := by unfold verO; rw [if_pos h0]
set_option maxHeartbeats 4000000 in
set_option maxRecDepth 100000 in
theorem rVerify_any (o : Od) (fo : o.Fit) (pv : Value) (w : World) (hp : RdI w pv o.n o.F) :
    Calls Tryz.prog 26 #[.agg (o.c pv)] w fun e w' => e = .returned (.int .i64 (verO o)) ∧ Below w.heap.size w w' := by
  obtain ⟨pa, pc, rfl⟩ := hp.slice
  obtain ⟨W, hW⟩ : ∃ W, W = w.alloc (.cells (o.c (.slice pa o.n pc)) 32) := ⟨_, rfl⟩
  have hS := Lib.hid (show Below w.heap.size w W by rw [hW]; exact below_a w _)
  have r0 := Lib.hid (show W.heap[w.heap.size]? = some (.cells (o.c (.slice pa o.n pc)) 32 (0, 0)) by rw [hW]; exact heap_alloc_new w _)
  have pw := Lib.hid hp
  have hck := Lib.hid (fun (wz : World) (h : RdI wz (.slice pa o.n pc) o.n o.F) => ropCheck_any o fo (.slice pa o.n pc) wz h)
  clear hp
  by_cases h0 : chkO o = 0
  · have hsg := Lib.hid (fun (wz : World) (h : RdI wz (.slice pa o.n pc) o.n o.F) => rSigned_any o fo h0 (.slice pa o.n pc) wz h)
    rw [ver_right h0]
    rw [h0] at hck
    generalize rightB o.au (msgB o) o.s o.e = RB at *
    clear fo h0
    cases RB
    · skip
      go_enter Tryz.func26, Tryz.ntmps26
      go_upto_region 1 with fail
      rw [← hW]
      clear hW
      go_wp2_with (first | (refine wpList_load_row_g rfl 32 _ rfl w.heap.size rfl 32 (o.c (.slice pa o.n pc)) (0, 0) _ r0.out Tryz.underlying32 rfl info_op ?_) | (go_at_call 44; (with_reducible refine (hck.out _ (pw.out.mono hS.out)).mono ?_); rintro e9 w4 ⟨rfl, q2⟩; (try replace r0 := Lib.hid (rowB r0.out q2 (Array.getElem?_eq_some_iff.1 r0.out).1)); replace hS := Lib.hid (hS.out.trans (Below.mono q2 hS.out.size)); clear q2) | (go_at_call 64; (with_reducible refine (hsg.out _ (pw.out.mono hS.out)).mono ?_); rintro e9 w4 ⟨rfl, q2⟩; (try replace r0 := Lib.hid (rowB r0.out q2 (Array.getElem?_eq_some_iff.1 r0.out).1)); replace hS := Lib.hid (hS.out.trans (Below.mono q2 hS.out.size)); clear q2))
      go_ret
      exact ⟨rfl, hS.out⟩
    · skip
      go_enter Tryz.func26, Tryz.ntmps26
      go_upto_region 1 with fail
      rw [← hW]
      clear hW
      go_wp2_with (first | (refine wpList_load_row_g rfl 32 _ rfl w.heap.size rfl 32 (o.c (.slice pa o.n pc)) (0, 0) _ r0.out Tryz.underlying32 rfl info_op ?_) | (go_at_call 44; (with_reducible refine (hck.out _ (pw.out.mono hS.out)).mono ?_); rintro e9 w4 ⟨rfl, q2⟩; (try replace r0 := Lib.hid (rowB r0.out q2 (Array.getElem?_eq_some_iff.1 r0.out).1)); replace hS := Lib.hid (hS.out.trans (Below.mono q2 hS.out.size)); clear q2) | (go_at_call 64; (with_reducible refine (hsg.out _ (pw.out.mono hS.out)).mono ?_); rintro e9 w4 ⟨rfl, q2⟩; (try replace r0 := Lib.hid (rowB r0.out q2 (Array.getElem?_eq_some_iff.1 r0.out).1)); replace hS := Lib.hid (hS.out.trans (Below.mono q2 hS.out.size)); clear q2))
      go_ret
      exact ⟨rfl, hS.out⟩
  · have hv : verO o = chkO o := if_neg h0
    rw [hv]
    have hx : (chkO o != 0) = true := by simpa using h0
    generalize chkO o = E at *
    clear hv fo h0
    go_enter Tryz.func26, Tryz.ntmps26
    go_upto_region 1 with fail
    rw [← hW]
    clear hW
    go_wp2_with (first | (refine wpList_load_row_g rfl 32 _ rfl w.heap.size rfl 32 (o.c (.slice pa o.n pc)) (0, 0) _ r0.out Tryz.underlying32 rfl info_op ?_) | (go_at_call 44; (with_reducible refine (hck.out _ (pw.out.mono hS.out)).mono ?_); rintro e9 w4 ⟨rfl, q2⟩; (try replace r0 := Lib.hid (rowB r0.out q2 (Array.getElem?_eq_some_iff.1 r0.out).1)); replace hS := Lib.hid (hS.out.trans (Below.mono q2 hS.out.size)); clear q2))
    go_ret
    exact ⟨rfl, hS.out⟩
set_option maxHeartbeats 4000000 in
set_option maxRecDepth 100000 in
theorem rOf8_any (l : List Int) (bv : Value) (w : World) (hr : RdB w bv l) (hl : Bytes l) (hlm : l.length ≤ 1000) :
    Calls Tryz.prog 38 #[bv] w (ofPost w l) := by
  obtain ⟨ba, bc, rfl⟩ := hr.slice
  obtain ⟨N, hN⟩ : ∃ N, l.length = N := ⟨_, rfl⟩
  rw [hN] at hr ⊢
  obtain ⟨W, hW⟩ : ∃ W, W = (w.alloc (.cells (zO.c (.slice none 0 0)) 32)).alloc (.cells (u8s (zerosB 32)) 42) := ⟨_, rfl⟩
  have hS := Lib.hid (show Below w.heap.size w W by rw [hW]; exact ((Below.refl w.heap.size w).alloc (Nat.le_refl _) _).alloc (by simp) _)
  have r0 := Lib.hid (show W.heap[w.heap.size]? = some (.cells (zO.c (.slice none 0 0)) 32 (0, 0)) by rw [hW]; exact rowA w _ _)
  have r1 := Lib.hid (show W.heap[w.heap.size + 1]? = some (.cells (u8s (zerosB 32)) 42 (0, 0)) by rw [hW]; exact hn2 w _ _)
  have bw := Lib.hid hr
  have zi := Lib.hid zid_info
  have hlt := Lib.hid (show w.heap.size + 2 ≤ W.heap.size by rw [hW]; simp)
  clear hr
  have hno : ∀ (v : Int), vd l = v → v ≠ 0 → ∀ w9, Below w.heap.size w w9 → ofPost w l (.returned (.tuple #[.agg (zO.c (.slice none 0 0)), .agg (u8s (zerosB 32)), .int .u8 v])) w9 := fun v hv h0 w9 h9 => ⟨h9, .inl ⟨by rw [hv]; exact h0, by rw [hv]⟩⟩
  by_cases hbig : 400 < N
  · have i1 : (400 : Int) < (N : Int) := by omega
    have hno := Lib.hid (hno 3 (by unfold vd; rw [if_pos (by rw [hN]; exact hbig)]) (by decide))
    clear hl hN
    go_enter Tryz.func38, Tryz.ntmps38
    go_upto_region 1 with fail
    change Code.wp _ _ _ _ ((w.alloc (.cells (zO.c (.slice none 0 0)) 32)).alloc (.cells (u8s (zerosB 32)) 42))
    rw [← hW]
    clear hW
    go_wp2_with (first | (refine wpList_store_row rfl 32 _ _ rfl w.heap.size (zO.c (.slice none 0 0)) rfl rfl 32 _ r0.out info_op rfl (op_one zO _ _ _) ?_; rw [setRow_same r0.out]) | (refine wpList_store_row rfl 42 _ _ rfl (w.heap.size + 1) (u8s (zerosB 32)) rfl (by kernel_rfl) 42 _ r1.out zi.out rfl (u8s_one _) ?_; rw [setRow_same r1.out]))
    exact bodyPost_ret (results_row_row_tmp rfl _ _ w.heap.size 32 _ _ _ (w.heap.size + 1) 42 _ _ _ rfl r0.out Tryz.underlying32 rfl info_op rfl r1.out Tryz.underlying42 rfl zi.out) rfl (ofPost_eq (hno.out _ hS.out) rfl)
  have i1 : ¬ (400 : Int) < (N : Int) := by omega
  have hN4 : ¬ 400 < l.length := by rw [hN]; exact hbig
  cases hd : decO l with
  | none =>
    have hno := Lib.hid (hno 2 (by unfold vd; rw [if_neg hN4, hd]) (by decide))
    have hD := Lib.hid (fun (wz : World) (h : RdB wz (.slice ba N bc) l) => (rDecode_any l _ wz h hl hlm).mono (R' := fun e w' => e = .returned (.tuple #[.agg (zO.c (.slice none 0 0)), .int .i64 12]) ∧ Below wz.heap.size wz w') (by
      rintro e w' ⟨hb, hq⟩
      rw [hd] at hq
      rcases hq with ⟨_, he⟩ | ⟨p, a, c, hq, _⟩
      · exact ⟨he, hb⟩
      · cases hq))
    clear hl hN hN4 hd
    go_enter Tryz.func38, Tryz.ntmps38
    go_upto_region 1 with fail
    change Code.wp _ _ _ _ ((w.alloc (.cells (zO.c (.slice none 0 0)) 32)).alloc (.cells (u8s (zerosB 32)) 42))
    rw [← hW]
    clear hW
    go_wp2_with (first | (go_at_call 22; (with_reducible refine (hD.out _ (bw.out.mono hS.out)).mono ?_); rintro e9 w4 ⟨rfl, q2⟩; (try replace r0 := Lib.hid (rowB r0.out q2 (Array.getElem?_eq_some_iff.1 r0.out).1)); (try replace r1 := Lib.hid (rowB r1.out q2 (Array.getElem?_eq_some_iff.1 r1.out).1)); replace hS := Lib.hid (hS.out.trans (Below.mono q2 hS.out.size)); clear q2) | (refine storeNew _ rfl 32 _ _ rfl (zO.c (.slice none 0 0)) 32 rfl rfl info_op rfl (op_one zO _ _ _) ?_; intro wx hrx hbx; (try replace r0 := Lib.hid (rowB r0.out hbx (Array.getElem?_eq_some_iff.1 r0.out).1)); (try replace r1 := Lib.hid (rowB r1.out hbx (Array.getElem?_eq_some_iff.1 r1.out).1)); replace hS := Lib.hid (hS.out.trans (Below.mono hbx hS.out.size)); have rq := Lib.hid hrx; clear hrx hbx) | (refine wpList_store_row rfl 32 _ _ rfl w.heap.size (zO.c (.slice none 0 0)) rfl rfl 32 _ r0.out info_op rfl (op_one zO _ _ _) ?_; rw [setRow_same r0.out]) | (refine wpList_store_row rfl 42 _ _ rfl (w.heap.size + 1) (u8s (zerosB 32)) rfl (by kernel_rfl) 42 _ r1.out zi.out rfl (u8s_one _) ?_; rw [setRow_same r1.out]))
    exact bodyPost_ret (results_row_row_tmp rfl _ _ w.heap.size 32 _ _ _ (w.heap.size + 1) 42 _ _ _ rfl r0.out Tryz.underlying32 rfl info_op rfl r1.out Tryz.underlying42 rfl zi.out) rfl (ofPost_eq (hno.out _ hS.out) rfl)
  | some o =>
    obtain ⟨e1, fo, c0, hF⟩ := decO_back hl hd
    have hD := Lib.hid (fun (wz : World) (h : RdB wz (.slice ba N bc) l) => (rDecode_any l _ wz h hl hlm).mono (R' := fun e w' => ∃ (a : Option Addr) (c : Nat), e = .returned (.tuple #[.agg (o.c (.slice a o.n c)), .int .i64 0]) ∧ HeldI wz.heap.size w' (.slice a o.n c) o.n o.F ∧ Below wz.heap.size wz w') (by
      rintro e w' ⟨hb, hq⟩
      rw [hd] at hq
      rcases hq with ⟨hq, _⟩ | ⟨p, a, c, hq, he, hi⟩
      · cases hq
      · obtain rfl := Option.some.inj hq
        exact ⟨a, c, he, hi, hb⟩))
    have hsg := Lib.hid (fun (wz : World) (v : Value) (h : RdI wz v o.n o.F) => rSigned_any o fo c0 v wz h)
    have hI := Lib.hid (fun (wz : World) (v : Value) (h : RdI wz v o.n o.F) => (show Calls Tryz.prog 70 #[.agg (o.c v)] wz fun e w' => e = .returned (.agg (u8s (shaF l))) ∧ Below wz.heap.size wz w' from by
      rw [← e1]
      exact rOfO_any o fo (chk_zero c0).1 (chk_zero c0).2.2 v wz h))
    have hvr := ver_right c0
    generalize rightB o.au (msgB o) o.s o.e = RB at *
    cases RB with
    | false =>
      have hv : ¬ verO o = 0 := by rw [hvr]; decide
      have hno := Lib.hid (hno 4 (by unfold vd; rw [if_neg hN4, hd]; simp only; rw [if_neg hv]) (by decide))
      clear hvr hv hl hN hN4 hd e1 fo c0 hF hI
      go_enter Tryz.func38, Tryz.ntmps38
      go_upto_region 1 with fail
      change Code.wp _ _ _ _ ((w.alloc (.cells (zO.c (.slice none 0 0)) 32)).alloc (.cells (u8s (zerosB 32)) 42))
      rw [← hW]
      clear hW
      go_upto_region 6 with (first | (go_at_call 22; (with_reducible refine (hD.out _ (bw.out.mono hS.out)).mono ?_); rintro e9 w4 ⟨pa, pc, rfl, q1, q2⟩; (try replace r0 := Lib.hid (rowB r0.out q2 (Array.getElem?_eq_some_iff.1 r0.out).1)); (try replace r1 := Lib.hid (rowB r1.out q2 (Array.getElem?_eq_some_iff.1 r1.out).1)); (try replace xP := Lib.hid (xP.out.mono q2)); replace hS := Lib.hid (hS.out.trans (Below.mono q2 hS.out.size)); have xP := Lib.hid (heldI_nw q1); clear q1; clear q2) | (refine storeNew _ rfl 32 _ _ rfl (o.c (.slice pa o.n pc)) 32 rfl rfl info_op rfl (op_one o pa o.n pc) ?_; intro wx hrx hbx; (try replace r0 := Lib.hid (rowB r0.out hbx (Array.getElem?_eq_some_iff.1 r0.out).1)); (try replace r1 := Lib.hid (rowB r1.out hbx (Array.getElem?_eq_some_iff.1 r1.out).1)); (try replace xP := Lib.hid (xP.out.mono hbx)); replace hS := Lib.hid (hS.out.trans (Below.mono hbx hS.out.size)); have rq := Lib.hid hrx; clear hrx hbx))
      go_wp2_with (first | (refine wpList_load_row_g rfl 32 _ rfl _ rfl 32 (o.c (.slice pa o.n pc)) (0, 0) _ rq.out Tryz.underlying32 rfl info_op ?_) | (go_at_call 64; (with_reducible refine (hsg.out _ _ xP.out).mono ?_); rintro e9 w4 ⟨rfl, q2⟩; (try replace r0 := Lib.hid (rowB r0.out q2 (Array.getElem?_eq_some_iff.1 r0.out).1)); (try replace r1 := Lib.hid (rowB r1.out q2 (Array.getElem?_eq_some_iff.1 r1.out).1)); (try replace rq := Lib.hid (rowB rq.out q2 (Array.getElem?_eq_some_iff.1 rq.out).1)); (try replace xP := Lib.hid (xP.out.mono q2)); replace hS := Lib.hid (hS.out.trans (Below.mono q2 hS.out.size)); clear q2) | (refine wpList_store_row rfl 32 _ _ rfl w.heap.size (zO.c (.slice none 0 0)) rfl rfl 32 _ r0.out info_op rfl (op_one zO _ _ _) ?_; rw [setRow_same r0.out]) | (refine wpList_store_row rfl 42 _ _ rfl (w.heap.size + 1) (u8s (zerosB 32)) rfl (by kernel_rfl) 42 _ r1.out zi.out rfl (u8s_one _) ?_; rw [setRow_same r1.out]))
      exact bodyPost_ret (results_row_row_tmp rfl _ _ w.heap.size 32 _ _ _ (w.heap.size + 1) 42 _ _ _ rfl r0.out Tryz.underlying32 rfl info_op rfl r1.out Tryz.underlying42 rfl zi.out) rfl (ofPost_eq (hno.out _ hS.out) rfl)
    | true =>
      have hv : verO o = 0 := by rw [hvr]; rfl
      have hY := Lib.hid (fun (a : Option Addr) (c : Nat) (w9 : World) (h9 : Below w.heap.size w w9) (hh : HeldI w.heap.size w9 (.slice a o.n c) o.n o.F) => (show ofPost w l (.returned (.tuple #[.agg (o.c (.slice a o.n c)), .agg (u8s (shaF l)), .int .u8 0])) w9 from
        ⟨h9, .inr ⟨o, a, c, by unfold vd; rw [if_neg hN4, hd]; simp only; rw [if_pos hv], by omega, hd, hv, rfl, hh⟩⟩))
      have hDl : (shaF l).length = 32 := shaF_length _
      have di := Lib.hid (show (Tryz.prog.info? 42).map (·.size) = some (u8s (shaF l)).size by rw [u8s_size, hDl]; kernel_rfl)
      have ds := Lib.hid (show (u8s (zerosB 32)).size = (u8s (shaF l)).size by rw [u8s_size, u8s_size, hDl, zerosB_length])
      clear hno hvr hv hl hN hN4 hd e1 fo c0 hF hDl
      generalize shaF l = D at *
      go_enter Tryz.func38, Tryz.ntmps38
      go_upto_region 1 with fail
      change Code.wp _ _ _ _ ((w.alloc (.cells (zO.c (.slice none 0 0)) 32)).alloc (.cells (u8s (zerosB 32)) 42))
      rw [← hW]
      clear hW
      go_upto_region 6 with (first | (go_at_call 22; (with_reducible refine (hD.out _ (bw.out.mono hS.out)).mono ?_); rintro e9 w4 ⟨pa, pc, rfl, q1, q2⟩; have hSz := Lib.hid (show w.heap.size + 2 ≤ _ from Nat.le_trans (Nat.succ_le_of_lt (Array.getElem?_eq_some_iff.1 r1.out).1) (Nat.le_refl _)); (try replace r0 := Lib.hid (rowB r0.out q2 (Array.getElem?_eq_some_iff.1 r0.out).1)); (try replace r1 := Lib.hid (rowB r1.out q2 (Array.getElem?_eq_some_iff.1 r1.out).1)); (try replace xP := Lib.hid (xP.out.mono q2)); (try replace hH := Lib.hid (heldI_mono hH.out q2)); replace hS := Lib.hid (hS.out.trans (Below.mono q2 hS.out.size)); have xP := Lib.hid (heldI_nw q1); have hH := Lib.hid (heldI_lower q1 hSz.out); clear q1; clear q2) | (refine storeNew _ rfl 32 _ _ rfl (o.c (.slice pa o.n pc)) 32 rfl rfl info_op rfl (op_one o pa o.n pc) ?_; intro wx hrx hbx; (try replace r0 := Lib.hid (rowB r0.out hbx (Array.getElem?_eq_some_iff.1 r0.out).1)); (try replace r1 := Lib.hid (rowB r1.out hbx (Array.getElem?_eq_some_iff.1 r1.out).1)); (try replace xP := Lib.hid (xP.out.mono hbx)); (try replace hH := Lib.hid (heldI_mono hH.out hbx)); replace hS := Lib.hid (hS.out.trans (Below.mono hbx hS.out.size)); have rq := Lib.hid hrx; clear hrx hbx))
      go_upto_region 8 with (first | (refine wpList_load_row_g rfl 32 _ rfl _ rfl 32 (o.c (.slice pa o.n pc)) (0, 0) _ rq.out Tryz.underlying32 rfl info_op ?_) | (go_at_call 64; (with_reducible refine (hsg.out _ _ xP.out).mono ?_); rintro e9 w4 ⟨rfl, q2⟩; (try replace r0 := Lib.hid (rowB r0.out q2 (Array.getElem?_eq_some_iff.1 r0.out).1)); (try replace r1 := Lib.hid (rowB r1.out q2 (Array.getElem?_eq_some_iff.1 r1.out).1)); (try replace rq := Lib.hid (rowB rq.out q2 (Array.getElem?_eq_some_iff.1 rq.out).1)); (try replace xP := Lib.hid (xP.out.mono q2)); (try replace hH := Lib.hid (heldI_mono hH.out q2)); replace hS := Lib.hid (hS.out.trans (Below.mono q2 hS.out.size)); clear q2))
      have lt0 := Lib.hid (Array.getElem?_eq_some_iff.1 rq.out).1
      have y0 := Lib.hid (fun (w' : World) (h : Below w4.heap.size w4 w') => rowB rq.out h lt0.out)
      have hIq := Lib.hid (fun (w' : World) (h : Below w4.heap.size w4 w') => hI.out w' (.slice pa o.n pc) (xP.out.mono h))
      refine wp_region_headN (C := fun w' => Below w4.heap.size w4 w') 3 [] (by kernel_rfl) (by kernel_rfl) ((Below.refl _ _).drew) ?_
      simp only [List.take_succ_cons, List.take_zero, List.drop_succ_cons, List.drop_zero]
      refine head_step _ (by rfl) (quiet_row 32 _ rfl _ rfl 32 (o.c (.slice pa o.n pc)) (0, 0) _ y0.out Tryz.underlying32 rfl info_op) rfl rfl (fun K hK => ?_); go_simp; refine hK _ ?_; clear hK K
      refine head_step _ (by rfl) (quiet_row 32 _ rfl _ rfl 32 (o.c (.slice pa o.n pc)) (0, 0) _ y0.out Tryz.underlying32 rfl info_op) rfl rfl (fun K hK => ?_); go_simp; refine hK _ ?_; clear hK K
      refine head_step _ (by rfl) (qa_call1 (.agg (o.c (.slice pa o.n pc))) rfl Tryz.func70 (by kernel_rfl) rfl rfl rfl (fun w h => (hIq.out w h).mono fun e w' ⟨he, hb⟩ => ⟨he, h.trans (hb.mono h.size)⟩)) rfl rfl (fun K hK => ?_); go_simp; refine hK _ ?_; clear hK K
      refine head_nil ?_
      intro w7 h9
      have k0 := Lib.hid (rowB r0.out h9 (Array.getElem?_eq_some_iff.1 r0.out).1)
      have k1 := Lib.hid (rowB r1.out h9 (Array.getElem?_eq_some_iff.1 r1.out).1)
      have kS := Lib.hid (hS.out.trans (h9.mono hS.out.size))
      have kH := Lib.hid (heldI_mono hH.out h9)
      have z0 := Lib.hid ((setRow_other (w7.setRow w.heap.size (o.c (.slice pa o.n pc))) (w.heap.size + 1) w.heap.size (u8s D) (by omega)).trans (setRow_heap _ _ _ (o.c (.slice pa o.n pc)) _ _ k0.out))
      have m1 := Lib.hid ((setRow_other w7 w.heap.size (w.heap.size + 1) (o.c (.slice pa o.n pc)) (by omega)).trans k1.out)
      have z1 := Lib.hid (setRow_heap _ _ _ (u8s D) _ _ m1.out)
      have zS := Lib.hid (below_setRow' (g := w.heap.size + 1) (below_setRow' (g := w.heap.size) kS.out (Nat.le_refl _) (o.c (.slice pa o.n pc))) (Nat.le_succ _) (u8s D))
      have zH := Lib.hid (heldI_setRow (k := w.heap.size + 1) (heldI_setRow (k := w.heap.size) kH.out (by omega) (o.c (.slice pa o.n pc))) (by omega) (u8s D))
      clear h9 r0 r1 rq xP hH hS
      go_wp2_with (first | (refine wpList_store_row rfl 32 _ _ rfl w.heap.size (o.c (.slice pa o.n pc)) rfl rfl 32 _ k0.out info_op rfl (op_one o pa o.n pc) ?_) | (refine wpList_store_row rfl 42 _ _ rfl (w.heap.size + 1) (u8s D) rfl rfl 42 _ m1.out di.out ds.out (u8s_one _) ?_))
      refine NoPanic.normal ?_
      go_wp2
      exact bodyPost_ret (results_row_row_tmp rfl _ _ w.heap.size 32 _ _ _ (w.heap.size + 1) 42 _ _ _ rfl z0.out Tryz.underlying32 rfl info_op rfl z1.out Tryz.underlying42 rfl di.out) rfl (ofPost_eq (hY.out pa pc _ zS.out (heldI_lower zH.out (by omega))) rfl)
end Go.Proofs.YtoknefeciopdpaaGreatDoor.wir.val
namespace Go.Proofs.YtoknefeciopdpaaGreatDoor.wir.val
open Go.RowKit Go.YtoknefeciopdpaaGreatDoor
set_option linter.unusedVariables false
/-- The bytes that the law changes: each cell is a byte, and nothing else has turned. -/
def Churned (g LB : Nat) (T : TypeId) (w wr : World) : Prop := (∀ j, j ≠ g → wr.heap[j]? = w.heap[j]?) ∧ wr.heap.size = w.heap.size ∧ ∃ cs, wr.heap[g]? = some (.cells cs T (0, 0)) ∧ ∀ i, i < LB → ∃ x, cs[i]? = some (.int .u8 x)
theorem churned_set {g LB : Nat} {T : TypeId} {w wr : World} (h : Churned g LB T w wr) (k : Nat) (y : Int) : Churned g LB T w (wr.setCell ⟨g, k, none⟩ (.int .u8 y)) := by
  obtain ⟨h1, h2, cs, h3, h4⟩ := h
  refine ⟨fun j hj => (setCell_rows _ _ _ _ hj).trans (h1 j hj), by simp [World.setCell, h2], _, setCell_row h3 k _, fun i hi => ?_⟩
  obtain ⟨x, hx⟩ := h4 i hi
  rw [Array.getElem?_setIfInBounds]
  split
  · split
    · exact ⟨y, rfl⟩
    · rename_i h5 h6
      subst h5
      rw [Array.getElem?_eq_none (by omega)] at hx; cases hx
  · exact ⟨x, hx⟩
theorem eqIds (D : List Int) (hD : D.length = 32) (w : World) : (binOp .eql 42 (.agg (u8s D)) (.agg (u8s D))).run Tryz.prog w = .ok (.bool true) w := by
  have he := run_equalArr (P := Tryz.prog) w 9998 42 5 32 Tryz.underlying42 Tryz.underlying5 (by kernel_rfl) D D hD hD
  simp [go_sem, he]
theorem idGuard : Tryz.prog.eqGuardType Tryz.prog.depth 42 = false := by kernel_rfl
/-- What both judges answer to some bytes. -/
structure OfAns (b : List Int) where
  (o : Od) (D : List Int) (V : Int)
  n : o.n ≤ 20
  d : D.length = 32
  v : vd b = V
  one : ∀ v wi, RdB wi v b → GlobW wi → Calls Tryz.prog 35 #[v] wi fun e w' => ∃ ia ic, e = .returned (.tuple #[.agg (o.c (.slice ia o.n ic)), .agg (u8s D), .int .u8 V]) ∧ HeldI wi.heap.size w' (.slice ia o.n ic) o.n o.F ∧ Below wi.heap.size wi w'
  two : ∀ v wi, RdB wi v b → Calls Tryz.prog 38 #[v] wi fun e w' => ∃ ia ic, e = .returned (.tuple #[.agg (o.c (.slice ia o.n ic)), .agg (u8s D), .int .u8 V]) ∧ HeldI wi.heap.size w' (.slice ia o.n ic) o.n o.F ∧ Below wi.heap.size wi w'
theorem of_no {b : List Int} (h : vd b ≠ 0) {w w' : World} {e : Ending} (hp : ofPost w b e w') : ∃ ia ic, e = .returned (.tuple #[.agg (zO.c (.slice ia zO.n ic)), .agg (u8s (zerosB 32)), .int .u8 (vd b)]) ∧ HeldI w.heap.size w' (.slice ia zO.n ic) zO.n zO.F ∧ Below w.heap.size w w' := by
  rcases hp.2 with ⟨_, he⟩ | ⟨o, a, c, h0, _⟩
  · exact ⟨none, 0, he, heldI_nil _ _, hp.1⟩
  · exact absurd h0 h
theorem of_yes {b : List Int} {o : Od} (h : vd b = 0) (hd : decO b = some o) {w w' : World} {e : Ending} (hp : ofPost w b e w') : ∃ ia ic, e = .returned (.tuple #[.agg (o.c (.slice ia o.n ic)), .agg (u8s (shaF b)), .int .u8 0]) ∧ HeldI w.heap.size w' (.slice ia o.n ic) o.n o.F ∧ Below w.heap.size w w' := by
  rcases hp.2 with ⟨h0, _⟩ | ⟨p, a, c, _, _, hq, _, he, hi⟩
  · exact absurd h h0
  · rw [hd] at hq
    obtain rfl := Option.some.inj hq
    exact ⟨a, c, he, hi, hp.1⟩
theorem of_ans (b : List Int) (hb : Bytes b) (hl : b.length ≤ 1000) : Nonempty (OfAns b) := by
  by_cases h : vd b = 0
  · have hd : ∃ o, decO b = some o := by
      unfold vd at h
      by_cases h4 : 400 < b.length
      · rw [if_pos h4] at h; omega
      · rw [if_neg h4] at h
        cases hd : decO b with
        | none => rw [hd] at h; simp only at h; omega
        | some o => exact ⟨o, rfl⟩
    obtain ⟨o, hd⟩ := hd
    have hc := (decO_back hb hd).2.2.1
    exact ⟨{ o := o, D := shaF b, V := 0, n := Nat.le_trans (chk_zero hc).1 (by decide), d := shaF_length _, v := h
             one := fun v wi hr hg => (judgeOf_any b v wi hr hb hg).mono fun e w' hp => of_yes h hd hp
             two := fun v wi hr => (rOf8_any b v wi hr hb hl).mono fun e w' hp => of_yes h hd hp }⟩
  · exact ⟨{ o := zO, D := zerosB 32, V := vd b, n := Nat.zero_le _, d := zerosB_length _, v := rfl
             one := fun v wi hr hg => (judgeOf_any b v wi hr hb hg).mono fun e w' hp => of_no h hp
             two := fun v wi hr => (rOf8_any b v wi hr hb hl).mono fun e w' hp => of_no h hp }⟩
set_option maxRecDepth 100000 in
set_option maxHeartbeats 8000000 in
theorem finds_law (b : List Int) (bv : Value) (w : World) (hrb : RdB w bv b) (hb : Bytes b) (hG0 : GlobW w) :
    Calls Tryz.prog 7 #[bv] w fun e w' => e = .returned (.bool true) ∧ Below w.heap.size w w' := by
  by_cases hg : b.length ≤ 1000
  · obtain ⟨⟨o, D, V, hn0, hD0, hv0, one, two⟩⟩ := of_ans b hb hg
    have c3 := Lib.hid (fun (wz : World) (v : Value) (h : RdB wz v b) (hg : GlobW wz) => (show Calls Tryz.prog 39 #[v] wz fun e w' => e = .returned (.bool (V == 0)) ∧ Below wz.heap.size wz w' from by rw [← hv0]; exact judgeFine_any b v wz h hb hg))
    have hn := Lib.hid hn0
    have c1 := Lib.hid one
    have c2 := Lib.hid two
    have di := Lib.hid (show (Tryz.prog.info? 42).map (·.size) = some (u8s D).size by rw [u8s_size, hD0]; kernel_rfl)
    have ds := Lib.hid (show ∀ x : Array Value, x = u8s (zerosB 32) → x.size = (u8s D).size from fun x hx => by rw [hx, u8s_size, u8s_size, hD0, zerosB_length])
    have heq := Lib.hid (fun wz => eqIds D hD0 wz)
    obtain ⟨RV, hRV⟩ : ∃ R, (V == 0) = R := ⟨_, rfl⟩
    rw [hRV] at c3
    have hRR : (RV == RV) = true := by simp
    obtain ⟨LB, hLB⟩ : ∃ LB, b.length = LB := ⟨_, rfl⟩
    have lb := Lib.hid hLB
    obtain ⟨ba, bc, rfl⟩ := hrb.slice
    rw [hLB] at hrb hg ⊢
    have i1 : ¬ (1000 : Int) < (LB : Int) := by omega
    have ox := Lib.hid (own_nil w)
    have rb0 := Lib.hid (hrb.mono (below_a1 w (.cells #[] 5)))
    have rbb := Lib.hid hrb
    have hG := Lib.hid hG0
    have hg10 := Lib.hid hg
    clear hrb hb hLB one two hn0 hD0 hv0 hG0 hg
    go_enter Tryz.func7, Tryz.ntmps7
    go_wp2_with (refine appendB rfl _ _ 33 rfl w.heap.size 5 Tryz.underlying33 (by kernel_rfl) _ rfl [] ox.out _ rfl b rb0.out (by simp; rw [lb.out]; have := hg10.out; omega) (by simp) ?_)
    intro own w1 h1 h2
    have hB1 := (below_a1 w (.cells #[] 5)).trans (ox.out.below h2 (by simp))
    obtain ⟨oa0, oc0, rfl⟩ := own_slice h1 _ lb.out
    have ow := Lib.hid h1
    have hB := Lib.hid hB1
    have hw1 := Lib.hid (Below.refl w1.heap.size w1)
    have rdo := Lib.hid h1.rd
    have rdb := Lib.hid (rbb.out.mono hB1)
    replace hG := Lib.hid (hG.out.mono hB1)
    clear h1 h2 hB1 ox rb0 rbb
    refine Stop.go ?_
    go_upto_region 5 with (first
      | (go_at_call 35; (with_reducible refine (c1.out _ _ rdo.out (hG.out.mono hw1.out)).mono ?_); rintro e9 w4 ⟨ia, ic, rfl, q1, q2⟩; have hSz := Lib.hid hw1.out.size; (try replace rdo := Lib.hid (rdo.out.mono q2)); (try replace rdb := Lib.hid (rdb.out.mono q2)); (try replace i4 := Lib.hid (heldI_mono i4.out q2)); replace hw1 := Lib.hid (hw1.out.trans (Below.mono q2 hw1.out.size)); have i4 := Lib.hid (heldI_lower q1 hSz.out); clear q1 hSz; clear q2)
      | (refine wpList_store_row rfl 32 _ _ rfl w4.heap.size (o.c (.slice ia o.n ic)) rfl rfl 32 _ (rowA w4 _ _) info_op rfl (op_one o ia o.n ic) ?_)
      | (refine storeOver _ (w4.heap.size + 1) _ rfl 42 _ _ rfl (u8s D) 42 ((setRow_other _ w4.heap.size (w4.heap.size + 1) _ (by omega)).trans (hn2 w4 _ _)) rfl rfl di.out (ds.out _ (by kernel_rfl)) (u8s_one _) ?_; intro wx hrx hbx0; have hSz4 := Lib.hid (show w1.heap.size ≤ w4.heap.size from hw1.out.size); have hbx := Lib.hid (show Below w4.heap.size w4 wx from (below_setRow' ((below_a w4 _).alloc (by simp) _) (Nat.le_refl _) _).trans (hbx0.mono (Nat.le_succ _))); (try replace rdo := Lib.hid (rdo.out.mono hbx.out)); (try replace rdb := Lib.hid (rdb.out.mono hbx.out)); (try replace i4 := Lib.hid (heldI_mono i4.out hbx.out)); replace hw1 := Lib.hid (hw1.out.trans (Below.mono hbx.out hw1.out.size)); have rO4 := Lib.hid ((hbx0.block w4.heap.size (Nat.lt_succ_self _)).trans (setRow_heap _ _ _ (o.c (.slice ia o.n ic)) _ _ (rowA w4 _ _))); have rI4 := Lib.hid hrx; have l4 := Lib.hid hbx.out; have hl4 := Lib.hid hSz4.out; clear hrx hbx0 hbx hSz4))
    have g4d : ∃ g4, g4 = w4.heap.size := ⟨_, rfl⟩
    obtain ⟨g4, hg4⟩ := g4d
    rw [← hg4] at rO4 rI4 hl4 ⊢
    clear hg4 l4
    go_upto_region 6 with (first
      | (go_at_call 38; (with_reducible refine (c2.out _ _ rdb.out).mono ?_); rintro e9 w4 ⟨ja, jc, rfl, q1, q2⟩; have hSz := Lib.hid hw1.out.size; (try replace rO4 := Lib.hid (rowB rO4.out q2 (Array.getElem?_eq_some_iff.1 rO4.out).1)); (try replace rI4 := Lib.hid (rowB rI4.out q2 (Array.getElem?_eq_some_iff.1 rI4.out).1)); (try replace rdo := Lib.hid (rdo.out.mono q2)); (try replace rdb := Lib.hid (rdb.out.mono q2)); (try replace i4 := Lib.hid (heldI_mono i4.out q2)); (try replace i6 := Lib.hid (heldI_mono i6.out q2)); replace hw1 := Lib.hid (hw1.out.trans (Below.mono q2 hw1.out.size)); have i6 := Lib.hid (heldI_lower q1 hSz.out); clear q1 hSz; clear q2)
      | (refine wpList_store_row rfl 32 _ _ rfl w4.heap.size (o.c (.slice ja o.n jc)) rfl rfl 32 _ (rowA w4 _ _) info_op rfl (op_one o ja o.n jc) ?_)
      | (refine storeOver _ (w4.heap.size + 1) _ rfl 42 _ _ rfl (u8s D) 42 ((setRow_other _ w4.heap.size (w4.heap.size + 1) _ (by omega)).trans (hn2 w4 _ _)) rfl rfl di.out (ds.out _ (by kernel_rfl)) (u8s_one _) ?_; intro wx hrx hbx0; have hSz4 := Lib.hid (show w1.heap.size ≤ w4.heap.size from hw1.out.size); have hbx := Lib.hid (show Below w4.heap.size w4 wx from (below_setRow' ((below_a w4 _).alloc (by simp) _) (Nat.le_refl _) _).trans (hbx0.mono (Nat.le_succ _))); (try replace rO4 := Lib.hid (rowB rO4.out hbx.out (Array.getElem?_eq_some_iff.1 rO4.out).1)); (try replace rI4 := Lib.hid (rowB rI4.out hbx.out (Array.getElem?_eq_some_iff.1 rI4.out).1)); (try replace rdo := Lib.hid (rdo.out.mono hbx.out)); (try replace rdb := Lib.hid (rdb.out.mono hbx.out)); (try replace i4 := Lib.hid (heldI_mono i4.out hbx.out)); (try replace i6 := Lib.hid (heldI_mono i6.out hbx.out)); replace hw1 := Lib.hid (hw1.out.trans (Below.mono hbx.out hw1.out.size)); have rO6 := Lib.hid ((hbx0.block w4.heap.size (Nat.lt_succ_self _)).trans (setRow_heap _ _ _ (o.c (.slice ja o.n jc)) _ _ (rowA w4 _ _))); have rI6 := Lib.hid hrx; have hl6 := Lib.hid hSz4.out; clear hrx hbx0 hbx hSz4))
    have g6d : ∃ g6, g6 = w4.heap.size := ⟨_, rfl⟩
    obtain ⟨g6, hg6⟩ := g6d
    rw [← hg6] at rO6 rI6 hl6 ⊢
    clear hg6
    go_upto_region 7 with (go_at_call 39; (with_reducible refine (c3.out _ _ rdo.out (hG.out.mono hw1.out)).mono ?_); rintro e9 w4 ⟨rfl, q2⟩; (try replace rO4 := Lib.hid (rowB rO4.out q2 (Array.getElem?_eq_some_iff.1 rO4.out).1)); (try replace rI4 := Lib.hid (rowB rI4.out q2 (Array.getElem?_eq_some_iff.1 rI4.out).1)); (try replace rO6 := Lib.hid (rowB rO6.out q2 (Array.getElem?_eq_some_iff.1 rO6.out).1)); (try replace rI6 := Lib.hid (rowB rI6.out q2 (Array.getElem?_eq_some_iff.1 rI6.out).1)); (try replace rdo := Lib.hid (rdo.out.mono q2)); (try replace rdb := Lib.hid (rdb.out.mono q2)); (try replace i4 := Lib.hid (heldI_mono i4.out q2)); (try replace i6 := Lib.hid (heldI_mono i6.out q2)); replace hw1 := Lib.hid (hw1.out.trans (Below.mono q2 hw1.out.size)); clear q2)
    have hBv := Lib.hid (hB.out.trans (hw1.out.mono hB.out.size))
    clear c1 c2 c3 rdo rdb
    have w6d : ∃ w6, w6 = w4 := ⟨_, rfl⟩
    obtain ⟨w6, hw6⟩ := w6d
    rw [← hw6] at i4 i6 rO4 rI4 rO6 rI6 hw1 hBv ⊢
    clear hw6
    rcases ow.out.2 with ⟨he, h0⟩ | ⟨g, cap, cur, he, hbg, hgr, hcn, hcm, hcs, hct⟩
    · obtain ⟨e1, e2, e3⟩ := Value.slice.inj he
      subst e1 e3
      have hLB0 : LB = 0 := e2
      clear he h0 e2
      subst hLB0
      go_wp2
      go_loopw [11] (fun i wr => i = .int .i64 0 ∧ w6 = wr) (fun i _ => 0)
      case atStart => exact ⟨rfl, rfl⟩
      case round =>
        obtain ⟨rfl, hwr⟩ := hrel
        subst hwr
        have hbk' := hBv
        have trO4 := rO4
        have trI4 := rI4
        have trO6 := rO6
        have trI6 := rI6
        have q1 := Lib.hid (i4.out w6 (fun j k1 _ => rfl) (Nat.le_refl _))
        have q3 := Lib.hid (i6.out w6 (fun j k1 _ => rfl) (Nat.le_refl _))
        have hSm := Lib.hid (fun (wz : World) (h : Below w6.heap.size w6 wz) => sameO_yes o hn.out _ _ wz (q1.out.mono h) (q3.out.mono h))
        have hQ := Lib.hid (Below.refl w6.heap.size w6)
        have hEE : (V == V) = true := by simp
        go_wp2_with (first
          | (refine wpList_load_row_g rfl 32 _ rfl _ rfl 32 (o.c (.slice ia o.n ic)) (0, 0) _ trO4.out Tryz.underlying32 rfl info_op ?_)
          | (refine wpList_load_row_g rfl 32 _ rfl _ rfl 32 (o.c (.slice ja o.n jc)) (0, 0) _ trO6.out Tryz.underlying32 rfl info_op ?_)
          | (refine wpList_load_row_g rfl 42 _ rfl _ rfl 42 (u8s D) (0, 0) _ trI4.out Tryz.underlying42 rfl di.out ?_)
          | (refine wpList_load_row_g rfl 42 _ rfl _ rfl 42 (u8s D) (0, 0) _ trI6.out Tryz.underlying42 rfl di.out ?_)
          | (go_at_call 18; (with_reducible refine (hSm.out _ hQ.out).mono ?_); rintro e w9 ⟨rfl, h9⟩; replace trO4 := Lib.hid (rowB trO4.out h9 (Array.getElem?_eq_some_iff.1 trO4.out).1); replace trI4 := Lib.hid (rowB trI4.out h9 (Array.getElem?_eq_some_iff.1 trI4.out).1); replace trO6 := Lib.hid (rowB trO6.out h9 (Array.getElem?_eq_some_iff.1 trO6.out).1); replace trI6 := Lib.hid (rowB trI6.out h9 (Array.getElem?_eq_some_iff.1 trI6.out).1); replace hQ := Lib.hid (hQ.out.trans (Below.mono h9 hQ.out.size)); clear h9)
          | (refine wpList_eqlS rfl 42 _ _ rfl (u8s D) (u8s D) rfl rfl idGuard true (heq.out _) ?_))
        go_ret
        exact ⟨rfl, hbk'.out.trans (hQ.out.mono hbk'.out.size)⟩
    · obtain ⟨e1, e2, e3⟩ := Value.slice.inj he
      subst e1 e3
      have hg1 : g < w1.heap.size := (Array.getElem?_eq_some_iff.1 hgr).1
      have hgl := Lib.hid hg1
      have hch0 : Churned g LB 5 w6 w6 := ⟨fun _ _ => rfl, rfl, cur, (hw1.out.block g hg1).trans hgr, fun i hi => ⟨ith b i, by
        have h5 : (cur.toList.take (b.length * 1))[i]? = some (.int .u8 (ith b i)) := by rw [hct]; exact u8v_get _ _ (by rw [lb.out]; exact hi)
        rw [List.getElem?_take, if_pos (by rw [lb.out]; omega), Array.getElem?_toList] at h5
        exact h5⟩⟩
      have hch0' := Lib.hid hch0
      have hLoc : LB ≤ oc0 := by rw [← lb.out]; exact hcn
      have hLB10 := hg10.out
      clear he e2 hct hcs hch0 hcm hcn
      go_wp2
      go_loopw [11] (fun i wr => ∃ k : Nat, k ≤ LB ∧ i = .int .i64 k ∧ Below w.heap.size w wr ∧ Churned g LB 5 w6 wr) (fun i _ => LB - (intOf i).toNat)
      case atStart => exact ⟨0, Nat.zero_le _, rfl, hBv.out, hch0'.out⟩
      case round =>
        obtain ⟨k, hk, rfl, hbk, hch⟩ := hrel
        have hbk' := Lib.hid hbk; have hch' := Lib.hid hch
        clear hbk hch
        by_cases hlt : k < LB
        · obtain ⟨_, _, cs, hrow, hx⟩ := hch'.out
          obtain ⟨x, hx⟩ := hx k hlt
          have cc : wr.cell? ⟨g, k, none⟩ = some (.int .u8 x) := by rw [cell_of_row _ _ _ _ _ _ hrow]; exact hx
          have ff := frozen_of_row _ _ k _ _ hrow
          clear hrow hx
          go_wp2
          go_roundw
          case rel => exact ⟨k + 1, by omega, by go_num, hbk'.out.setCell (p := ⟨g, k, none⟩) hbg _, churned_set hch'.out k _⟩
          case measure => simp [intOf]; omega
        · obtain rfl : k = LB := by omega
          have trO4 := Lib.hid ((hch'.out.1 _ (by have := hl4.out; have := hgl.out; omega)).trans rO4.out)
          have trI4 := Lib.hid ((hch'.out.1 _ (by have := hl4.out; have := hgl.out; omega)).trans rI4.out)
          have trO6 := Lib.hid ((hch'.out.1 _ (by have := hl6.out; have := hgl.out; omega)).trans rO6.out)
          have trI6 := Lib.hid ((hch'.out.1 _ (by have := hl6.out; have := hgl.out; omega)).trans rI6.out)
          have q1 := Lib.hid (i4.out wr (fun j k1 _ => hch'.out.1 j (by have := hgl.out; omega)) (Nat.le_of_eq hch'.out.2.1.symm))
          have q3 := Lib.hid (i6.out wr (fun j k1 _ => hch'.out.1 j (by have := hgl.out; omega)) (Nat.le_of_eq hch'.out.2.1.symm))
          have hSm := Lib.hid (fun (wz : World) (h : Below wr.heap.size wr wz) => sameO_yes o hn.out _ _ wz (q1.out.mono h) (q3.out.mono h))
          have hQ := Lib.hid (Below.refl wr.heap.size wr)
          have hEE : (V == V) = true := by simp
          go_wp2_with (first
            | (refine wpList_load_row_g rfl 32 _ rfl _ rfl 32 (o.c (.slice ia o.n ic)) (0, 0) _ trO4.out Tryz.underlying32 rfl info_op ?_)
            | (refine wpList_load_row_g rfl 32 _ rfl _ rfl 32 (o.c (.slice ja o.n jc)) (0, 0) _ trO6.out Tryz.underlying32 rfl info_op ?_)
            | (refine wpList_load_row_g rfl 42 _ rfl _ rfl 42 (u8s D) (0, 0) _ trI4.out Tryz.underlying42 rfl di.out ?_)
            | (refine wpList_load_row_g rfl 42 _ rfl _ rfl 42 (u8s D) (0, 0) _ trI6.out Tryz.underlying42 rfl di.out ?_)
            | (go_at_call 18; (with_reducible refine (hSm.out _ hQ.out).mono ?_); rintro e w9 ⟨rfl, h9⟩; replace trO4 := Lib.hid (rowB trO4.out h9 (Array.getElem?_eq_some_iff.1 trO4.out).1); replace trI4 := Lib.hid (rowB trI4.out h9 (Array.getElem?_eq_some_iff.1 trI4.out).1); replace trO6 := Lib.hid (rowB trO6.out h9 (Array.getElem?_eq_some_iff.1 trO6.out).1); replace trI6 := Lib.hid (rowB trI6.out h9 (Array.getElem?_eq_some_iff.1 trI6.out).1); replace hQ := Lib.hid (hQ.out.trans (Below.mono h9 hQ.out.size)); clear h9)
            | (refine wpList_eqlS rfl 42 _ _ rfl (u8s D) (u8s D) rfl rfl idGuard true (heq.out _) ?_))
          go_ret
          exact ⟨rfl, hbk'.out.trans (hQ.out.mono hbk'.out.size)⟩
  · obtain ⟨ba, bc, rfl⟩ := hrb.slice
    clear hrb hb hG0
    generalize b.length = LB at *
    have h2 : (1000 : Int) < (LB : Int) := by omega
    go_enter Tryz.func7, Tryz.ntmps7
    go_wp2
    go_ret
    exact ⟨rfl, Below.refl _ _⟩
end Go.Proofs.YtoknefeciopdpaaGreatDoor.wir.val

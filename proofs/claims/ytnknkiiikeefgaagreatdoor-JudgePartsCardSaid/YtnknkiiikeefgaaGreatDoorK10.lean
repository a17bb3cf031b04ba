/- Layer 8: Fine, and the examples of layer 8. -/
import Derived.Test.YtnknkiiikeefgaaGreatDoorK09
namespace Go.Proofs.YtnknkiiikeefgaaGreatDoor.wir.val
open Go.RowKit Go.YtnknkiiikeefgaaGreatDoor
set_option linter.unusedVariables false
theorem rowA (w : World) (A B : Obj) : ((w.alloc A).alloc B).heap[w.heap.size]? = some A := rowB (heap_alloc_new w A) (below_a _ _) (by simp)
/-- What the judge says, whatever it is. -/
theorem judgeOf_w (l : List Int) (bv : Value) (w : World) (hr : RdB w bv l) (hl : Bytes l) (hG0 : GlobW w) :
    Calls Tryz.prog 45 #[bv] w fun e w' => ∃ (o : Od) (a : Option Addr) (n c : Nat) (D : List Int), D.length = 32 ∧ e = .returned (.tuple #[.agg (o.c (.slice a n c)), .agg (u8s D), .int .u8 (vd l)]) ∧ Below w.heap.size w w' := by
  refine (judgeOf_any l bv w hr hl hG0).mono ?_
  rintro e w' ⟨hb, ⟨_, he⟩ | ⟨o, a, c, hv, _, _, _, he, _⟩⟩
  · exact ⟨zO, none, 0, 0, zerosB 32, zerosB_length _, he, hb⟩
  · exact ⟨o, a, o.n, c, shaF l, shaF_length _, by rw [hv]; exact he, hb⟩
set_option maxHeartbeats 4000000 in
set_option maxRecDepth 100000 in
theorem judgeFine_any (l : List Int) (bv : Value) (w : World) (hr : RdB w bv l) (hl : Bytes l) (hG0 : GlobW w) :
    Calls Tryz.prog 83 #[bv] w fun e w' => e = .returned (.bool (vd l == 0)) ∧ Below w.heap.size w w' := by
  have hO := Lib.hid (judgeOf_w l bv w hr hl hG0)
  obtain ⟨ba, bc, rfl⟩ := hr.slice
  generalize vd l = V at *
  clear hr hl hG0
  generalize l.length = N at *
  go_enter Tryz.func83, Tryz.ntmps83
  go_wp2_with (first
    | (go_at_call 45; (with_reducible refine (hO.out).mono ?_); rintro e w1 ⟨o, a, n, c, D, hD, rfl, hb⟩; have hb1 := Lib.hid hb; have di := Lib.hid (show (Tryz.prog.info? 24).map (·.size) = some (u8s D).size by rw [u8s_size, hD]; kernel_rfl); have ds := Lib.hid (fun x : Array Value => fun hx : x = u8s (zerosB 32) => (show x.size = (u8s D).size by rw [hx, u8s_size, u8s_size, hD, zerosB_length])); clear hb hD)
    | (refine wpList_store_row rfl 35 _ _ rfl w1.heap.size (o.c (.slice a n c)) rfl rfl 35 _ (rowA w1 _ _) info_op rfl (op_one o a n c) ?_; have hb3 := Lib.hid (below_setRow' (B := w.heap.size) (g := w1.heap.size) ((hb1.out.alloc hb1.out.size (.cells (zO.c (.slice none 0 0)) 35)).alloc (by simp; have := hb1.out.size; omega) (.cells (u8s (zerosB 32)) 24)) hb1.out.size (o.c (.slice a n c))))
    | (refine storeOver _ (w1.heap.size + 1) _ rfl 24 _ _ rfl (u8s D) 24 ((setRow_other _ w1.heap.size (w1.heap.size + 1) _ (by omega)).trans (hn2 w1 _ _)) rfl rfl di.out (ds.out _ (by kernel_rfl)) (u8s_one _) ?_; intro w9 hr9 hb9; have hb9' := Lib.hid hb9; clear hr9 hb9))
  go_ret
  exact ⟨rfl, hb3.out.trans (hb9'.out.mono (by have := hb1.out.size; omega))⟩
set_option maxHeartbeats 4000000 in
set_option maxRecDepth 100000 in
theorem verdict_any (l : List Int) (bv : Value) (w : World) (hr : RdB w bv l) (hl : Bytes l) (hG0 : GlobW w) :
    Calls Tryz.prog 47 #[bv] w fun e w' => e = .returned (.int .u8 (vd l)) ∧ Below w.heap.size w w' := by
  have hO := Lib.hid (judgeOf_w l bv w hr hl hG0)
  obtain ⟨ba, bc, rfl⟩ := hr.slice
  generalize vd l = V at *
  clear hr hl hG0
  generalize l.length = N at *
  go_enter Tryz.func47, Tryz.ntmps47
  go_wp2_with (first
    | (go_at_call 45; (with_reducible refine (hO.out).mono ?_); rintro e w1 ⟨o, a, n, c, D, hD, rfl, hb⟩; have hb1 := Lib.hid hb; have di := Lib.hid (show (Tryz.prog.info? 24).map (·.size) = some (u8s D).size by rw [u8s_size, hD]; kernel_rfl); have ds := Lib.hid (fun x : Array Value => fun hx : x = u8s (zerosB 32) => (show x.size = (u8s D).size by rw [hx, u8s_size, u8s_size, hD, zerosB_length])); clear hb hD)
    | (refine wpList_store_row rfl 35 _ _ rfl w1.heap.size (o.c (.slice a n c)) rfl rfl 35 _ (rowA w1 _ _) info_op rfl (op_one o a n c) ?_; have hb3 := Lib.hid (below_setRow' (B := w.heap.size) (g := w1.heap.size) ((hb1.out.alloc hb1.out.size (.cells (zO.c (.slice none 0 0)) 35)).alloc (by simp; have := hb1.out.size; omega) (.cells (u8s (zerosB 32)) 24)) hb1.out.size (o.c (.slice a n c))))
    | (refine storeOver _ (w1.heap.size + 1) _ rfl 24 _ _ rfl (u8s D) 24 ((setRow_other _ w1.heap.size (w1.heap.size + 1) _ (by omega)).trans (hn2 w1 _ _)) rfl rfl di.out (ds.out _ (by kernel_rfl)) (u8s_one _) ?_; intro w9 hr9 hb9; have hb9' := Lib.hid hb9; clear hr9 hb9))
  go_ret
  exact ⟨rfl, hb3.out.trans (hb9'.out.mono (by have := hb1.out.size; omega))⟩
/-- What a secret signs. -/
theorem sig_gen (a : Nat) (h : 1 ≤ a ∧ a < 500000003) (o : Od) (fo : o.Fit) (hF : o.F.length = 32 * o.n) (h0 : chkO (o.byA (grp.pw 4 a)).bare = 0) :
    ∃ T : Od, T.Fit ∧ chkO T = 0 ∧ verO T = 0 ∧ T.n = o.n ∧ T.F = o.F ∧ (∃ E S, T = o.sigd (grp.pw 4 a) E S) ∧ ∀ w v, RdI w v o.n o.F → GlobW w → Calls Tryz.prog 55 #[.int .u32 (a : Int), .agg (o.c v)] w fun e w' => ∃ qa qc, e = .returned (.tuple #[.agg (T.c (.slice qa T.n qc)), .int .i64 0]) ∧ RdI w' (.slice qa T.n qc) T.n T.F ∧ Below w.heap.size w w' := by
  have hy : grp.pw 4 a < 4294967296 := Nat.lt_trans (grp.pw_lt 4 a) (by decide)
  have he := eN_lt a (msgB (o.byA (grp.pw 4 a)))
  have hs := sN_lt a (msgB (o.byA (grp.pw 4 a)))
  have hr := signed_right a (msgB (o.byA (grp.pw 4 a)))
  have hS := fun w v hp hg => opSign_ok a h o fo v w hp hg h0
  generalize eN a (msgB (o.byA (grp.pw 4 a))) = E at *
  generalize sN a (msgB (o.byA (grp.pw 4 a))) = S at *
  have hc := chk_sigd h0 he hs
  refine ⟨o.sigd (grp.pw 4 a) E S, fit_sigd fo _ E S hy he hs, hc, ver_zero o _ E S hc hr, rfl, rfl, ⟨E, S, rfl⟩, fun w v hp hg => (hS w v hp hg).mono ?_⟩
  rintro e w' ⟨qv, rfl, hq, hb⟩
  obtain ⟨qa, qc, rfl⟩ := hq.slice
  exact ⟨qa, qc, rfl, hq, hb⟩
theorem vd_good {T : Od} (fT : T.Fit) (hF : T.F.length = 32 * T.n) (hc : chkO T = 0) (hv : verO T = 0) : vd (encO T) = 0 ∧ (encO T).length ≤ 400 ∧ Bytes (encO T) := by
  obtain ⟨h1, h2, h3⟩ := chk_zero hc
  have hl := encO_short T fT h1 hF h3
  refine ⟨?_, hl, encO_bytes T fT h1 h3⟩
  unfold vd
  rw [if_neg (by omega), decO_enc fT hF hc]
  simp only
  rw [if_pos hv]
def kO : Od := ⟨0, 0, [], 1, 2, ⟨#[107]⟩, ⟨0, 0, 0, ⟨#[]⟩⟩, 0, 0⟩
theorem kO_fit : kO.Fit := ⟨by decide, bytes_nil, by decide, by decide, by decide, by decide, ⟨by decide, by decide, by decide, by decide⟩, by decide, by decide⟩
theorem kO_ok2 : (decide ((kO.st : Int) ≤ 1000000000000) && actB kO.k kO.key kO.v) = true := by decide +kernel
theorem kO_chk : chkO (kO.byA (grp.pw 4 5)).bare = 0 := chk_ok (show ¬ 4 < 0 by decide) rfl (okO_of (kO.byA (grp.pw 4 5)).bare (grp.inG_pw 4 5 grp.in4) kO_ok2 gO_sig0)
set_option maxHeartbeats 4000000 in
set_option maxRecDepth 100000 in
/-- The bytes of what the secret 5 signs. -/
theorem signed5 : ∃ B : List Int, vd B = 0 ∧ B.length ≤ 400 ∧ Bytes B ∧ ∀ w, GlobW w → Calls Tryz.prog 44 #[.int .u32 5] w fun e w' => ∃ a c, e = .returned (.slice a B.length c) ∧ RdB w' (.slice a B.length c) B ∧ Below w.heap.size w w' := by
  obtain ⟨T, fT, cT, vT, nT, FT, _, hS⟩ := sig_gen 5 ⟨by omega, by omega⟩ kO kO_fit rfl kO_chk
  have hF : T.F.length = 32 * T.n := by rw [nT, FT]; rfl
  obtain ⟨g1, g2, g3⟩ := vd_good fT hF cT vT
  refine ⟨encO T, g1, g2, g3, fun w hG0 => ?_⟩
  have hSg := Lib.hid (show Calls Tryz.prog 55 #[.int .u32 5, .agg #[.int .u32 0, .slice none 0 0, .int .u64 1, .int .u8 2, .string ⟨#[107]⟩, .int .u8 0, .int .i64 0, .int .u64 0, .string ⟨#[]⟩, .int .u32 0, .int .u32 0]] w fun e w' => ∃ qa qc, e = .returned (.tuple #[.agg (T.c (.slice qa T.n qc)), .int .i64 0]) ∧ RdI w' (.slice qa T.n qc) T.n T.F ∧ Below w.heap.size w w' from hS w (.slice none 0 0) (.inl ⟨none, 0, rfl, fun _ => rfl, rfl, rfl⟩) hG0)
  have hE := Lib.hid (fun wz v (h : RdI wz v T.n T.F) => opEncode_ok T fT v wz h cT)
  generalize encO T = B at *
  clear g1 g2 g3 hF nT FT fT cT vT hS hG0
  obtain ⟨N, hN⟩ : ∃ N, B.length = N := ⟨_, rfl⟩
  have hN := Lib.hid hN
  go_enter Tryz.func44, Tryz.ntmps44
  go_upto_region 2 with (first
    | (go_at_call 55; (with_reducible refine (hSg.out).mono ?_); rintro e w1 ⟨qa, qc, rfl, hq, hb⟩; have hb1 := Lib.hid hb; have hq1 := Lib.hid hq; clear hb hq)
    | (refine storeNew _ rfl 35 _ _ rfl (T.c (.slice qa T.n qc)) 35 rfl rfl info_op rfl (op_one T qa T.n qc) ?_; intro w2 hr2 hb2; have r2 := Lib.hid hr2; have hb2 := Lib.hid hb2; have hq2 := Lib.hid (hq1.out.mono hb2.out); clear hr2))
  go_wp2_with (first
    | (refine wpList_load_row_g rfl 35 _ rfl _ rfl 35 (T.c (.slice qa T.n qc)) (0, 0) _ r2.out Tryz.underlying35 rfl info_op ?_)
    | (go_at_call 50; (with_reducible refine (hE.out _ _ hq2.out).mono ?_); rintro e w3 ⟨sv, rfl, h3, h4⟩; have hO := Lib.hid h3.rd; have hb3 := Lib.hid h4; clear h3 h4))
  go_ret
  obtain ⟨a, c, rfl⟩ := hO.out.slice
  exact ⟨a, c, rfl, hO.out, (hb1.out.trans (hb2.out.mono hb1.out.size)).trans (hb3.out.mono (Nat.le_trans hb1.out.size hb2.out.size))⟩
theorem vd_nil : vd [] = 2 := by decide +kernel
theorem vd_401 : vd (zerosB 401) = 3 := by unfold vd; rw [if_pos (by rw [zerosB_length]; decide)]
def bO : Od := ⟨4, 0, [], 7, 1, ⟨#[]⟩, ⟨0, 0, 0, ⟨#[]⟩⟩, 0, 0⟩
theorem bO_fit : bO.Fit := ⟨by decide, bytes_nil, by decide, by decide, by decide, by decide, ⟨by decide, by decide, by decide, by decide⟩, by decide, by decide⟩
theorem bO_ok2 : (decide ((bO.st : Int) ≤ 1000000000000) && actB bO.k bO.key bO.v) = true := by decide +kernel
theorem bO_chk : chkO bO = 0 := chk_ok (by decide) rfl (okO_of bO grp.in4 bO_ok2 gO_sig0)
theorem bO_enc : encO bO = [111, 4, 0, 7, 1, 0, 0] := by decide +kernel
theorem bO_msg : msgB bO = [111, 4, 0, 7, 1] := by decide +kernel
theorem bO_hash : decide (hN 99 [1, 4] [111, 4, 0, 7, 1] % 500000003 = 0) = false := by decide +kernel
theorem pw_ones (n : Nat) : 1 * grp.pw 1 n % grp.GP = 1 := by
  unfold grp.pw
  rw [Nat.one_pow]
  rfl
theorem rN_one (y : Nat) : rN y 0 0 = 1 := by
  unfold rN
  generalize 500000002 = n
  rw [grp.pw_zero, grp.pw_zero, pw_ones]
theorem bO_right : rightB 4 [111, 4, 0, 7, 1] 0 0 = false := by
  have h := bO_hash
  unfold rightB
  rw [rN_one]
  unfold chalN
  rw [show ([((1 : Nat) : Int), ((4 : Nat) : Int)] : List Int) = [1, 4] from rfl, h]
  rfl
theorem bO_ver : verO bO = 22 := by
  unfold verO
  rw [if_pos bO_chk, bO_msg]
  have h := bO_right
  show (if rightB 4 [111, 4, 0, 7, 1] 0 0 = true then (0 : Int) else 22) = 22
  rw [h]
  rfl
theorem vd_bad : vd [111, 4, 0, 7, 1, 0, 0] = 4 := by
  have h := decO_enc bO_fit rfl bO_chk
  rw [bO_enc] at h
  unfold vd
  rw [if_neg (by decide), h]
  simp only
  rw [bO_ver]
  rfl
theorem bytes7 : Bytes [111, 4, 0, 7, 1, 0, 0] := by
  have h := encO_bytes bO bO_fit (by decide) (chk_zero bO_chk).2.2
  rw [bO_enc] at h
  exact h
theorem rd7 (w : World) : RdB (w.alloc (.cells #[.int .u8 111, .int .u8 4, .int .u8 0, .int .u8 7, .int .u8 1, .int .u8 0, .int .u8 0] 5)) (.slice (some ⟨w.heap.size, 0, none⟩) 7 7) [111, 4, 0, 7, 1, 0, 0] :=
  rdB_row (cs := [111, 4, 0, 7, 1, 0, 0]) (heap_alloc_new w _) 7 rfl (by decide)
theorem rd_zeros (w : World) (n : Nat) (hn : n ≤ 1000) : RdB (w.alloc (.cells (u8s (zerosB n)) 5)) (.slice (some ⟨w.heap.size, 0, none⟩) n n) (zerosB n) :=
  rdB_row (cs := zerosB n) (heap_alloc_new w _) n (zerosB_length n) (by unfold maxLen; omega)
theorem bytes_zeros (n : Nat) : Bytes (zerosB n) := fun i => by
  unfold ith zerosB
  rw [List.getElem?_replicate]
  split <;> simp
set_option maxHeartbeats 8000000 in
set_option maxRecDepth 100000 in
theorem alive8 (w : World) (hG0 : GlobW w) : Calls Tryz.prog 48 #[] w fun e w' => e = .returned (.bool true) ∧ Below w.heap.size w w' := by
  have hS := Lib.hid (Below.refl w.heap.size w)
  have hG := Lib.hid hG0
  obtain ⟨B, b1, b2, b3, hB⟩ := signed5
  have hsg := Lib.hid hB
  have h1 := Lib.hid (fun (wz : World) (hg : GlobW wz) => (show Calls Tryz.prog 47 #[.slice none 0 0] wz fun e w' => e = .returned (.int .u8 2) ∧ Below wz.heap.size wz w' from by
    have h := verdict_any [] (.slice none 0 0) wz (.inl ⟨none, 0, rfl, fun _ => rfl, rfl⟩) bytes_nil hg
    rw [vd_nil] at h; exact h))
  have h2 := Lib.hid (fun (wz : World) (hg : GlobW wz) => (show Calls Tryz.prog 47 #[.slice (some ⟨wz.heap.size, 0, none⟩) 401 401] (wz.alloc (.cells (u8s (zerosB 401)) 5)) fun e w' => e = .returned (.int .u8 3) ∧ Below wz.heap.size wz w' from by
    have h := verdict_any (zerosB 401) _ _ (rd_zeros wz 401 (by decide)) (bytes_zeros 401) (hg.mono (below_a _ _))
    rw [vd_401] at h
    exact h.mono fun e w' ⟨he, hb⟩ => ⟨he, (below_a wz _).trans (hb.mono (by simp))⟩))
  have h3 := Lib.hid (fun (wz : World) (hg : GlobW wz) => (show Calls Tryz.prog 47 #[.slice (some ⟨wz.heap.size, 0, none⟩) 7 7] (wz.alloc (.cells #[.int .u8 111, .int .u8 4, .int .u8 0, .int .u8 7, .int .u8 1, .int .u8 0, .int .u8 0] 5)) fun e w' => e = .returned (.int .u8 4) ∧ Below wz.heap.size wz w' from by
    have h := verdict_any [111, 4, 0, 7, 1, 0, 0] _ _ (rd7 wz) bytes7 (hg.mono (below_a _ _))
    rw [vd_bad] at h
    exact h.mono fun e w' ⟨he, hb⟩ => ⟨he, (below_a wz _).trans (hb.mono (by simp))⟩))
  have h4 := Lib.hid (fun (wz : World) (v : Value) (h : RdB wz v B) (hg : GlobW wz) => (show Calls Tryz.prog 83 #[v] wz fun e w' => e = .returned (.bool true) ∧ Below wz.heap.size wz w' from by
    have h := judgeFine_any B v wz h b3 hg
    rw [b1] at h
    exact h))
  have hmk : ∀ wz : World, (Instr.makeSlice 83 (.int .i64 401) (.int .i64 401)).run Tryz.prog wz = .ok (.slice (some ⟨wz.heap.size, 0, none⟩) 401 401) (wz.alloc (.cells (u8s (zerosB 401)) 5)) := fun wz => run_makeB (P := Tryz.prog) wz 83 5 Tryz.underlying83 (by kernel_rfl) 401 401 (Nat.le_refl _) (by decide)
  clear hG0 hB b1 b2 b3
  generalize B.length = NB at *
  go_enter Tryz.func48, Tryz.ntmps48
  go_wp2_with (first
    | (go_at_call 47; (with_reducible refine (h1.out _ (hG.out.mono hS.out)).mono ?_); rintro e w4 ⟨rfl, q2⟩; replace hS := Lib.hid (hS.out.trans (Below.mono q2 hS.out.size)); clear q2)
    | (go_at_call 47; (with_reducible refine (h2.out _ (hG.out.mono hS.out)).mono ?_); rintro e w4 ⟨rfl, q2⟩; replace hS := Lib.hid (hS.out.trans (Below.mono q2 hS.out.size)); clear q2)
    | (go_at_call 47; (with_reducible refine (h3.out _ (hG.out.mono hS.out)).mono ?_); rintro e w4 ⟨rfl, q2⟩; replace hS := Lib.hid (hS.out.trans (Below.mono q2 hS.out.size)); clear q2)
    | (go_at_call 44; (with_reducible refine (hsg.out _ (hG.out.mono hS.out)).mono ?_); rintro e w4 ⟨xa, xc, rfl, q1, q2⟩; have hx := Lib.hid q1; replace hS := Lib.hid (hS.out.trans (Below.mono q2 hS.out.size)); clear q1 q2)
    | (go_at_call 83; (with_reducible refine (h4.out _ _ hx.out (hG.out.mono hS.out)).mono ?_); rintro e w4 ⟨rfl, q2⟩; replace hS := Lib.hid (hS.out.trans (Below.mono q2 hS.out.size)); clear q2))
  go_ret
  exact ⟨rfl, hS.out⟩
end Go.Proofs.YtnknkiiikeefgaaGreatDoor.wir.val

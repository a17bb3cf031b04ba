/- Layer 6: messages: contract of the reference. Layer 6: bytes: contracts of the reference. -/
import Derived.Test.YtddelpjlcmaomaaDoorQ08
import Derived.Test.YtddelpjlcmaomaaDoorQ04
import Derived.Test.YtddelpjlcmaomaaDoorI03
import Derived.Test.YtddelpjlcmaomaaDoorV22
import Derived.Test.YtddelpjlcmaomaaDoorQ10
namespace Go.Proofs.YtddelpjlcmaomaaDoor.wir.val
open Go.RowKit Go.YtddelpjlcmaomaaDoor
set_option linter.unusedVariables false
theorem valid_le {v : Va} (h : v.ok = true) : v.s.size ≤ 30 := by
  unfold Va.ok validV at h
  split at h
  · simp only [Bool.and_eq_true, decide_eq_true_eq] at h; omega
  · split at h
    · simp only [Bool.and_eq_true, decide_eq_true_eq] at h; omega
    · split at h
      · simp only [Bool.and_eq_true, decide_eq_true_eq] at h; omega
      · cases h
theorem own_grown {B B2 : Nat} {E : TypeId} {w w' : World} {v : Value} {l : List Int} {row : Option Nat} (h : OwnB B2 E w v l) (hg : w.grownBy w' row) (hne : ∀ k, row = some k → k < B2) : OwnB B2 E w' v l := by
  refine ⟨h.1, ?_⟩
  rcases h.2 with hn | ⟨k, cap, cur, rfl, hb, hk, rest⟩
  · exact .inl hn
  · exact .inr ⟨k, cap, cur, rfl, hb, (hg.block k (Array.getElem?_eq_some_iff.1 hk).1 (fun e => by have := hne k e.symm; omega)).trans hk, rest⟩
set_option maxHeartbeats 8000000 in
set_option maxRecDepth 100000 in
theorem rmsg_any (o : Od) (fo : o.Fit) (hn : o.n ≤ 4) (hA : actB o.k o.key o.v = true) (pv : Value) (w : World) (hp : RdI w pv o.n o.F) :
    Calls Tryd.prog 47 #[.agg (o.c pv)] w fun e w' => ∃ sv, e = .returned sv ∧ OwnB w.heap.size 5 w' sv (msgB o) ∧ Below w.heap.size w w' := by
  obtain ⟨W, hW⟩ : ∃ W, W = w.alloc (.cells (o.c pv) 32) := ⟨_, rfl⟩
  have hr0 := heap_alloc_new w (.cells (o.c pv) 32)
  have hb0 := (Below.refl w.heap.size w).alloc (Nat.le_refl _) (.cells (o.c pv) 32)
  rw [← hW] at hr0 hb0
  have hlF := Lib.hid hp.len
  obtain ⟨pa, pc, rfl⟩ := hp.slice
  have hb1 := Lib.hid hb0
  have hlt := Lib.hid hb0.size
  have hrow := Lib.hid hr0
  have hmids := Lib.hid (fun (wz : World) (h : Below W.heap.size W wz) => (cellsP (rowB hrow.out h (Array.getElem?_eq_some_iff.1 hr0).1)))
  have kc := fun (w : World) => run_bytes_of_string (P := Tryd.prog) w 9 35 5 o.key Tryd.underlying9 Tryd.underlying35 Tryd.underlying5
  have hau := u64_nat o.au (by have := fo.au; omega)
  have hid := Lib.hid (fun (wz : World) (h : Below W.heap.size W wz) => rlist_any o.F o.n (.slice pa o.n pc) wz ((hp.mono hb0).mono h) (by omega))
  have hnu := Lib.hid (fun (wz : World) => rnum_any o.au (by have := fo.au; omega) wz)
  have hns := Lib.hid (fun (wz : World) => rnum_any o.st fo.st wz)
  have la := Lib.hid (numL_le o.au (by have := fo.au; omega))
  have ls := Lib.hid (numL_le o.st fo.st)
  have ln := Lib.hid (numL_le o.n (by omega))
  have hkinds := Lib.hid (act_kinds hA)
  have hT := Lib.hid (fun (hs : o.key.size ≤ 20) (W : World) (m : Nat × Nat) => rtext4_any _ (sI o.key) _ (rd_strI W o.key (by omega) m) (by rw [sI_length]; omega))
  have hE := Lib.hid (fun (hv : o.v.ok = true) (wz : World) => rBytes_any o.v.k o.v.n o.v.b o.v.s fo.v hv (Nat.le_trans (valid_le hv) (by decide)) wz)
  have hEl := Lib.hid (fun (hv : o.v.ok = true) => encB_short fo.v hv)
  have hnn := Lib.hid hn
  clear hr0 hb0 hp hrow fo hA hn
  go_enter Tryd.func47, Tryd.ntmps47
  go_upto_region 1 with fail
  rw [← hW]
  clear hW
  have hO := Lib.hid (ownB_row (cs := [111]) (heap_alloc_new W (.cells #[.int .u8 111] 5)) 1 rfl (by decide) (Nat.le_refl W.heap.size))
  have hB := Lib.hid (below_a W (.cells #[.int .u8 111] 5))
  obtain ⟨c0, c1, c2, c3, c4, c5⟩ := hmids.out _ (Below.refl _ _)
  obtain ⟨d0, _, _, _, _, _⟩ := hmids.out _ hB.out
  have hN := Lib.hid (show ([111] : List Int).length ≤ 1 from Nat.le_refl _)
  go_wp2_with (go_at_call 83; (with_reducible refine (hnu.out _).mono ?_); rintro e w4 ⟨z4, rfl, q1, q2⟩; (try replace hO := Lib.hid (hO.out.kept q2)); (try replace hr := Lib.hid (hr.out.kept q2)); (try replace hl := Lib.hid (hl.out.kept q2)); replace hB := Lib.hid (hB.out.trans (Below.mono q2 hB.out.size)); have hr := Lib.hid q1; obtain ⟨ahr, bhr, hz4⟩ := hr.out.rd.slice; rw [numB_length] at hz4; subst hz4; clear q1 q2; refine Stop.go'' _ ?_)
  refine StopP.go ?_
  clear d0
  have hrl := Lib.hid (show (numB o.au).length ≤ 9 by rw [numB_length]; exact la.out)
  go_wp2_with (refine appendB rfl _ _ 35 rfl W.heap.size 5 Tryd.underlying35 (by kernel_rfl) _ rfl [111] hO.out _ rfl (numB o.au) hr.out.rd (by have h1 := hN.out; have h2 := hrl.out; omega) hB.out.size ?_)
  intro v5 w5 h1 h2
  replace hB := Lib.hid (hB.out.trans (hO.out.below h2 hB.out.size))
  replace hO := Lib.hid (show OwnB W.heap.size 5 w5 v5 ([111] ++ (numB o.au)) from by simpa only [List.append_assoc, List.cons_append, List.nil_append, List.singleton_append] using h1)
  replace hN := Lib.hid (show ([111] ++ (numB o.au)).length ≤ 20 by have h1 := hN.out; have h2 := hrl.out; rw [List.length_append]; omega)
  obtain ⟨N1, hN1⟩ : ∃ N, ([111] ++ (numB o.au)).length = N := ⟨_, rfl⟩
  obtain ⟨pbN1, qbN1, hz⟩ := hO.out.rd.slice
  rw [hN1] at hz
  subst hz
  replace hN1 := Lib.hid hN1
  clear h1 h2 hrl
  refine Stop.go ?_
  clear hr
  go_upto_region 2 with fail
  clear c0 c1 c2 c3 c4 c5
  obtain ⟨c0, c1, c2, c3, c4, c5⟩ := hmids.out _ hB.out
  have hll := Lib.hid (show (numB o.n ++ o.F).length = numL o.n + 32 * o.n by rw [List.length_append, numB_length, hlF.out])
  obtain ⟨NL, hNL⟩ : ∃ N, (numB o.n ++ o.F).length = N := ⟨_, rfl⟩
  obtain ⟨N2, hN2⟩ : ∃ N, (([111] ++ numB o.au) ++ (numB o.n ++ o.F)).length = N := ⟨_, rfl⟩
  obtain ⟨N3, hN3⟩ : ∃ N, ((([111] ++ numB o.au) ++ (numB o.n ++ o.F)) ++ numB o.st).length = N := ⟨_, rfl⟩
  have k1 := Lib.hid (show NL ≤ 140 by rw [← hNL, hll.out]; have h1 := ln.out; have h2 := hnn.out; omega)
  have k2 := Lib.hid (show N2 ≤ 200 by rw [← hN2, List.length_append, hNL]; have h1 := hN.out; have h2 := k1.out; omega)
  have k3 := Lib.hid (show N3 ≤ 220 by rw [← hN3, List.length_append, hN2, numB_length]; have h1 := k2.out; have h2 := ls.out; omega)
  replace hNL := Lib.hid hNL; replace hN2 := Lib.hid hN2; replace hN3 := Lib.hid hN3
  have hS := Lib.hid (show ∀ (wz : World) (h : Below W.heap.size W wz), (fun wz => wz.cell? ⟨w.heap.size, 1, none⟩ = some (.slice pa o.n pc) ∧ wz.cell? ⟨w.heap.size, 2, none⟩ = some (.int .u64 (o.st : Int))) wz from fun wz h => ⟨(hmids.out wz h).2.1, (hmids.out wz h).2.2.1⟩)
  replace hB := Lib.hid (show Below W.heap.size W w5.drew from hB.out.drew)
  replace hO := Lib.hid (show OwnB W.heap.size 5 w5.drew _ ([111] ++ numB o.au) from hO.out)
  go_region_held3 (fun wz => wz.cell? ⟨w.heap.size, 1, none⟩ = some (.slice pa o.n pc) ∧ wz.cell? ⟨w.heap.size, 2, none⟩ = some (.int .u64 (o.st : Int))) (first | (exact hS.out _ hB.out) | go_keep)
    (first | (go_at_call 84; (with_reducible refine (hid.out _ hB.out).mono ?_); rintro e w4 ⟨z4, rfl, q1, q2⟩; (try replace hO := Lib.hid (hO.out.kept q2)); (try replace hr := Lib.hid (hr.out.kept q2)); (try replace hl := Lib.hid (hl.out.kept q2)); replace hB := Lib.hid (hB.out.trans (Below.mono q2 hB.out.size)); have hl := Lib.hid q1; obtain ⟨ahl, bhl, hz4⟩ := hl.out.rd.slice; rw [hNL.out] at hz4; subst hz4; clear q1 q2) | (go_at_call 83; (with_reducible refine (hns.out _).mono ?_); rintro e w4 ⟨z4, rfl, q1, q2⟩; have hne := Lib.hid (fun k hk => (World.ownsRow.lt hO.out k hk).2); (try replace hO := Lib.hid (hO.out.kept q2)); (try replace hr := Lib.hid (hr.out.kept q2)); (try replace hl := Lib.hid (hl.out.kept q2)); replace hB := Lib.hid (hB.out.trans (Below.mono q2 hB.out.size)); have hr := Lib.hid q1; obtain ⟨ahr, bhr, hz4⟩ := hr.out.rd.slice; rw [numB_length] at hz4; subst hz4; clear q1 q2) | (refine step_appendB (by rfl) _ _ 35 (by rfl) W.heap.size 5 Tryd.underlying35 (by kernel_rfl) (.slice pbN1 N1 qbN1) (by rfl) ([111] ++ numB o.au) hO.out _ (by rfl) (numB o.n ++ o.F) hl.out.rd (by rw [hN1.out, hNL.out]; have h1 := hN.out; rw [hN1.out] at h1; have h2 := k1.out; omega) hB.out.size ?_; intro v5 w5 h1 h2; (try replace hr := Lib.hid (own_grown hr.out h2 hne.out)); replace hB := Lib.hid (hB.out.trans (hO.out.below h2 hB.out.size)); replace hO := Lib.hid (show OwnB W.heap.size 5 w5 v5 (([111] ++ numB o.au) ++ (numB o.n ++ o.F)) from h1); obtain ⟨pbN2, qbN2, hz5⟩ := hO.out.rd.slice; rw [hN2.out] at hz5; subst hz5; clear h1 h2) | (refine step_appendB (by rfl) _ _ 35 (by rfl) W.heap.size 5 Tryd.underlying35 (by kernel_rfl) (.slice pbN2 N2 qbN2) (by rfl) (([111] ++ numB o.au) ++ (numB o.n ++ o.F)) hO.out _ (by rfl) (numB o.st) hr.out.rd (by rw [hN2.out, numB_length]; have h1 := k2.out; have h2 := ls.out; omega) hB.out.size ?_; intro v5 w5 h1 h2; replace hB := Lib.hid (hB.out.trans (hO.out.below h2 hB.out.size)); replace hO := Lib.hid (show OwnB W.heap.size 5 w5 v5 ((([111] ++ numB o.au) ++ (numB o.n ++ o.F)) ++ (numB o.st)) from h1); obtain ⟨pbN3, qbN3, hz5⟩ := hO.out.rd.slice; rw [hN3.out] at hz5; subst hz5; clear h1 h2))
  all_goals
    clear c0 c1 c2 c3 c4 c5
    try clear hHeld
    obtain ⟨c0, c1, c2, c3, c4, c5⟩ := hmids.out _ hB.out
    go_upto_region 3 with fail
    have hN := Lib.hid (show ((([111] ++ numB o.au) ++ (numB o.n ++ o.F)) ++ numB o.st).length ≤ 220 by rw [hN3.out]; exact k3.out)
    clear hr hl
    go_wp2_with (refine appendB rfl _ _ 35 rfl W.heap.size 5 Tryd.underlying35 (by kernel_rfl) _ rfl ((([111] ++ numB o.au) ++ (numB o.n ++ o.F)) ++ numB o.st) (hO.out.kept (below_a _ (.cells #[.int .u8 o.k] 5))) _ rfl [o.k] (rd_one' _ _) (by have h1 := hN.out; simp only [List.length_cons, List.length_nil]; omega) (hB.out.alloc hB.out.size (.cells #[.int .u8 o.k] 5)).size ?_)
    intro v6 w6 h1 h2
    replace hB := Lib.hid ((hB.out.alloc hB.out.size (.cells #[.int .u8 o.k] 5)).trans ((hO.out.kept (below_a _ (.cells #[.int .u8 o.k] 5))).below h2 (hB.out.alloc hB.out.size (.cells #[.int .u8 o.k] 5)).size))
    replace hO := Lib.hid (show OwnB W.heap.size 5 w6 v6 (((([111] ++ numB o.au) ++ (numB o.n ++ o.F)) ++ numB o.st) ++ [o.k]) from by simpa only [List.append_assoc, List.cons_append, List.nil_append, List.singleton_append] using h1)
    replace hN := Lib.hid (show (((([111] ++ numB o.au) ++ (numB o.n ++ o.F)) ++ numB o.st) ++ [o.k]).length ≤ 221 by have h1 := hN.out; rw [List.length_append, List.length_singleton]; omega)
    obtain ⟨N4, hN4⟩ : ∃ N, (((([111] ++ numB o.au) ++ (numB o.n ++ o.F)) ++ numB o.st) ++ [o.k]).length = N := ⟨_, rfl⟩
    obtain ⟨pbN4, qbN4, hz⟩ := hO.out.rd.slice
    rw [hN4] at hz
    subst hz
    replace hN4 := Lib.hid hN4
    clear h1 h2 c0 c1 c2 c3 c4 c5
    obtain ⟨c0, c1, c2, c3, c4, c5⟩ := hmids.out _ hB.out
    refine Stop.go ?_
    go_upto_region 4 with fail
    rcases hkinds.out with hk | ⟨hk, hks⟩ | ⟨hk, hks, hv⟩
    · replace hk := Lib.hid hk
      have k1 : (o.k != 1) = false := by rw [hk.out]; rfl
      have k4 : (o.k == 4) = false := by rw [hk.out]; rfl
      go_wp2
      go_ret
      have he : msgB o = (((([111] ++ numB o.au) ++ (numB o.n ++ o.F)) ++ numB o.st) ++ [o.k]) := by unfold msgB; rw [if_pos hk.out, if_neg (by rw [hk.out]; decide), List.append_nil, List.append_nil]
      exact ⟨_, rfl, by rw [he]; exact hO.out.mono hlt.out, hb1.out.trans (hB.out.mono hb1.out.size)⟩
    · replace hk := Lib.hid hk
      have k1 : (o.k != 1) = true := by rcases hk.out with hk | hk <;> (rw [hk]; rfl)
      have k4 : (o.k == 4) = false := by rcases hk.out with hk | hk <;> (rw [hk]; rfl)
      go_wp2_with (go_at_call 85; (refine (hT.out hks w6 _).mono ?_); rintro e w4 ⟨z4, rfl, q1, q2⟩; (try replace hO := Lib.hid (hO.out.kept ((show Below w6.heap.size w6 (w6.drew.alloc _) from (Below.refl _ _).drew.alloc (Nat.le_refl _) _).trans (q2.mono (by simp))))); (try replace hr := Lib.hid (hr.out.kept ((show Below w6.heap.size w6 (w6.drew.alloc _) from (Below.refl _ _).drew.alloc (Nat.le_refl _) _).trans (q2.mono (by simp))))); (try replace hl := Lib.hid (hl.out.kept ((show Below w6.heap.size w6 (w6.drew.alloc _) from (Below.refl _ _).drew.alloc (Nat.le_refl _) _).trans (q2.mono (by simp))))); replace hB := Lib.hid (hB.out.trans (Below.mono ((show Below w6.heap.size w6 (w6.drew.alloc _) from (Below.refl _ _).drew.alloc (Nat.le_refl _) _).trans (q2.mono (by simp))) hB.out.size)); have hr := Lib.hid (q1.rd); clear q1 q2; refine Stop.go'' _ ?_)
      refine StopP.go ?_
      clear c0 c1 c2 c3 c4 c5
      obtain ⟨c0, c1, c2, c3, c4, c5⟩ := hmids.out _ hB.out
      have hrl := Lib.hid (show (textB (sI o.key)).length ≤ 30 by rw [textB_length, sI_length]; have := numL_le o.key.size (by omega); omega)
      go_wp2_with (refine appendB rfl _ _ 35 rfl W.heap.size 5 Tryd.underlying35 (by kernel_rfl) _ rfl (((([111] ++ numB o.au) ++ (numB o.n ++ o.F)) ++ numB o.st) ++ [o.k]) hO.out _ rfl (textB (sI o.key)) hr.out (by have h1 := hN.out; have h2 := hrl.out; omega) hB.out.size ?_)
      intro v5 w5 h1 h2
      replace hB := Lib.hid (hB.out.trans (hO.out.below h2 hB.out.size))
      replace hO := Lib.hid (show OwnB W.heap.size 5 w5 v5 ((((([111] ++ numB o.au) ++ (numB o.n ++ o.F)) ++ numB o.st) ++ [o.k]) ++ (textB (sI o.key))) from by simpa only [List.append_assoc, List.cons_append, List.nil_append, List.singleton_append] using h1)
      replace hN := Lib.hid (show ((((([111] ++ numB o.au) ++ (numB o.n ++ o.F)) ++ numB o.st) ++ [o.k]) ++ (textB (sI o.key))).length ≤ 260 by have h1 := hN.out; have h2 := hrl.out; rw [List.length_append]; omega)
      obtain ⟨N5, hN5⟩ : ∃ N, ((((([111] ++ numB o.au) ++ (numB o.n ++ o.F)) ++ numB o.st) ++ [o.k]) ++ (textB (sI o.key))).length = N := ⟨_, rfl⟩
      obtain ⟨pbN5, qbN5, hz⟩ := hO.out.rd.slice
      rw [hN5] at hz
      subst hz
      replace hN5 := Lib.hid hN5
      clear h1 h2 hrl
      refine Stop.go ?_
      clear hr c0 c1 c2 c3 c4 c5
      obtain ⟨c0, c1, c2, c3, c4, c5⟩ := hmids.out _ hB.out
      go_wp2
      go_ret
      have he : msgB o = ((((([111] ++ numB o.au) ++ (numB o.n ++ o.F)) ++ numB o.st) ++ [o.k]) ++ textB (sI o.key)) := by unfold msgB; rw [if_neg (by rcases hk.out with hk | hk <;> (rw [hk]; decide)), if_neg (by rcases hk.out with hk | hk <;> (rw [hk]; decide)), List.append_nil]
      exact ⟨_, rfl, by rw [he]; exact hO.out.mono hlt.out, hb1.out.trans (hB.out.mono hb1.out.size)⟩
    · replace hk := Lib.hid hk
      have k1 : (o.k != 1) = true := by rw [hk.out]; rfl
      have k4 : (o.k == 4) = true := by rw [hk.out]; rfl
      go_wp2_with (go_at_call 85; (refine (hT.out hks w6 _).mono ?_); rintro e w4 ⟨z4, rfl, q1, q2⟩; (try replace hO := Lib.hid (hO.out.kept ((show Below w6.heap.size w6 (w6.drew.alloc _) from (Below.refl _ _).drew.alloc (Nat.le_refl _) _).trans (q2.mono (by simp))))); (try replace hr := Lib.hid (hr.out.kept ((show Below w6.heap.size w6 (w6.drew.alloc _) from (Below.refl _ _).drew.alloc (Nat.le_refl _) _).trans (q2.mono (by simp))))); (try replace hl := Lib.hid (hl.out.kept ((show Below w6.heap.size w6 (w6.drew.alloc _) from (Below.refl _ _).drew.alloc (Nat.le_refl _) _).trans (q2.mono (by simp))))); replace hB := Lib.hid (hB.out.trans (Below.mono ((show Below w6.heap.size w6 (w6.drew.alloc _) from (Below.refl _ _).drew.alloc (Nat.le_refl _) _).trans (q2.mono (by simp))) hB.out.size)); have hr := Lib.hid (q1.rd); clear q1 q2; refine Stop.go'' _ ?_)
      refine StopP.go ?_
      clear c0 c1 c2 c3 c4 c5
      obtain ⟨c0, c1, c2, c3, c4, c5⟩ := hmids.out _ hB.out
      have hrl := Lib.hid (show (textB (sI o.key)).length ≤ 30 by rw [textB_length, sI_length]; have := numL_le o.key.size (by omega); omega)
      go_wp2_with (refine appendB rfl _ _ 35 rfl W.heap.size 5 Tryd.underlying35 (by kernel_rfl) _ rfl (((([111] ++ numB o.au) ++ (numB o.n ++ o.F)) ++ numB o.st) ++ [o.k]) hO.out _ rfl (textB (sI o.key)) hr.out (by have h1 := hN.out; have h2 := hrl.out; omega) hB.out.size ?_)
      intro v5 w5 h1 h2
      replace hB := Lib.hid (hB.out.trans (hO.out.below h2 hB.out.size))
      replace hO := Lib.hid (show OwnB W.heap.size 5 w5 v5 ((((([111] ++ numB o.au) ++ (numB o.n ++ o.F)) ++ numB o.st) ++ [o.k]) ++ (textB (sI o.key))) from by simpa only [List.append_assoc, List.cons_append, List.nil_append, List.singleton_append] using h1)
      replace hN := Lib.hid (show ((((([111] ++ numB o.au) ++ (numB o.n ++ o.F)) ++ numB o.st) ++ [o.k]) ++ (textB (sI o.key))).length ≤ 260 by have h1 := hN.out; have h2 := hrl.out; rw [List.length_append]; omega)
      obtain ⟨N5, hN5⟩ : ∃ N, ((((([111] ++ numB o.au) ++ (numB o.n ++ o.F)) ++ numB o.st) ++ [o.k]) ++ (textB (sI o.key))).length = N := ⟨_, rfl⟩
      obtain ⟨pbN5, qbN5, hz⟩ := hO.out.rd.slice
      rw [hN5] at hz
      subst hz
      replace hN5 := Lib.hid hN5
      clear h1 h2 hrl
      refine Stop.go ?_
      clear hr c0 c1 c2 c3 c4 c5
      obtain ⟨c0, c1, c2, c3, c4, c5⟩ := hmids.out _ hB.out
      have hrl := Lib.hid (hEl.out hv)
      go_wp2_with (first | (go_at_call 86; (with_reducible refine (hE.out hv _).mono ?_); rintro e w4 ⟨z4, rfl, q1, q2⟩; (try replace hO := Lib.hid (hO.out.kept q2)); (try replace hr := Lib.hid (hr.out.kept q2)); (try replace hl := Lib.hid (hl.out.kept q2)); replace hB := Lib.hid (hB.out.trans (Below.mono q2 hB.out.size)); have hr := Lib.hid (q1.rd); clear q1 q2; refine Stop.go'' _ ?_) | (refine wpList_midV rfl 26 _ rfl w.heap.size 5 rfl o.v.l _ c5 Tryd.underlying26 rfl info_val ?_))
      refine StopP.go ?_
      clear c0 c1 c2 c3 c4 c5
      go_wp2_with (refine appendB rfl _ _ 35 rfl W.heap.size 5 Tryd.underlying35 (by kernel_rfl) _ rfl ((((([111] ++ numB o.au) ++ (numB o.n ++ o.F)) ++ numB o.st) ++ [o.k]) ++ textB (sI o.key)) hO.out _ rfl (encB o.v.k o.v.n o.v.b o.v.s) hr.out (by have h1 := hN.out; have h2 := hrl.out; omega) hB.out.size ?_)
      intro v5 w5 h1 h2
      replace hB := Lib.hid (hB.out.trans (hO.out.below h2 hB.out.size))
      replace hO := Lib.hid (show OwnB W.heap.size 5 w5 v5 (((((([111] ++ numB o.au) ++ (numB o.n ++ o.F)) ++ numB o.st) ++ [o.k]) ++ textB (sI o.key)) ++ (encB o.v.k o.v.n o.v.b o.v.s)) from by simpa only [List.append_assoc, List.cons_append, List.nil_append, List.singleton_append] using h1)
      replace hN := Lib.hid (show (((((([111] ++ numB o.au) ++ (numB o.n ++ o.F)) ++ numB o.st) ++ [o.k]) ++ textB (sI o.key)) ++ (encB o.v.k o.v.n o.v.b o.v.s)).length ≤ 400 by have h1 := hN.out; have h2 := hrl.out; rw [List.length_append]; omega)
      obtain ⟨N6, hN6⟩ : ∃ N, (((((([111] ++ numB o.au) ++ (numB o.n ++ o.F)) ++ numB o.st) ++ [o.k]) ++ textB (sI o.key)) ++ (encB o.v.k o.v.n o.v.b o.v.s)).length = N := ⟨_, rfl⟩
      obtain ⟨pbN6, qbN6, hz⟩ := hO.out.rd.slice
      rw [hN6] at hz
      subst hz
      replace hN6 := Lib.hid hN6
      clear h1 h2 hrl
      refine Stop.go ?_
      clear hr
      go_wp2
      go_ret
      have he : msgB o = (((((([111] ++ numB o.au) ++ (numB o.n ++ o.F)) ++ numB o.st) ++ [o.k]) ++ textB (sI o.key)) ++ encB o.v.k o.v.n o.v.b o.v.s) := by unfold msgB; rw [if_neg (by rw [hk.out]; decide), if_pos hk.out]
      exact ⟨_, rfl, by rw [he]; exact hO.out.mono hlt.out, hb1.out.trans (hB.out.mono hb1.out.size)⟩
end Go.Proofs.YtddelpjlcmaomaaDoor.wir.val
namespace Go.Proofs.YtddelpjlcmaomaaDoor.wir.val
open Go.RowKit Go.YtddelpjlcmaomaaDoor
set_option linter.unusedVariables false
theorem disj {B1 : Nat} {E1 E2 : TypeId} {w1 w2 : World} {v1 v2 : Value} {l1 l2 : List Int} (h1 : OwnB B1 E1 w1 v1 l1) (h2 : OwnB w1.heap.size E2 w2 v2 l2) : ∀ k, v1.ownBlock = some k → v2.ownBlock ≠ some k := fun k hk hk2 => by
  have a := (World.ownsRow.lt h1 k hk).2
  have b := (World.ownsRow.lt h2 k hk2).1
  omega
theorem own_apart {B : Nat} {E : TypeId} {w w' : World} {v : Value} {l : List Int} {row : Option Nat} (h : OwnB B E w v l) (hg : w.grownBy w' row) (hne : ∀ k, row = some k → v.ownBlock ≠ some k) : OwnB B E w' v l := by
  refine ⟨h.1, ?_⟩
  rcases h.2 with hn | ⟨k, cap, cur, rfl, hb, hk, rest⟩
  · exact .inl hn
  · exact .inr ⟨k, cap, cur, rfl, hb, (hg.block k (Array.getElem?_eq_some_iff.1 hk).1 (fun e => hne k e.symm rfl)).trans hk, rest⟩
set_option maxHeartbeats 8000000 in
set_option maxRecDepth 100000 in
theorem rBytesO_any (o : Od) (fo : o.Fit) (hn : o.n ≤ 4) (hA : actB o.k o.key o.v = true) (pv : Value) (w : World) (hp : RdI w pv o.n o.F) :
    Calls Tryd.prog 49 #[.agg (o.c pv)] w fun e w' => ∃ sv, e = .returned sv ∧ OwnB w.heap.size 5 w' sv (encO o) ∧ Below w.heap.size w w' := by
  obtain ⟨W, hW⟩ : ∃ W, W = w.alloc (.cells (o.c pv) 32) := ⟨_, rfl⟩
  have hr0 := heap_alloc_new w (.cells (o.c pv) 32)
  have hb0 := (Below.refl w.heap.size w).alloc (Nat.le_refl _) (.cells (o.c pv) 32)
  rw [← hW] at hr0 hb0
  have hms := Lib.hid (msgB_short o fo hn hp.len hA)
  obtain ⟨pa, pc, rfl⟩ := hp.slice
  have hb1 := Lib.hid hb0
  have hrow := Lib.hid hr0
  have hlt := (Array.getElem?_eq_some_iff.1 hr0).1
  have hS := Lib.hid (show ∀ (wz : World) (h : Below W.heap.size W wz), (fun wz => wz.cell? ⟨w.heap.size, 0, none⟩ = some (.int .u32 (o.au : Int)) ∧ wz.cell? ⟨w.heap.size, 1, none⟩ = some (.slice pa o.n pc) ∧ wz.cell? ⟨w.heap.size, 2, none⟩ = some (.int .u64 (o.st : Int)) ∧ wz.cell? ⟨w.heap.size, 3, none⟩ = some (.int .u8 o.k) ∧ wz.cell? ⟨w.heap.size, 4, none⟩ = some (.string o.key) ∧ wz.cell? ⟨w.heap.size, 5, none⟩ = some (.int .u8 o.v.k) ∧ wz.cell? ⟨w.heap.size, 6, none⟩ = some (.int .i64 o.v.n) ∧ wz.cell? ⟨w.heap.size, 7, none⟩ = some (.int .u64 (o.v.b : Int)) ∧ wz.cell? ⟨w.heap.size, 8, none⟩ = some (.string o.v.s) ∧ wz.cell? ⟨w.heap.size, 9, none⟩ = some (.int .u32 (o.e : Int)) ∧ wz.cell? ⟨w.heap.size, 10, none⟩ = some (.int .u32 (o.s : Int))) wz from fun wz h => cells11 (rowB hrow.out h hlt))
  have hM := Lib.hid (fun (wz : World) (hb : Below W.heap.size W wz) => rmsg_any o fo hn hA (.slice pa o.n pc) wz ((hp.mono hb0).mono hb))
  have hne := Lib.hid (fun (wz : World) => rnum_any o.e (by have := fo.e; omega) wz)
  have hns := Lib.hid (fun (wz : World) => rnum_any o.s (by have := fo.s; omega) wz)
  have le := Lib.hid (numL_le o.e (by have := fo.e; omega))
  have ls := Lib.hid (numL_le o.s (by have := fo.s; omega))
  have hwe := u64_nat o.e (by have := fo.e; omega)
  have hws := u64_nat o.s (by have := fo.s; omega)
  have he := Lib.hid (show encO o = (msgB o ++ numB o.e) ++ numB o.s from rfl)
  generalize encO o = EO at *
  generalize hme : msgB o = MB at *
  clear hr0 hb0 hp fo hn hA hme
  obtain ⟨N5, hN5⟩ : ∃ N, (MB ++ numB o.e).length = N := ⟨_, rfl⟩
  have hN6 := Lib.hid (show N5 ≤ 400 by rw [← hN5, List.length_append, numB_length]; have h1 := hms.out; have h2 := le.out; omega)
  obtain ⟨N7, hN7⟩ : ∃ N, ((MB ++ numB o.e) ++ numB o.s).length = N := ⟨_, rfl⟩
  replace hN5 := Lib.hid hN5
  replace hN7 := Lib.hid hN7
  go_enter Tryd.func49, Tryd.ntmps49
  go_upto_region 1 with fail
  rw [← hW]
  clear hW
  have hB := Lib.hid (show Below W.heap.size W W.drew from (Below.refl _ _).drew)
  have hB0 := Lib.hid (show W.heap.size ≤ W.drew.heap.size from hB.out.size)
  obtain ⟨c0, c1, c2, c3, c4, c5, c6, c7, c8, c9, c10⟩ := hS.out W (Below.refl _ _)
  go_region_held3 (fun wz => wz.cell? ⟨w.heap.size, 0, none⟩ = some (.int .u32 (o.au : Int)) ∧ wz.cell? ⟨w.heap.size, 1, none⟩ = some (.slice pa o.n pc) ∧ wz.cell? ⟨w.heap.size, 2, none⟩ = some (.int .u64 (o.st : Int)) ∧ wz.cell? ⟨w.heap.size, 3, none⟩ = some (.int .u8 o.k) ∧ wz.cell? ⟨w.heap.size, 4, none⟩ = some (.string o.key) ∧ wz.cell? ⟨w.heap.size, 5, none⟩ = some (.int .u8 o.v.k) ∧ wz.cell? ⟨w.heap.size, 6, none⟩ = some (.int .i64 o.v.n) ∧ wz.cell? ⟨w.heap.size, 7, none⟩ = some (.int .u64 (o.v.b : Int)) ∧ wz.cell? ⟨w.heap.size, 8, none⟩ = some (.string o.v.s) ∧ wz.cell? ⟨w.heap.size, 9, none⟩ = some (.int .u32 (o.e : Int)) ∧ wz.cell? ⟨w.heap.size, 10, none⟩ = some (.int .u32 (o.s : Int))) (first | (exact hS.out _ hB.out) | go_keep)
    (first
      | (go_at_call 47; (with_reducible refine (hM.out _ hB.out).mono ?_); rintro e w4 ⟨z4, rfl, q1, q2⟩; (try have hd2 := Lib.hid (fun k hk hk2 => disj hr2.out q1 k hk2 hk)); (try replace hO := Lib.hid (hO.out.kept q2)); (try replace hr1 := Lib.hid (hr1.out.kept q2)); (try replace hr2 := Lib.hid (hr2.out.kept q2)); replace hB := Lib.hid (hB.out.trans (Below.mono q2 hB.out.size)); have hO := Lib.hid (q1.mono hB0.out); obtain ⟨ma, mc, hz4⟩ := hO.out.rd.slice; subst hz4; clear q1 q2)
      | (go_at_call 83; (with_reducible refine (hne.out _).mono ?_); rintro e w4 ⟨z4, rfl, q1, q2⟩; (try replace hO := Lib.hid (hO.out.kept q2)); (try replace hr1 := Lib.hid (hr1.out.kept q2)); (try replace hr2 := Lib.hid (hr2.out.kept q2)); replace hB := Lib.hid (hB.out.trans (Below.mono q2 hB.out.size)); have hr1 := Lib.hid q1; obtain ⟨ahr1, bhr1, hz4⟩ := hr1.out.rd.slice; rw [numB_length] at hz4; subst hz4; clear q1 q2)
      | (go_at_call 83; (with_reducible refine (hns.out _).mono ?_); rintro e w4 ⟨z4, rfl, q1, q2⟩; (try have hd2 := Lib.hid (disj hO.out q1)); (try replace hO := Lib.hid (hO.out.kept q2)); (try replace hr1 := Lib.hid (hr1.out.kept q2)); (try replace hr2 := Lib.hid (hr2.out.kept q2)); replace hB := Lib.hid (hB.out.trans (Below.mono q2 hB.out.size)); have hr2 := Lib.hid q1; obtain ⟨ahr2, bhr2, hz4⟩ := hr2.out.rd.slice; rw [numB_length] at hz4; subst hz4; clear q1 q2)
      | (refine step_appendB (by rfl) _ _ 35 (by rfl) W.heap.size 5 Tryd.underlying35 (by kernel_rfl) (.slice ma MB.length mc) (by rfl) MB hO.out _ (by rfl) (numB o.e) hr1.out.rd (by rw [numB_length]; have h1 := hms.out; have h2 := le.out; omega) hB.out.size ?_; intro v5 w5 h1 h2; (try replace hr2 := Lib.hid (own_apart hr2.out h2 hd2.out)); replace hB := Lib.hid (hB.out.trans (hO.out.below h2 hB.out.size)); replace hO := Lib.hid (show OwnB W.heap.size 5 w5 v5 (MB ++ (numB o.e)) from h1); obtain ⟨pbN5, qbN5, hz5⟩ := hO.out.rd.slice; rw [hN5.out] at hz5; subst hz5; clear h1 h2)
      | (refine step_appendB (by rfl) _ _ 35 (by rfl) W.heap.size 5 Tryd.underlying35 (by kernel_rfl) (.slice pbN5 N5 qbN5) (by rfl) (MB ++ numB o.e) hO.out _ (by rfl) (numB o.s) hr2.out.rd (by rw [hN5.out, numB_length]; have h1 := hN6.out; have h2 := ls.out; omega) hB.out.size ?_; intro v5 w5 h1 h2; replace hB := Lib.hid (hB.out.trans (hO.out.below h2 hB.out.size)); replace hO := Lib.hid (show OwnB W.heap.size 5 w5 v5 ((MB ++ numB o.e) ++ (numB o.s)) from h1); obtain ⟨pbN7, qbN7, hz5⟩ := hO.out.rd.slice; rw [hN7.out] at hz5; subst hz5; clear h1 h2))
  all_goals
    clear c0 c1 c2 c3 c4 c5 c6 c7 c8 c9 c10
    go_wp2
    go_ret
    exact ⟨_, rfl, by rw [he.out]; exact hO.out.mono hb1.out.size, hb1.out.trans (hB.out.mono hb1.out.size)⟩
set_option maxHeartbeats 4000000 in
set_option maxRecDepth 100000 in
theorem rEncodeO_ok (o : Od) (fo : o.Fit) (pv : Value) (w : World) (hp : RdI w pv o.n o.F) (h0 : chkO o = 0) :
    Calls Tryd.prog 14 #[.agg (o.c pv)] w fun e w' => ∃ sv, e = .returned (.tuple #[sv, .int .i64 0]) ∧ OwnB w.heap.size 5 w' sv (encO o) ∧ Below w.heap.size w w' := by
  obtain ⟨W, hW⟩ : ∃ W, W = w.alloc (.cells (o.c pv) 32) := ⟨_, rfl⟩
  have hr0 := heap_alloc_new w (.cells (o.c pv) 32)
  have hb0 := (Below.refl w.heap.size w).alloc (Nat.le_refl _) (.cells (o.c pv) 32)
  rw [← hW] at hr0 hb0
  obtain ⟨pa, pc, rfl⟩ := hp.slice
  have hb1 := Lib.hid hb0
  have hlt := (Array.getElem?_eq_some_iff.1 hr0).1
  have hrows := Lib.hid (fun (wz : World) (h : Below W.heap.size W wz) => rowB hr0 h hlt)
  have hK := Lib.hid (fun (wz : World) (hb : Below W.heap.size W wz) => ropCheck_any o fo (.slice pa o.n pc) wz ((hp.mono hb0).mono hb))
  rw [h0] at hK
  have hE := Lib.hid (fun (wz : World) (hb : Below W.heap.size W wz) => rBytesO_any o fo (chk_zero h0).1 (chk_zero h0).2.2 (.slice pa o.n pc) wz ((hp.mono hb0).mono hb))
  have hB := Lib.hid (Below.refl W.heap.size W)
  clear hr0 hb0 hp fo h0
  go_enter Tryd.func14, Tryd.ntmps14
  go_upto_region 1 with fail
  rw [← hW]
  clear hW
  go_wp2_with (first | (refine wpList_load_row_g rfl 32 _ rfl w.heap.size rfl 32 (o.c (.slice pa o.n pc)) (0, 0) _ (hrows.out _ hB.out) Tryd.underlying32 rfl info_op ?_) | (go_at_call 20; (with_reducible refine (hK.out _ hB.out).mono ?_); rintro e w3 ⟨rfl, h3⟩; replace hB := Lib.hid (hB.out.trans (h3.mono hB.out.size)); clear h3) | (go_at_call 49; (with_reducible refine (hE.out _ hB.out).mono ?_); rintro e w4 ⟨sv, rfl, h2, h3⟩; have hO := Lib.hid (h2.mono hB.out.size); replace hB := Lib.hid (hB.out.trans (h3.mono hB.out.size)); clear h2 h3))
  go_ret2
  exact ⟨_, rfl, hO.out.mono hb1.out.size, hb1.out.trans (hB.out.mono hb1.out.size)⟩
set_option maxHeartbeats 4000000 in
set_option maxRecDepth 100000 in
theorem rEncodeO_bad (o : Od) (fo : o.Fit) (pv : Value) (w : World) (hp : RdI w pv o.n o.F) (h0 : chkO o ≠ 0) :
    Calls Tryd.prog 14 #[.agg (o.c pv)] w fun e w' => e = .returned (.tuple #[.slice none 0 0, .int .i64 (chkO o)]) ∧ Below w.heap.size w w' := by
  obtain ⟨W, hW⟩ : ∃ W, W = w.alloc (.cells (o.c pv) 32) := ⟨_, rfl⟩
  have hr0 := heap_alloc_new w (.cells (o.c pv) 32)
  have hb0 := (Below.refl w.heap.size w).alloc (Nat.le_refl _) (.cells (o.c pv) 32)
  rw [← hW] at hr0 hb0
  obtain ⟨pa, pc, rfl⟩ := hp.slice
  have hb1 := Lib.hid hb0
  have hlt := (Array.getElem?_eq_some_iff.1 hr0).1
  have hrows := Lib.hid (fun (wz : World) (h : Below W.heap.size W wz) => rowB hr0 h hlt)
  have hK := Lib.hid (fun (wz : World) (hb : Below W.heap.size W wz) => ropCheck_any o fo (.slice pa o.n pc) wz ((hp.mono hb0).mono hb))
  have hB := Lib.hid (Below.refl W.heap.size W)
  clear hr0 hb0 hp fo
  generalize chkO o = E at *
  have hE : (E != 0) = true := by simpa using h0
  clear h0
  go_enter Tryd.func14, Tryd.ntmps14
  go_upto_region 1 with fail
  rw [← hW]
  clear hW
  go_wp2_with (first | (refine wpList_load_row_g rfl 32 _ rfl w.heap.size rfl 32 (o.c (.slice pa o.n pc)) (0, 0) _ (hrows.out _ hB.out) Tryd.underlying32 rfl info_op ?_) | (go_at_call 20; (with_reducible refine (hK.out _ hB.out).mono ?_); rintro e w3 ⟨rfl, h3⟩; replace hB := Lib.hid (hB.out.trans (h3.mono hB.out.size)); clear h3))
  go_ret2
  exact ⟨rfl, hb1.out.trans (hB.out.mono hb1.out.size)⟩
end Go.Proofs.YtddelpjlcmaomaaDoor.wir.val

/- Texts that the row stands on, part 3. -/
import Derived.Test.YtdebeimognikiaaRDoneCq02
import Derived.OpenShut
import Derived.OpenVars
import Derived.ChangeSlices
import Derived.Lib.SmallJoins
import Derived.ChangeMaps5
namespace Go.Proofs.Ytdebeimognikiaa.con
open Go.RowKit Go.Ytdebeimognikiaa
set_option linter.unusedVariables false
theorem round_runs {L A : List Int} (h : OkT L A) {N : Nat} (hN : N ≤ 300) : pckE L A (rnd L A L.length N).out = 0 ∧ runR L A (rnd L A L.length N).out = (rnd L A L.length N).L ∧ runA L A (rnd L A L.length N).out = A ∧ (runS L A (rnd L A L.length N).out).length = (rnd L A L.length N).out.length := by
  have hp := rnd_picks h hN
  have h0 := pckE_of hp
  obtain ⟨a, b, c⟩ := run_ok h0
  have hi := rndI_all h N
  exact ⟨h0, a.trans hi.run, b, by rw [c]; exact hi.did⟩
theorem fairV_nat2 {L A Q : List Int} (h : OkP L A Q) {X : Nat} (hX : 1 ≤ X) : fairV L A Q (X : Int) = fairB L A Q X ∧ fairE L A Q (X : Int) = 0 := by
  obtain ⟨a, b⟩ := fair_fine (pckE_of h) (x := (X : Int)) (by omega)
  rw [Int.toNat_natCast] at b
  exact ⟨b, a⟩
set_option maxHeartbeats 4000000 in
set_option maxRecDepth 100000 in
theorem schedDone_law (L A : List Int) (lv av : Value) (x : Int) (w : World) (hL : RdN w lv L) (hA : RdN w av A) :
    Calls Try.prog 7 #[.agg (tkC lv av), .int .i64 x] w fun e w' => e = .returned (.bool true) ∧ Below w.heap.size w w' := by
  obtain ⟨la, lc, rfl⟩ := hL.slice
  obtain ⟨n, hn⟩ : ∃ n, L.length = n := ⟨_, rfl⟩
  have hn' := Lib.hid hn
  rw [hn] at hL ⊢
  obtain ⟨W, hW⟩ : ∃ W, W = w.alloc (.cells (tkC (.slice la n lc) av) 24) := ⟨_, rfl⟩
  have hS := Lib.hid (show Below w.heap.size w W by rw [hW]; exact below_a _ _)
  have r0 := Lib.hid (show W.heap[w.heap.size]? = some (.cells (tkC (.slice la n lc) av) 24 (0, 0)) by rw [hW]; exact heap_alloc_new w _)
  have hsz := Lib.hid (show W.heap.size = w.heap.size + 1 by rw [hW]; simp)
  have hX := Lib.hid (Below.refl W.heap.size W)
  have hrow := Lib.hid (fun (wz : World) (h : Below W.heap.size W wz) => rowB r0.out h (Array.getElem?_eq_some_iff.1 r0.out).1)
  have kL := Lib.hid (fun (wz : World) (h : Below W.heap.size W wz) => hL.mono (hS.out.trans (h.mono hS.out.size)))
  have kA := Lib.hid (fun (wz : World) (h : Below W.heap.size W wz) => hA.mono (hS.out.trans (h.mono hS.out.size)))
  have cF := Lib.hid (fun wz h => fit_any L A (.slice la n lc) av wz (kL.out wz h) (kA.out wz h))
  have cS0 := Lib.hid (fun wz h (hO : OkT L A) => sum_any L (.slice la n lc) wz (kL.out wz h) (by have := hO.hi; omega) (fun i hi => (hO.el i hi).1))
  have c1 := Lib.hid (fun y wz h => sRounds_any L A (.slice la n lc) av y wz (kL.out wz h) (kA.out wz h))
  have c2 := Lib.hid (fun (Q : List Int) pv wz h hq => sRun_any L A Q (.slice la n lc) av pv wz (kL.out wz h) (kA.out wz h) hq)
  have c3 := Lib.hid (fun (Q : List Int) pv y wz h hq => sFair_any L A Q (.slice la n lc) av pv y wz (kL.out wz h) (kA.out wz h) hq)
  clear hL hA hn kL kA
  cases hB : okT L A with
  | false =>
    rw [hB] at cF
    go_enter Try.func7, Try.ntmps7
    go_upto_region 1 with fail
    rw [← hW]
    clear hW
    go_wp2_with (first
        | (refine wpList_load_row_g rfl 24 _ rfl w.heap.size rfl 24 (tkC (.slice la n lc) av) (0, 0) _ (hrow.out _ hX.out) Try.underlying24 rfl info_tk ?_)
        | (go_at_call 28; (with_reducible refine (alive13_any _).mono ?_); rintro e9 w9 ⟨rfl, q9⟩; replace hX := Lib.hid (hX.out.trans (Below.mono q9 hX.out.size)); (try replace w8 := Lib.hid (rowK w8.out q9)); (try replace v1 := Lib.hid (v1.out.mono q9)); (try replace vt := Lib.hid (vt.out.mono q9)); (try replace vu := Lib.hid (vu.out.mono q9)); (try replace vd := Lib.hid (vd.out.mono q9)); have c0 : w9.cell? ⟨w.heap.size, 0, none⟩ = some (.slice la n lc) := (by rw [cell_of_row _ _ _ _ _ _ (hrow.out _ hX.out)]; rfl); skip; clear q9)
        | (go_at_call 29; (with_reducible refine (cF.out _ hX.out).mono ?_); rintro e9 w9 ⟨rfl, q9⟩; replace hX := Lib.hid (hX.out.trans (Below.mono q9 hX.out.size)); (try replace w8 := Lib.hid (rowK w8.out q9)); (try replace v1 := Lib.hid (v1.out.mono q9)); (try replace vt := Lib.hid (vt.out.mono q9)); (try replace vu := Lib.hid (vu.out.mono q9)); (try replace vd := Lib.hid (vd.out.mono q9)); have c0 : w9.cell? ⟨w.heap.size, 0, none⟩ = some (.slice la n lc) := (by rw [cell_of_row _ _ _ _ _ _ (hrow.out _ hX.out)]; rfl); skip; clear q9))
    go_ret
    exact ⟨rfl, hS.out.trans (hX.out.mono hS.out.size)⟩
  | true =>
  rw [hB] at cF
  have hO := okT_iff.1 hB
  have n12 := hO.hi
  have n1 := hO.lo
  have hO' := Lib.hid hO
  have cS := Lib.hid (fun wz h => cS0.out wz h hO)
  have hsum := sumI_le L (fun i hi => (hO.el i hi).1) L.length (Nat.le_refl _)
  have hnA := Lib.hid (show A.length = n by rw [hO.na, hn'.out])
  rw [hn'.out] at n12 n1 cS hsum
  clear cS0 hB hO
  generalize hZ : sumI L n = Z at *
  have hZ' := Lib.hid hZ
  clear hZ
  obtain ⟨Z0, rfl⟩ : ∃ Z0 : Nat, Z = (Z0 : Int) := ⟨Z.toNat, by omega⟩
  by_cases a1 : (300 : Int) < (Z0 : Int)
  · skip
    go_enter Try.func7, Try.ntmps7
    go_upto_region 1 with fail
    rw [← hW]
    clear hW
    go_wp2_with (first
        | (refine wpList_load_row_g rfl 24 _ rfl w.heap.size rfl 24 (tkC (.slice la n lc) av) (0, 0) _ (hrow.out _ hX.out) Try.underlying24 rfl info_tk ?_)
        | (go_at_call 28; (with_reducible refine (alive13_any _).mono ?_); rintro e9 w9 ⟨rfl, q9⟩; replace hX := Lib.hid (hX.out.trans (Below.mono q9 hX.out.size)); (try replace w8 := Lib.hid (rowK w8.out q9)); (try replace v1 := Lib.hid (v1.out.mono q9)); (try replace vt := Lib.hid (vt.out.mono q9)); (try replace vu := Lib.hid (vu.out.mono q9)); (try replace vd := Lib.hid (vd.out.mono q9)); have c0 : w9.cell? ⟨w.heap.size, 0, none⟩ = some (.slice la n lc) := (by rw [cell_of_row _ _ _ _ _ _ (hrow.out _ hX.out)]; rfl); skip; clear q9)
        | (go_at_call 29; (with_reducible refine (cF.out _ hX.out).mono ?_); rintro e9 w9 ⟨rfl, q9⟩; replace hX := Lib.hid (hX.out.trans (Below.mono q9 hX.out.size)); (try replace w8 := Lib.hid (rowK w8.out q9)); (try replace v1 := Lib.hid (v1.out.mono q9)); (try replace vt := Lib.hid (vt.out.mono q9)); (try replace vu := Lib.hid (vu.out.mono q9)); (try replace vd := Lib.hid (vd.out.mono q9)); have c0 : w9.cell? ⟨w.heap.size, 0, none⟩ = some (.slice la n lc) := (by rw [cell_of_row _ _ _ _ _ _ (hrow.out _ hX.out)]; rfl); skip; clear q9)
        | (go_at_call 32; (with_reducible refine (cS.out _ hX.out).mono ?_); rintro e9 w9 ⟨rfl, q9⟩; replace hX := Lib.hid (hX.out.trans (Below.mono q9 hX.out.size)); (try replace w8 := Lib.hid (rowK w8.out q9)); (try replace v1 := Lib.hid (v1.out.mono q9)); (try replace vt := Lib.hid (vt.out.mono q9)); (try replace vu := Lib.hid (vu.out.mono q9)); (try replace vd := Lib.hid (vd.out.mono q9)); have c0 : w9.cell? ⟨w.heap.size, 0, none⟩ = some (.slice la n lc) := (by rw [cell_of_row _ _ _ _ _ _ (hrow.out _ hX.out)]; rfl); skip; clear q9))
    go_ret
    exact ⟨rfl, hS.out.trans (hX.out.mono hS.out.size)⟩
  have a1d : decide ((300 : Int) < (Z0 : Int)) = false := decide_eq_false a1
  by_cases a2 : x < 0
  · skip
    go_enter Try.func7, Try.ntmps7
    go_upto_region 1 with fail
    rw [← hW]
    clear hW
    go_wp2_with (first
        | (refine wpList_load_row_g rfl 24 _ rfl w.heap.size rfl 24 (tkC (.slice la n lc) av) (0, 0) _ (hrow.out _ hX.out) Try.underlying24 rfl info_tk ?_)
        | (go_at_call 28; (with_reducible refine (alive13_any _).mono ?_); rintro e9 w9 ⟨rfl, q9⟩; replace hX := Lib.hid (hX.out.trans (Below.mono q9 hX.out.size)); (try replace w8 := Lib.hid (rowK w8.out q9)); (try replace v1 := Lib.hid (v1.out.mono q9)); (try replace vt := Lib.hid (vt.out.mono q9)); (try replace vu := Lib.hid (vu.out.mono q9)); (try replace vd := Lib.hid (vd.out.mono q9)); have c0 : w9.cell? ⟨w.heap.size, 0, none⟩ = some (.slice la n lc) := (by rw [cell_of_row _ _ _ _ _ _ (hrow.out _ hX.out)]; rfl); skip; clear q9)
        | (go_at_call 29; (with_reducible refine (cF.out _ hX.out).mono ?_); rintro e9 w9 ⟨rfl, q9⟩; replace hX := Lib.hid (hX.out.trans (Below.mono q9 hX.out.size)); (try replace w8 := Lib.hid (rowK w8.out q9)); (try replace v1 := Lib.hid (v1.out.mono q9)); (try replace vt := Lib.hid (vt.out.mono q9)); (try replace vu := Lib.hid (vu.out.mono q9)); (try replace vd := Lib.hid (vd.out.mono q9)); have c0 : w9.cell? ⟨w.heap.size, 0, none⟩ = some (.slice la n lc) := (by rw [cell_of_row _ _ _ _ _ _ (hrow.out _ hX.out)]; rfl); skip; clear q9)
        | (go_at_call 32; (with_reducible refine (cS.out _ hX.out).mono ?_); rintro e9 w9 ⟨rfl, q9⟩; replace hX := Lib.hid (hX.out.trans (Below.mono q9 hX.out.size)); (try replace w8 := Lib.hid (rowK w8.out q9)); (try replace v1 := Lib.hid (v1.out.mono q9)); (try replace vt := Lib.hid (vt.out.mono q9)); (try replace vu := Lib.hid (vu.out.mono q9)); (try replace vd := Lib.hid (vd.out.mono q9)); have c0 : w9.cell? ⟨w.heap.size, 0, none⟩ = some (.slice la n lc) := (by rw [cell_of_row _ _ _ _ _ _ (hrow.out _ hX.out)]; rfl); skip; clear q9))
    go_ret
    exact ⟨rfl, hS.out.trans (hX.out.mono hS.out.size)⟩
  have a2d : decide (x < 0) = false := decide_eq_false a2
  by_cases a3 : 300 < x
  · skip
    go_enter Try.func7, Try.ntmps7
    go_upto_region 1 with fail
    rw [← hW]
    clear hW
    go_wp2_with (first
        | (refine wpList_load_row_g rfl 24 _ rfl w.heap.size rfl 24 (tkC (.slice la n lc) av) (0, 0) _ (hrow.out _ hX.out) Try.underlying24 rfl info_tk ?_)
        | (go_at_call 28; (with_reducible refine (alive13_any _).mono ?_); rintro e9 w9 ⟨rfl, q9⟩; replace hX := Lib.hid (hX.out.trans (Below.mono q9 hX.out.size)); (try replace w8 := Lib.hid (rowK w8.out q9)); (try replace v1 := Lib.hid (v1.out.mono q9)); (try replace vt := Lib.hid (vt.out.mono q9)); (try replace vu := Lib.hid (vu.out.mono q9)); (try replace vd := Lib.hid (vd.out.mono q9)); have c0 : w9.cell? ⟨w.heap.size, 0, none⟩ = some (.slice la n lc) := (by rw [cell_of_row _ _ _ _ _ _ (hrow.out _ hX.out)]; rfl); skip; clear q9)
        | (go_at_call 29; (with_reducible refine (cF.out _ hX.out).mono ?_); rintro e9 w9 ⟨rfl, q9⟩; replace hX := Lib.hid (hX.out.trans (Below.mono q9 hX.out.size)); (try replace w8 := Lib.hid (rowK w8.out q9)); (try replace v1 := Lib.hid (v1.out.mono q9)); (try replace vt := Lib.hid (vt.out.mono q9)); (try replace vu := Lib.hid (vu.out.mono q9)); (try replace vd := Lib.hid (vd.out.mono q9)); have c0 : w9.cell? ⟨w.heap.size, 0, none⟩ = some (.slice la n lc) := (by rw [cell_of_row _ _ _ _ _ _ (hrow.out _ hX.out)]; rfl); skip; clear q9)
        | (go_at_call 32; (with_reducible refine (cS.out _ hX.out).mono ?_); rintro e9 w9 ⟨rfl, q9⟩; replace hX := Lib.hid (hX.out.trans (Below.mono q9 hX.out.size)); (try replace w8 := Lib.hid (rowK w8.out q9)); (try replace v1 := Lib.hid (v1.out.mono q9)); (try replace vt := Lib.hid (vt.out.mono q9)); (try replace vu := Lib.hid (vu.out.mono q9)); (try replace vd := Lib.hid (vd.out.mono q9)); have c0 : w9.cell? ⟨w.heap.size, 0, none⟩ = some (.slice la n lc) := (by rw [cell_of_row _ _ _ _ _ _ (hrow.out _ hX.out)]; rfl); skip; clear q9))
    go_ret
    exact ⟨rfl, hS.out.trans (hX.out.mono hS.out.size)⟩
  have a3d : decide (300 < x) = false := decide_eq_false a3
  obtain ⟨N, rfl⟩ : ∃ N : Nat, x = (N : Int) := ⟨x.toNat, by omega⟩
  have hN3 : N ≤ 300 := by omega
  have hr := Lib.hid (round_runs hO'.out hN3)
  have hi := rndI_all hO'.out N
  have hfr := rnd_fair hO'.out N
  obtain ⟨hre, hrr⟩ := rnd_fine hO'.out hN3
  have hfv := fairV_nat2 (rnd_picks hO'.out hN3) (X := 2 * L.length) (by rw [hn'.out]; omega)
  have d1 := Lib.hid (c1.out (N : Int))
  rw [hre, hrr] at d1
  have d2 := Lib.hid (c2.out (rnd L A L.length N).out)
  rw [hr.out.1, hr.out.2.1, hr.out.2.2.1] at d2
  have d3 := Lib.hid (fun pv => c3.out (rnd L A L.length N).out pv ((2 * L.length : Nat) : Int))
  rw [hfv.1, hfv.2, hfr] at d3
  have hlo := Lib.hid hi.len; have hsu := Lib.hid hi.sum; have hsl := Lib.hid hr.out.2.2.2
  have hokU := Lib.hid (rnd_ok hO'.out L.length N)
  have hlU := Lib.hid (show (rnd L A L.length N).L.length = n by rw [rnd_length, hn'.out])
  rw [hn'.out] at hlo hsu hsl d1 d2 d3 hokU hlU
  rw [hZ'.out] at hlo hsu
  rw [show ((2 * n : Nat) : Int) = 2 * (n : Int) by omega] at d3
  have cU := Lib.hid (fun v wz (h : RdN wz v (rnd L A n N).L) => sum_any (rnd L A n N).L v wz h (by rw [hlU.out]; omega) (fun i hi => (hokU.out.el i hi).1))
  rw [hlU.out] at cU
  clear hi hfr hre hrr hfv hr c1 c2 c3
  rw [hsu.out] at cU
  generalize hD : runS L A (rnd L A n N).out = D at *
  clear hD
  generalize (rnd L A n N).out = R at *
  generalize (rnd L A n N).L = U at *
  obtain ⟨r, hr⟩ : ∃ r, R.length = r := ⟨_, rfl⟩
  have hr' := Lib.hid hr
  rw [hr] at hlo hsu hsl cU
  have hlo2 := Lib.hid (show r = min N Z0 by have := hlo.out; rwa [Int.toNat_natCast] at this)
  clear hr hlo hsu
  go_enter Try.func7, Try.ntmps7
  go_upto_region 1 with fail
  rw [← hW]
  clear hW
  go_upto_region 4 with (first
      | (refine wpList_load_row_g rfl 24 _ rfl w.heap.size rfl 24 (tkC (.slice la n lc) av) (0, 0) _ (hrow.out _ hX.out) Try.underlying24 rfl info_tk ?_)
      | (go_at_call 28; (with_reducible refine (alive13_any _).mono ?_); rintro e9 w9 ⟨rfl, q9⟩; replace hX := Lib.hid (hX.out.trans (Below.mono q9 hX.out.size)); (try replace w8 := Lib.hid (rowK w8.out q9)); (try replace v1 := Lib.hid (v1.out.mono q9)); (try replace vt := Lib.hid (vt.out.mono q9)); (try replace vu := Lib.hid (vu.out.mono q9)); (try replace vd := Lib.hid (vd.out.mono q9)); have c0 : w9.cell? ⟨w.heap.size, 0, none⟩ = some (.slice la n lc) := (by rw [cell_of_row _ _ _ _ _ _ (hrow.out _ hX.out)]; rfl); skip; clear q9)
      | (go_at_call 29; (with_reducible refine (cF.out _ hX.out).mono ?_); rintro e9 w9 ⟨rfl, q9⟩; replace hX := Lib.hid (hX.out.trans (Below.mono q9 hX.out.size)); (try replace w8 := Lib.hid (rowK w8.out q9)); (try replace v1 := Lib.hid (v1.out.mono q9)); (try replace vt := Lib.hid (vt.out.mono q9)); (try replace vu := Lib.hid (vu.out.mono q9)); (try replace vd := Lib.hid (vd.out.mono q9)); have c0 : w9.cell? ⟨w.heap.size, 0, none⟩ = some (.slice la n lc) := (by rw [cell_of_row _ _ _ _ _ _ (hrow.out _ hX.out)]; rfl); skip; clear q9)
      | (go_at_call 32; (with_reducible refine (cS.out _ hX.out).mono ?_); rintro e9 w9 ⟨rfl, q9⟩; replace hX := Lib.hid (hX.out.trans (Below.mono q9 hX.out.size)); (try replace w8 := Lib.hid (rowK w8.out q9)); (try replace v1 := Lib.hid (v1.out.mono q9)); (try replace vt := Lib.hid (vt.out.mono q9)); (try replace vu := Lib.hid (vu.out.mono q9)); (try replace vd := Lib.hid (vd.out.mono q9)); have c0 : w9.cell? ⟨w.heap.size, 0, none⟩ = some (.slice la n lc) := (by rw [cell_of_row _ _ _ _ _ _ (hrow.out _ hX.out)]; rfl); skip; clear q9))
  clear a1 a2 a3 a1d a2d a3d c0 cF
  go_upto_region 5 with (first
      | (refine wpList_load_row_g rfl 24 _ rfl w.heap.size rfl 24 (tkC (.slice la n lc) av) (0, 0) _ (hrow.out _ hX.out) Try.underlying24 rfl info_tk ?_)
      | (go_at_call 23; (with_reducible refine (d1.out _ hX.out).mono ?_); rintro e9 w9 ⟨v, rfl, q8, q9⟩; replace hX := Lib.hid (hX.out.trans (Below.mono q9 hX.out.size)); (try replace w8 := Lib.hid (rowK w8.out q9)); (try replace v1 := Lib.hid (v1.out.mono q9)); (try replace vt := Lib.hid (vt.out.mono q9)); (try replace vu := Lib.hid (vu.out.mono q9)); (try replace vd := Lib.hid (vd.out.mono q9)); have c0 : w9.cell? ⟨w.heap.size, 0, none⟩ = some (.slice la n lc) := (by rw [cell_of_row _ _ _ _ _ _ (hrow.out _ hX.out)]; rfl); have v1 := Lib.hid q8.rd; obtain ⟨va, vc, rfl⟩ := q8.slice; clear q8; clear q9))
  rw [hr'.out] at v1 ⊢
  go_upto_region 6 with (first
      | (refine wpList_load_row_g rfl 24 _ rfl w.heap.size rfl 24 (tkC (.slice la n lc) av) (0, 0) _ (hrow.out _ hX.out) Try.underlying24 rfl info_tk ?_)
      | (go_at_call 19; (with_reducible refine (d2.out _ _ hX.out v1.out).mono ?_); rintro e9 w9 ⟨xv, yv, dv, rfl, q1, q2, q3, q9⟩; replace hX := Lib.hid (hX.out.trans (Below.mono q9 hX.out.size)); (try replace w8 := Lib.hid (rowK w8.out q9)); (try replace v1 := Lib.hid (v1.out.mono q9)); (try replace vt := Lib.hid (vt.out.mono q9)); (try replace vu := Lib.hid (vu.out.mono q9)); (try replace vd := Lib.hid (vd.out.mono q9)); have c0 : w9.cell? ⟨w.heap.size, 0, none⟩ = some (.slice la n lc) := (by rw [cell_of_row _ _ _ _ _ _ (hrow.out _ hX.out)]; rfl); have vt := Lib.hid q1.rd; have vu := Lib.hid q2.rd; have vd := Lib.hid q3.rd; obtain ⟨xa, xc, rfl⟩ := q1.slice; obtain ⟨ya, yc, rfl⟩ := q2.slice; obtain ⟨da, dc, rfl⟩ := q3.slice; clear q1 q2 q3; clear q9)
      | (refine storeNew _ rfl 24 _ _ rfl (tkC (.slice xa _ xc) (.slice ya _ yc)) 24 rfl rfl info_tk rfl (tk_one _ _ rfl rfl) ?_; intro w5 hrx hbx; replace hX := Lib.hid (hX.out.trans (Below.mono hbx hX.out.size)); (try replace w8 := Lib.hid (rowK w8.out hbx)); (try replace v1 := Lib.hid (v1.out.mono hbx)); (try replace vt := Lib.hid (vt.out.mono hbx)); (try replace vu := Lib.hid (vu.out.mono hbx)); (try replace vd := Lib.hid (vd.out.mono hbx)); have w8 := Lib.hid hrx; have c0 : w5.cell? ⟨w.heap.size, 0, none⟩ = some (.slice la n lc) := (by rw [cell_of_row _ _ _ _ _ _ (hrow.out _ hX.out)]; rfl); clear hrx hbx))
  obtain ⟨g8, hg8⟩ : ∃ g, g = w9.heap.size := ⟨_, rfl⟩
  rw [← hg8] at w8 ⊢
  clear hg8
  have h2n : IntKind.i64.wrap (2 * (n : Int)) = 2 * (n : Int) := IntWalk.i64_in _ (by omega)
  go_upto_region 7 with (first
      | (refine wpList_load_row_g rfl 24 _ rfl w.heap.size rfl 24 (tkC (.slice la n lc) av) (0, 0) _ (hrow.out _ hX.out) Try.underlying24 rfl info_tk ?_)
      | (go_at_call 25; (with_reducible refine (d3.out _ _ hX.out v1.out).mono ?_); rintro e9 w9 ⟨rfl, q9⟩; replace hX := Lib.hid (hX.out.trans (Below.mono q9 hX.out.size)); (try replace w8 := Lib.hid (rowK w8.out q9)); (try replace v1 := Lib.hid (v1.out.mono q9)); (try replace vt := Lib.hid (vt.out.mono q9)); (try replace vu := Lib.hid (vu.out.mono q9)); (try replace vd := Lib.hid (vd.out.mono q9)); have c0 : w9.cell? ⟨w.heap.size, 0, none⟩ = some (.slice la n lc) := (by rw [cell_of_row _ _ _ _ _ _ (hrow.out _ hX.out)]; rfl); skip; clear q9))
  rw [hlU.out] at w8 vt
  have hds := Lib.hid hsl.out
  rw [hds.out]
  clear d1 d2
  by_cases hZN : Z0 < N
  · obtain ⟨hrZ⟩ : Nonempty (r = Z0) := ⟨by have := hlo2.out; omega⟩
    subst hrZ
    skip
    go_upto_region 9 with (first
        | (refine wpList_load_row_g rfl 24 _ rfl w.heap.size rfl 24 (tkC (.slice la n lc) av) (0, 0) _ (hrow.out _ hX.out) Try.underlying24 rfl info_tk ?_)
        | (go_at_call 32; (with_reducible refine (cS.out _ hX.out).mono ?_); rintro e9 w9 ⟨rfl, q9⟩; replace hX := Lib.hid (hX.out.trans (Below.mono q9 hX.out.size)); (try replace w8 := Lib.hid (rowK w8.out q9)); (try replace v1 := Lib.hid (v1.out.mono q9)); (try replace vt := Lib.hid (vt.out.mono q9)); (try replace vu := Lib.hid (vu.out.mono q9)); (try replace vd := Lib.hid (vd.out.mono q9)); have c0 : w9.cell? ⟨w.heap.size, 0, none⟩ = some (.slice la n lc) := (by rw [cell_of_row _ _ _ _ _ _ (hrow.out _ hX.out)]; rfl); skip; clear q9))
    have hE := Lib.hid (hS.out.trans (hX.out.mono hS.out.size))
    have w9c := Lib.hid (Lib.hid (Below.refl w9.heap.size w9))
    obtain ⟨wz0, hwz⟩ : ∃ wz0, wz0 = w9 := ⟨_, rfl⟩
    have k8 := Lib.hid (fun wz (h : Below w9.heap.size w9 wz) => rowK w8.out h)
    have kt := Lib.hid (fun wz (h : Below w9.heap.size w9 wz) => cU.out _ wz (vt.out.mono h))
    have kb := Lib.hid (fun wz (h : Below w9.heap.size w9 wz) => hrow.out wz (hX.out.trans (h.mono hX.out.size)))
    have ks := Lib.hid (fun wz (h : Below w9.heap.size w9 wz) => cS.out wz (hX.out.trans (h.mono hX.out.size)))
    refine wp_region_quiet (C := fun w' => Below w9.heap.size w9 w') (by kernel_rfl) (by kernel_rfl) ((Below.refl _ _).drew) ?_
    simp only []
    (first | (go_big_quiet_want; go_big_quiet_op; first | go_big_quiet_on | (refine ⟨_, fun _ _ => rfl, ?_⟩; go_big_quiet_on)) | go_big_quiet_skip)
    (first | (go_big_quiet_want; go_big_quiet_op; first | go_big_quiet_on | (refine ⟨_, fun _ _ => rfl, ?_⟩; go_big_quiet_on)) | go_big_quiet_skip)
    (first | (go_big_quiet_want; go_big_quiet_op; first | go_big_quiet_on | (refine ⟨_, fun _ _ => rfl, ?_⟩; go_big_quiet_on)) | go_big_quiet_skip)
    refine wpq (.slice xa n xc) rfl (quiet_cell 22 _ rfl g8 0 rfl (.slice xa n xc) (fun wz h => by rw [cell_of_row _ _ _ _ _ _ (k8.out wz h)]; rfl) Try.isAgg22) rfl (fun K hK => ?_); go_simp; refine hK _ ?_; clear hK K
    refine wpq (.int .i64 ((r : Int) - (r : Int))) rfl (qa_call1 (.slice xa n xc) rfl Try.func32 (by kernel_rfl) rfl rfl rfl (fun w9 h => (kt.out w9 h).mono fun e w' ⟨he, hd⟩ => ⟨he, h.trans (hd.mono h.size)⟩)) rfl (fun K hK => ?_); go_simp; refine hK _ ?_; clear hK K
    (first | (go_big_quiet_want; go_big_quiet_op; first | go_big_quiet_on | (refine ⟨_, fun _ _ => rfl, ?_⟩; go_big_quiet_on)) | go_big_quiet_skip)
    refine wpq (.slice la n lc) rfl (quiet_cell 22 _ rfl w.heap.size 0 rfl (.slice la n lc) (fun wz h => by rw [cell_of_row _ _ _ _ _ _ (kb.out wz h)]; rfl) Try.isAgg22) rfl (fun K hK => ?_); go_simp; refine hK _ ?_; clear hK K
    refine wpq (.int .i64 (r : Int)) rfl (qa_call1 (.slice la n lc) rfl Try.func32 (by kernel_rfl) rfl rfl rfl (fun w9 h => (ks.out w9 h).mono fun e w' ⟨he, hd⟩ => ⟨he, h.trans (hd.mono h.size)⟩)) rfl (fun K hK => ?_); go_simp; refine hK _ ?_; clear hK K
    (first | (go_big_quiet_want; go_big_quiet_op; first | go_big_quiet_on | (refine ⟨_, fun _ _ => rfl, ?_⟩; go_big_quiet_on)) | go_big_quiet_skip)
    (first | (go_big_quiet_want; go_big_quiet_op; first | go_big_quiet_on | (refine ⟨_, fun _ _ => rfl, ?_⟩; go_big_quiet_on)) | go_big_quiet_skip)
    (first | (go_big_quiet_want; go_big_quiet_op; first | go_big_quiet_on | (refine ⟨_, fun _ _ => rfl, ?_⟩; go_big_quiet_on)) | go_big_quiet_skip)
    (first | (go_big_quiet_want; go_big_quiet_op; first | go_big_quiet_on | (refine ⟨_, fun _ _ => rfl, ?_⟩; go_big_quiet_on)) | go_big_quiet_skip)
    (first | (go_big_quiet_want; go_big_quiet_op; first | go_big_quiet_on | (refine ⟨_, fun _ _ => rfl, ?_⟩; go_big_quiet_on)) | go_big_quiet_skip)
    (first | (go_big_quiet_want; go_big_quiet_op; first | go_big_quiet_on | (refine ⟨_, fun _ _ => rfl, ?_⟩; go_big_quiet_on)) | go_big_quiet_skip)
    refine wpQuiet_nil ?_
    intro w' h'
    have hF := Lib.hid (hE.out.trans (h'.mono hE.out.size))
    clear h'
    go_wp2
    go_ret
    exact ⟨ret_bool (by simp), hF.out⟩
  · obtain ⟨hrN⟩ : Nonempty (r = N) := ⟨by have := hlo2.out; omega⟩
    subst hrN
    skip
    go_upto_region 9 with (first
        | (refine wpList_load_row_g rfl 24 _ rfl w.heap.size rfl 24 (tkC (.slice la n lc) av) (0, 0) _ (hrow.out _ hX.out) Try.underlying24 rfl info_tk ?_)
        | (go_at_call 32; (with_reducible refine (cS.out _ hX.out).mono ?_); rintro e9 w9 ⟨rfl, q9⟩; replace hX := Lib.hid (hX.out.trans (Below.mono q9 hX.out.size)); (try replace w8 := Lib.hid (rowK w8.out q9)); (try replace v1 := Lib.hid (v1.out.mono q9)); (try replace vt := Lib.hid (vt.out.mono q9)); (try replace vu := Lib.hid (vu.out.mono q9)); (try replace vd := Lib.hid (vd.out.mono q9)); have c0 : w9.cell? ⟨w.heap.size, 0, none⟩ = some (.slice la n lc) := (by rw [cell_of_row _ _ _ _ _ _ (hrow.out _ hX.out)]; rfl); skip; clear q9))
    have hE := Lib.hid (hS.out.trans (hX.out.mono hS.out.size))
    have w9c := Lib.hid (Lib.hid (Below.refl w9.heap.size w9))
    obtain ⟨wz0, hwz⟩ : ∃ wz0, wz0 = w9 := ⟨_, rfl⟩
    have k8 := Lib.hid (fun wz (h : Below w9.heap.size w9 wz) => rowK w8.out h)
    have kt := Lib.hid (fun wz (h : Below w9.heap.size w9 wz) => cU.out _ wz (vt.out.mono h))
    have kb := Lib.hid (fun wz (h : Below w9.heap.size w9 wz) => hrow.out wz (hX.out.trans (h.mono hX.out.size)))
    have ks := Lib.hid (fun wz (h : Below w9.heap.size w9 wz) => cS.out wz (hX.out.trans (h.mono hX.out.size)))
    refine wp_region_quiet (C := fun w' => Below w9.heap.size w9 w') (by kernel_rfl) (by kernel_rfl) ((Below.refl _ _).drew) ?_
    simp only []
    (first | (go_big_quiet_want; go_big_quiet_op; first | go_big_quiet_on | (refine ⟨_, fun _ _ => rfl, ?_⟩; go_big_quiet_on)) | go_big_quiet_skip)
    (first | (go_big_quiet_want; go_big_quiet_op; first | go_big_quiet_on | (refine ⟨_, fun _ _ => rfl, ?_⟩; go_big_quiet_on)) | go_big_quiet_skip)
    (first | (go_big_quiet_want; go_big_quiet_op; first | go_big_quiet_on | (refine ⟨_, fun _ _ => rfl, ?_⟩; go_big_quiet_on)) | go_big_quiet_skip)
    refine wpq (.slice xa n xc) rfl (quiet_cell 22 _ rfl g8 0 rfl (.slice xa n xc) (fun wz h => by rw [cell_of_row _ _ _ _ _ _ (k8.out wz h)]; rfl) Try.isAgg22) rfl (fun K hK => ?_); go_simp; refine hK _ ?_; clear hK K
    refine wpq (.int .i64 ((Z0 : Int) - (r : Int))) rfl (qa_call1 (.slice xa n xc) rfl Try.func32 (by kernel_rfl) rfl rfl rfl (fun w9 h => (kt.out w9 h).mono fun e w' ⟨he, hd⟩ => ⟨he, h.trans (hd.mono h.size)⟩)) rfl (fun K hK => ?_); go_simp; refine hK _ ?_; clear hK K
    (first | (go_big_quiet_want; go_big_quiet_op; first | go_big_quiet_on | (refine ⟨_, fun _ _ => rfl, ?_⟩; go_big_quiet_on)) | go_big_quiet_skip)
    refine wpq (.slice la n lc) rfl (quiet_cell 22 _ rfl w.heap.size 0 rfl (.slice la n lc) (fun wz h => by rw [cell_of_row _ _ _ _ _ _ (kb.out wz h)]; rfl) Try.isAgg22) rfl (fun K hK => ?_); go_simp; refine hK _ ?_; clear hK K
    refine wpq (.int .i64 (Z0 : Int)) rfl (qa_call1 (.slice la n lc) rfl Try.func32 (by kernel_rfl) rfl rfl rfl (fun w9 h => (ks.out w9 h).mono fun e w' ⟨he, hd⟩ => ⟨he, h.trans (hd.mono h.size)⟩)) rfl (fun K hK => ?_); go_simp; refine hK _ ?_; clear hK K
    (first | (go_big_quiet_want; go_big_quiet_op; first | go_big_quiet_on | (refine ⟨_, fun _ _ => rfl, ?_⟩; go_big_quiet_on)) | go_big_quiet_skip)
    (first | (go_big_quiet_want; go_big_quiet_op; first | go_big_quiet_on | (refine ⟨_, fun _ _ => rfl, ?_⟩; go_big_quiet_on)) | go_big_quiet_skip)
    (first | (go_big_quiet_want; go_big_quiet_op; first | go_big_quiet_on | (refine ⟨_, fun _ _ => rfl, ?_⟩; go_big_quiet_on)) | go_big_quiet_skip)
    (first | (go_big_quiet_want; go_big_quiet_op; first | go_big_quiet_on | (refine ⟨_, fun _ _ => rfl, ?_⟩; go_big_quiet_on)) | go_big_quiet_skip)
    (first | (go_big_quiet_want; go_big_quiet_op; first | go_big_quiet_on | (refine ⟨_, fun _ _ => rfl, ?_⟩; go_big_quiet_on)) | go_big_quiet_skip)
    (first | (go_big_quiet_want; go_big_quiet_op; first | go_big_quiet_on | (refine ⟨_, fun _ _ => rfl, ?_⟩; go_big_quiet_on)) | go_big_quiet_skip)
    refine wpQuiet_nil ?_
    intro w' h'
    have hF := Lib.hid (hE.out.trans (h'.mono hE.out.size))
    clear h'
    go_wp2
    go_ret
    exact ⟨ret_bool (by simp), hF.out⟩
end Go.Proofs.Ytdebeimognikiaa.con
namespace Go.Proofs.Ytdebeimognikiaa
open Go.ChangeShapes Go.WideShapes Go.ChangeAt Go.WideMaps Go.WideElems Go.RowKit Go.Ytdebeimognikiaa
set_option linter.unusedVariables false
theorem own : ownKnob Try.prog.godebug = none := by kernel_rfl
theorem laidOut : laidOutB Try.prog = true := by kernel_rfl
section
variable {H : Type} {enc : TypeId × Value → H} {P : Program} {w : World} {base : Nat} {sp : Nat → Bool} {held : Bool}
theorem trodAll_stays (hl : laidOutB P = true) {W W' : World} {sp' : Nat → Bool} : ∀ {ts : List TypeId} {vs : List Value} {ds : List (DataW H)} {ps : List MemPlace}, (∀ t ∈ ts, P.readableRec t = true ∧ t < P.types.size) →
    DataW.TrodAll enc P W base (fun _ => true) true ts vs ds ps → (∀ p ∈ ps, W.sameAt W' p) → (∀ p ∈ ps, sp' p.block = true) → DataW.TrodAll enc P W' base sp' true ts vs ds ps
  | [], [], [], _, _, h, _, _ => h
  | [], [], _ :: _, _, _, h, _, _ => h.elim
  | [], _ :: _, _, _, _, h, _, _ => by cases ‹List (DataW H)› <;> exact h.elim
  | _ :: _, [], _, _, _, h, _, _ => by cases ‹List (DataW H)› <;> exact h.elim
  | _ :: _, _ :: _, [], _, _, h, _, _ => h.elim
  | t :: ts, v :: vs, d :: ds, ps, ht, h, hs, hp => by
    obtain ⟨p, q, h1, h2, rfl⟩ := h
    obtain ⟨r1, r2⟩ := ht t List.mem_cons_self
    exact ⟨p, q, Trod_stays hl r1 r2 h1 (fun x hx => hs x (List.mem_append_left _ hx)) (fun x hx => hp x (List.mem_append_left _ hx)),
      trodAll_stays hl (fun u hu => ht u (List.mem_cons_of_mem _ hu)) h2 (fun x hx => hs x (List.mem_append_right _ hx)) (fun x hx => hp x (List.mem_append_right _ hx)), rfl⟩
/-- A law's end: true, in a world whose old memory is as' it was. -/
theorem law_post {f : Func} {s : ChangeSpec} {apart fresh handsOn : Bool} {W W' : World} {args : Array Value} {v : Value} {ds gs : List (DataW H)} {before : List MemPlace} (hl : laidOutB P = true)
    (hts : ∀ t ∈ f.params.toList, P.readableRec t = true ∧ t < P.types.size) (hvs : varsRowed P s.vars = true)
    (hW : DataW.Whole enc P f.params.toList s.vars apart W args.toList ds gs before) (hb : Below W.heap.size W W')
    (hres : ∀ (b : Nat) (sp : Nat → Bool) (hd : Bool), DataW.TrodAll enc P W' b sp hd f.resultTypes.toList (v.resultList f.resultTypes.size) (s.fn H (ds ++ gs)).results [])
    (hargs : (s.fn H (ds ++ gs)).args = ds) (hvars : (s.fn H (ds ++ gs)).vars = gs) :
    s.post enc P f apart fresh handsOn false W args v W' := by
  have hW2 := hW
  have hlt : ∀ p ∈ before, p.block < W.heap.size := fun p hp => hW.lt p hp
  obtain ⟨p, q, hA, hV, rfl, hfz, hnd⟩ := hW
  refine ⟨ds, gs, p ++ q, [], p, q, hW2, hres _ _ _, ?_, ?_, hb.frame _, fun h => by cases h⟩
  · rw [hargs]
    exact trodAll_stays hl hts hA (fun x hx => hb.same (hlt x (List.mem_append_left _ hx))) (fun x hx => by simpa using hlt x (List.mem_append_left _ hx))
  · rw [hvars]
    exact Below.trodVars hl hb hvs hV
end
section
variable {H : Type} {enc : TypeId × Value → H} {P : Program} {W : World}
end
theorem boundsOf64 (x : Int) (h : (Lit.int .i64 x).wf = true) : -9223372036854775808 ≤ x ∧ x ≤ 9223372036854775807 := by
  simpa [Lit.wf, IntKind.min, IntKind.max, IntKind.signed, IntKind.bits] using h
end Go.Proofs.Ytdebeimognikiaa
namespace Go.Proofs.Ytdebeimognikiaa.con
open Go.ChangeShapes Go.WideShapes Go.ChangeAt Go.WideMaps Go.WideElems Go.RowKit Go.Joins Go.Ytdebeimognikiaa
set_option linter.unusedVariables false
section
variable {H : Type} {enc : TypeId × Value → H} {P : Program} {W : World}
theorem trod_intsN {t e : TypeId} (ht : P.underlying t = some (.slice e)) (he : P.underlying e = some (.int .i64)) (hc : P.cellsOf e = 1) {fuel : Nat} {cs : List Value} {x : DataW H × List MemPlace}
    (h : DataW.trod enc P W 0 (fun _ => true) true fuel t cs = some x) : ∃ v l, cs = [v] ∧ RdN W v l ∧ ∀ k ∈ l, -9223372036854775808 ≤ k ∧ k ≤ 9223372036854775807 := by
  rcases open_ints ht he hc h with ⟨rfl, _⟩ | ⟨a, len, cap, zs, rfl, hb, hl, hm, hz, _, hcell, hwf⟩
  · exact ⟨_, [], rfl, .inl ⟨none, 0, rfl, fun _ => rfl, rfl⟩, fun k hk => by cases hk⟩
  · simp only [if_true] at hz
    refine ⟨_, zs.take len, rfl, ?_, fun k hk => boundsOf64 k (hwf k (List.mem_of_mem_take hk))⟩
    have hln : (zs.take len).length = len := by rw [List.length_take]; omega
    by_cases h0 : len = 0
    · subst h0
      exact .inl ⟨some a, cap, rfl, (fun h => by cases h), rfl⟩
    · obtain ⟨b, o, spot⟩ := a
      have hspot : spot = none := by simpa [Addr.add] using World.cell?_spot (hcell 0 (by omega))
      subst hspot
      refine .inr ⟨b, o, cap, by rw [hln], by rw [hln]; exact hl, hm, World.block_lt_of_cell? _ _ (hcell 0 (by omega)), fun i hi => ?_⟩
      rw [hln] at hi
      have := hcell i (by omega)
      rw [addr_add] at this
      rw [this]
      simp [ith, List.getD, hi]
end
theorem array2 {α : Type} {cs : Array α} (h : cs.size = 2) : ∃ c0 c1, cs = #[c0, c1] := by
  obtain ⟨l⟩ := cs
  match l, h with
  | [c0, c1], _ => exact ⟨c0, c1, rfl⟩
section
variable {H : Type} {enc : TypeId × Value → H} {W : World}
set_option maxRecDepth 10000 in
theorem open_tasks {v : Value} {d : DataW H} {p : List MemPlace} {r : Reach} {b0 : Nat} (hv : Value.okWide Try.prog W r b0 24 v) (h : DataW.Trod enc Try.prog W 0 (fun _ => true) true 24 v d p) :
    ∃ (lv av : Value) (L A : List Int), v = .agg (tkC lv av) ∧ RdN W lv L ∧ RdN W av A := by
  obtain ⟨cs, rfl, hsz⟩ := okWide_struct Try.underlying24 hv
  obtain ⟨c0, c1, rfl⟩ := array2 (hsz.trans (by kernel_rfl))
  obtain ⟨fuel, hf⟩ := h
  obtain ⟨y0, y1, n, _, _, e0, e1⟩ := trod_struct2 Try.underlying24 hf
  have kI : Try.prog.cellsOf 22 = 1 := by kernel_rfl
  dsimp only at e0 e1
  rw [kI] at e0 e1
  simp only [Value.cells, List.drop_zero, List.take_succ_cons, List.take_zero, List.drop_succ_cons] at e0 e1
  obtain ⟨lv, L, a0, hL, _⟩ := trod_intsN Try.underlying22 Try.underlying3 (by kernel_rfl) e0
  obtain ⟨av, A, a1, hA, _⟩ := trod_intsN Try.underlying22 Try.underlying3 (by kernel_rfl) e1
  refine ⟨lv, av, L, A, ?_, hL, hA⟩
  rw [(List.cons.inj a0).1, (List.cons.inj a1).1]
end
end Go.Proofs.Ytdebeimognikiaa.con

/- Texts that the row stands on, part 3. -/
import Derived.Test.YtdebeimognikiaaRWindowsCq02
import Derived.OpenShut
import Derived.OpenVars
import Derived.ChangeSlices
import Derived.Lib.SmallJoins
import Derived.ChangeMaps5
namespace Go.Proofs.Ytdebeimognikiaa.con
open Go.RowKit Go.Ytdebeimognikiaa
set_option linter.unusedVariables false
def wn6A : List (List Nat) := [[], [], [], [1, 2], [0, 1, 2, 3], [0, 1, 2, 3, 4], [0, 1, 2, 3, 4, 5], [0, 1, 2, 3, 4, 5], [0, 1, 2, 3, 4, 5], [], [0, 1, 2, 3, 4, 5, 6, 9], [0, 1, 2, 3, 4, 5, 6, 7, 9, 10], [0, 1, 2, 3, 4, 5, 6, 7, 8, 9, 10, 11]]
def wn6U : List (List Nat) := [[], [], [], [1, 2], [0, 3], [4], [5], [5], [5], [], [6, 9], [7]]
def wn6S : Nat → Option Nat
  | 10 => some 9
  | _ => none
def wn6K (B n : Nat) (N A D : List Int) (e0 e1 e2 e3 : Value) : Nat → FQ
  | 0 => .eq e0
  | 1 => .eq e1
  | 2 => .eq e2
  | 3 => .eq e3
  | 4 => .fast 4 (R4 n N A D)
  | 5 => .fast 4 (R4 n N A D)
  | 6 => .fast 4 (RT n N A)
  | 7 => .fast 4 (RD D)
  | 8 => .eq (.int .i64 0)
  | 9 => .blk B (tkC nilN nilN) 24
  | 10 => .put 9 4 24 (fun cs => RT n N A (.agg cs))
  | _ => .fast 4 (RD D)
def wn11A : List (List Nat) := [[], [], [], [], [], [3, 4], [1, 2, 3, 4, 5], [0, 1, 2, 3, 4, 5, 6], [0, 1, 2, 3, 4, 5, 6, 7], [0, 1, 2, 3, 4, 5, 6, 7, 8], [0, 1, 2, 3, 4, 5, 6, 7, 8], [0, 1, 2, 3, 4, 5, 6, 7, 8], [], [0, 1, 2, 3, 4, 5, 6, 7, 8, 9, 12], [0, 1, 2, 3, 4, 5, 6, 7, 8, 9, 10, 12, 13], [0, 1, 2, 3, 4, 5, 6, 7, 8, 9, 10, 11, 12, 13, 14]]
def wn11U : List (List Nat) := [[], [], [], [], [], [3, 4], [1, 2, 5], [0, 6], [7], [8], [8], [8], [], [9, 12], [10]]
def wn11S : Nat → Option Nat
  | 13 => some 12
  | _ => none
def wn11K (B n : Nat) (N A D : List Int) (e0 e1 e2 e3 e4 e5 e6 : Value) : Nat → FQ
  | 0 => .eq e0
  | 1 => .eq e1
  | 2 => .eq e2
  | 3 => .eq e3
  | 4 => .eq e4
  | 5 => .eq e5
  | 6 => .eq e6
  | 7 => .fast 7 (R4 n N A D)
  | 8 => .fast 7 (R4 n N A D)
  | 9 => .fast 7 (RT n N A)
  | 10 => .fast 7 (RD D)
  | 11 => .eq (.int .i64 0)
  | 12 => .blk B (tkC nilN nilN) 24
  | 13 => .put 12 7 24 (fun cs => RT n N A (.agg cs))
  | _ => .fast 7 (RD D)
theorem fairV_nat {L A Q : List Int} (h : OkP L A Q) {X : Nat} (hX : 1 ≤ X) : fairV L A Q (X : Int) = fairB L A Q X ∧ fairE L A Q (X : Int) = 0 := by
  obtain ⟨a, b⟩ := fair_fine (pckE_of h) (x := (X : Int)) (by omega)
  rw [Int.toNat_natCast] at b
  exact ⟨b, a⟩
set_option maxHeartbeats 4000000 in
set_option maxRecDepth 100000 in
theorem schedWindows_law (L A Q : List Int) (lv av pv : Value) (x t s : Int) (w : World) (hL : RdN w lv L) (hA : RdN w av A) (hQ : RdN w pv Q) :
    Calls Try.prog 6 #[.agg (tkC lv av), pv, .int .i64 x, .int .i64 t, .int .i64 s] w fun e w' => e = .returned (.bool true) ∧ Below w.heap.size w w' := by
  have f1 := hQ.fit
  obtain ⟨pa, pc, rfl⟩ := hQ.slice
  obtain ⟨la, lc, rfl⟩ := hL.slice
  obtain ⟨m, hm⟩ : ∃ m, Q.length = m := ⟨_, rfl⟩
  obtain ⟨n, hn⟩ : ∃ n, L.length = n := ⟨_, rfl⟩
  have hm' := Lib.hid hm; have hn' := Lib.hid hn
  rw [hm] at hQ f1 ⊢
  rw [hn] at hL ⊢
  obtain ⟨W, hW⟩ : ∃ W, W = w.alloc (.cells (tkC (.slice la n lc) av) 24) := ⟨_, rfl⟩
  have hS := Lib.hid (show Below w.heap.size w W by rw [hW]; exact below_a _ _)
  have r0 := Lib.hid (show W.heap[w.heap.size]? = some (.cells (tkC (.slice la n lc) av) 24 (0, 0)) by rw [hW]; exact heap_alloc_new w _)
  have hsz := Lib.hid (show W.heap.size = w.heap.size + 1 by rw [hW]; simp)
  have hX := Lib.hid (Below.refl W.heap.size W)
  have hrow := Lib.hid (fun (wz : World) (h : Below W.heap.size W wz) => rowB r0.out h (Array.getElem?_eq_some_iff.1 r0.out).1)
  have kL := Lib.hid (fun (wz : World) (h : Below W.heap.size W wz) => hL.mono (hS.out.trans (h.mono hS.out.size)))
  have kA := Lib.hid (fun (wz : World) (h : Below W.heap.size W wz) => hA.mono (hS.out.trans (h.mono hS.out.size)))
  have kQ := Lib.hid (fun (wz : World) (h : Below W.heap.size W wz) => hQ.mono (hS.out.trans (h.mono hS.out.size)))
  have cF := Lib.hid (fun wz h => fit_any L A (.slice la n lc) av wz (kL.out wz h) (kA.out wz h))
  have cP := Lib.hid (fun wz h => rPicks_any L A Q (.slice la n lc) av (.slice pa m pc) wz (kL.out wz h) (kA.out wz h) (kQ.out wz h))
  have c1 := Lib.hid (fun y wz h => sFair_any L A Q (.slice la n lc) av (.slice pa m pc) y wz (kL.out wz h) (kA.out wz h) (kQ.out wz h))
  have hcap := Lib.hid (rdN_cap hQ)
  clear hL hA hQ hm hn
  cases hB : okT L A with
  | false =>
    rw [hB] at cF
    go_enter Try.func6, Try.ntmps6
    go_upto_region 1 with fail
    rw [← hW]
    clear hW
    go_wp2_with (first
        | (refine wpList_load_row_g rfl 24 _ rfl w.heap.size rfl 24 (tkC (.slice la n lc) av) (0, 0) _ (hrow.out _ hX.out) Try.underlying24 rfl info_tk ?_)
        | (go_at_call 28; (with_reducible refine (alive13_any _).mono ?_); rintro e9 w9 ⟨rfl, q9⟩; replace hX := Lib.hid (hX.out.trans (Below.mono q9 hX.out.size)); clear q9)
        | (go_at_call 29; (with_reducible refine (cF.out _ hX.out).mono ?_); rintro e9 w9 ⟨rfl, q9⟩; replace hX := Lib.hid (hX.out.trans (Below.mono q9 hX.out.size)); have c0 : w9.cell? ⟨w.heap.size, 0, none⟩ = some (.slice la n lc) := (by rw [cell_of_row _ _ _ _ _ _ (hrow.out _ hX.out)]; rfl); clear q9)
        | (go_at_call 30; (with_reducible refine (cP.out _ hX.out).mono ?_); rintro e9 w9 ⟨rfl, q9⟩; replace hX := Lib.hid (hX.out.trans (Below.mono q9 hX.out.size)); have c0 : w9.cell? ⟨w.heap.size, 0, none⟩ = some (.slice la n lc) := (by rw [cell_of_row _ _ _ _ _ _ (hrow.out _ hX.out)]; rfl); clear q9))
    go_ret
    exact ⟨rfl, hS.out.trans (hX.out.mono hS.out.size)⟩
  | true =>
  rw [hB] at cF
  by_cases h0 : pckE L A Q = 0
  case neg =>
    generalize pckE L A Q = E at *
    go_enter Try.func6, Try.ntmps6
    go_upto_region 1 with fail
    rw [← hW]
    clear hW
    go_wp2_with (first
        | (refine wpList_load_row_g rfl 24 _ rfl w.heap.size rfl 24 (tkC (.slice la n lc) av) (0, 0) _ (hrow.out _ hX.out) Try.underlying24 rfl info_tk ?_)
        | (go_at_call 28; (with_reducible refine (alive13_any _).mono ?_); rintro e9 w9 ⟨rfl, q9⟩; replace hX := Lib.hid (hX.out.trans (Below.mono q9 hX.out.size)); clear q9)
        | (go_at_call 29; (with_reducible refine (cF.out _ hX.out).mono ?_); rintro e9 w9 ⟨rfl, q9⟩; replace hX := Lib.hid (hX.out.trans (Below.mono q9 hX.out.size)); have c0 : w9.cell? ⟨w.heap.size, 0, none⟩ = some (.slice la n lc) := (by rw [cell_of_row _ _ _ _ _ _ (hrow.out _ hX.out)]; rfl); clear q9)
        | (go_at_call 30; (with_reducible refine (cP.out _ hX.out).mono ?_); rintro e9 w9 ⟨rfl, q9⟩; replace hX := Lib.hid (hX.out.trans (Below.mono q9 hX.out.size)); have c0 : w9.cell? ⟨w.heap.size, 0, none⟩ = some (.slice la n lc) := (by rw [cell_of_row _ _ _ _ _ _ (hrow.out _ hX.out)]; rfl); clear q9))
    go_ret
    exact ⟨rfl, hS.out.trans (hX.out.mono hS.out.size)⟩
  have hO := pckE_zero h0
  rw [h0] at cP
  have n12 := hO.t.hi
  have m300 := hO.many
  rw [hn'.out] at n12
  rw [hm'.out] at m300
  have hO' := Lib.hid hO
  clear h0 hB hO
  have hws : 1 ≤ x ∧ x ≤ 300 → IntKind.i64.wrap ((m : Int) - x) = (m : Int) - x := fun h => IntWalk.i64_in _ (by omega)
  by_cases a1 : x < 1
  · have a1' := Lib.hid a1
    clear hws
    go_enter Try.func6, Try.ntmps6
    go_upto_region 1 with fail
    rw [← hW]
    clear hW
    go_wp2_with (first
        | (refine wpList_load_row_g rfl 24 _ rfl w.heap.size rfl 24 (tkC (.slice la n lc) av) (0, 0) _ (hrow.out _ hX.out) Try.underlying24 rfl info_tk ?_)
        | (go_at_call 28; (with_reducible refine (alive13_any _).mono ?_); rintro e9 w9 ⟨rfl, q9⟩; replace hX := Lib.hid (hX.out.trans (Below.mono q9 hX.out.size)); clear q9)
        | (go_at_call 29; (with_reducible refine (cF.out _ hX.out).mono ?_); rintro e9 w9 ⟨rfl, q9⟩; replace hX := Lib.hid (hX.out.trans (Below.mono q9 hX.out.size)); have c0 : w9.cell? ⟨w.heap.size, 0, none⟩ = some (.slice la n lc) := (by rw [cell_of_row _ _ _ _ _ _ (hrow.out _ hX.out)]; rfl); clear q9)
        | (go_at_call 30; (with_reducible refine (cP.out _ hX.out).mono ?_); rintro e9 w9 ⟨rfl, q9⟩; replace hX := Lib.hid (hX.out.trans (Below.mono q9 hX.out.size)); have c0 : w9.cell? ⟨w.heap.size, 0, none⟩ = some (.slice la n lc) := (by rw [cell_of_row _ _ _ _ _ _ (hrow.out _ hX.out)]; rfl); clear q9))
    go_ret
    exact ⟨rfl, hS.out.trans (hX.out.mono hS.out.size)⟩
  have a1d : decide (x < 1) = false := decide_eq_false a1
  by_cases a2 : 300 < x
  · have a2' := Lib.hid a2
    clear hws
    go_enter Try.func6, Try.ntmps6
    go_upto_region 1 with fail
    rw [← hW]
    clear hW
    go_wp2_with (first
        | (refine wpList_load_row_g rfl 24 _ rfl w.heap.size rfl 24 (tkC (.slice la n lc) av) (0, 0) _ (hrow.out _ hX.out) Try.underlying24 rfl info_tk ?_)
        | (go_at_call 28; (with_reducible refine (alive13_any _).mono ?_); rintro e9 w9 ⟨rfl, q9⟩; replace hX := Lib.hid (hX.out.trans (Below.mono q9 hX.out.size)); clear q9)
        | (go_at_call 29; (with_reducible refine (cF.out _ hX.out).mono ?_); rintro e9 w9 ⟨rfl, q9⟩; replace hX := Lib.hid (hX.out.trans (Below.mono q9 hX.out.size)); have c0 : w9.cell? ⟨w.heap.size, 0, none⟩ = some (.slice la n lc) := (by rw [cell_of_row _ _ _ _ _ _ (hrow.out _ hX.out)]; rfl); clear q9)
        | (go_at_call 30; (with_reducible refine (cP.out _ hX.out).mono ?_); rintro e9 w9 ⟨rfl, q9⟩; replace hX := Lib.hid (hX.out.trans (Below.mono q9 hX.out.size)); have c0 : w9.cell? ⟨w.heap.size, 0, none⟩ = some (.slice la n lc) := (by rw [cell_of_row _ _ _ _ _ _ (hrow.out _ hX.out)]; rfl); clear q9))
    go_ret
    exact ⟨rfl, hS.out.trans (hX.out.mono hS.out.size)⟩
  have a2d : decide (300 < x) = false := decide_eq_false a2
  by_cases a3 : t < 0
  · have a3' := Lib.hid a3
    clear hws
    go_enter Try.func6, Try.ntmps6
    go_upto_region 1 with fail
    rw [← hW]
    clear hW
    go_wp2_with (first
        | (refine wpList_load_row_g rfl 24 _ rfl w.heap.size rfl 24 (tkC (.slice la n lc) av) (0, 0) _ (hrow.out _ hX.out) Try.underlying24 rfl info_tk ?_)
        | (go_at_call 28; (with_reducible refine (alive13_any _).mono ?_); rintro e9 w9 ⟨rfl, q9⟩; replace hX := Lib.hid (hX.out.trans (Below.mono q9 hX.out.size)); clear q9)
        | (go_at_call 29; (with_reducible refine (cF.out _ hX.out).mono ?_); rintro e9 w9 ⟨rfl, q9⟩; replace hX := Lib.hid (hX.out.trans (Below.mono q9 hX.out.size)); have c0 : w9.cell? ⟨w.heap.size, 0, none⟩ = some (.slice la n lc) := (by rw [cell_of_row _ _ _ _ _ _ (hrow.out _ hX.out)]; rfl); clear q9)
        | (go_at_call 30; (with_reducible refine (cP.out _ hX.out).mono ?_); rintro e9 w9 ⟨rfl, q9⟩; replace hX := Lib.hid (hX.out.trans (Below.mono q9 hX.out.size)); have c0 : w9.cell? ⟨w.heap.size, 0, none⟩ = some (.slice la n lc) := (by rw [cell_of_row _ _ _ _ _ _ (hrow.out _ hX.out)]; rfl); clear q9))
    go_ret
    exact ⟨rfl, hS.out.trans (hX.out.mono hS.out.size)⟩
  have a3d : decide (t < 0) = false := decide_eq_false a3
  by_cases a4 : (n : Int) ≤ t
  · have a4' := Lib.hid a4
    clear hws
    go_enter Try.func6, Try.ntmps6
    go_upto_region 1 with fail
    rw [← hW]
    clear hW
    go_wp2_with (first
        | (refine wpList_load_row_g rfl 24 _ rfl w.heap.size rfl 24 (tkC (.slice la n lc) av) (0, 0) _ (hrow.out _ hX.out) Try.underlying24 rfl info_tk ?_)
        | (go_at_call 28; (with_reducible refine (alive13_any _).mono ?_); rintro e9 w9 ⟨rfl, q9⟩; replace hX := Lib.hid (hX.out.trans (Below.mono q9 hX.out.size)); clear q9)
        | (go_at_call 29; (with_reducible refine (cF.out _ hX.out).mono ?_); rintro e9 w9 ⟨rfl, q9⟩; replace hX := Lib.hid (hX.out.trans (Below.mono q9 hX.out.size)); have c0 : w9.cell? ⟨w.heap.size, 0, none⟩ = some (.slice la n lc) := (by rw [cell_of_row _ _ _ _ _ _ (hrow.out _ hX.out)]; rfl); clear q9)
        | (go_at_call 30; (with_reducible refine (cP.out _ hX.out).mono ?_); rintro e9 w9 ⟨rfl, q9⟩; replace hX := Lib.hid (hX.out.trans (Below.mono q9 hX.out.size)); have c0 : w9.cell? ⟨w.heap.size, 0, none⟩ = some (.slice la n lc) := (by rw [cell_of_row _ _ _ _ _ _ (hrow.out _ hX.out)]; rfl); clear q9))
    go_ret
    exact ⟨rfl, hS.out.trans (hX.out.mono hS.out.size)⟩
  have a4d : decide ((n : Int) ≤ t) = false := decide_eq_false a4
  by_cases a5 : s < 0
  · have a5' := Lib.hid a5
    clear hws
    go_enter Try.func6, Try.ntmps6
    go_upto_region 1 with fail
    rw [← hW]
    clear hW
    go_wp2_with (first
        | (refine wpList_load_row_g rfl 24 _ rfl w.heap.size rfl 24 (tkC (.slice la n lc) av) (0, 0) _ (hrow.out _ hX.out) Try.underlying24 rfl info_tk ?_)
        | (go_at_call 28; (with_reducible refine (alive13_any _).mono ?_); rintro e9 w9 ⟨rfl, q9⟩; replace hX := Lib.hid (hX.out.trans (Below.mono q9 hX.out.size)); clear q9)
        | (go_at_call 29; (with_reducible refine (cF.out _ hX.out).mono ?_); rintro e9 w9 ⟨rfl, q9⟩; replace hX := Lib.hid (hX.out.trans (Below.mono q9 hX.out.size)); have c0 : w9.cell? ⟨w.heap.size, 0, none⟩ = some (.slice la n lc) := (by rw [cell_of_row _ _ _ _ _ _ (hrow.out _ hX.out)]; rfl); clear q9)
        | (go_at_call 30; (with_reducible refine (cP.out _ hX.out).mono ?_); rintro e9 w9 ⟨rfl, q9⟩; replace hX := Lib.hid (hX.out.trans (Below.mono q9 hX.out.size)); have c0 : w9.cell? ⟨w.heap.size, 0, none⟩ = some (.slice la n lc) := (by rw [cell_of_row _ _ _ _ _ _ (hrow.out _ hX.out)]; rfl); clear q9))
    go_ret
    exact ⟨rfl, hS.out.trans (hX.out.mono hS.out.size)⟩
  have a5d : decide (s < 0) = false := decide_eq_false a5
  by_cases a6 : (m : Int) - x < s
  · have a6' := Lib.hid a6
    have hwx := hws ⟨by omega, by omega⟩
    clear hws
    go_enter Try.func6, Try.ntmps6
    go_upto_region 1 with fail
    rw [← hW]
    clear hW
    go_wp2_with (first
        | (refine wpList_load_row_g rfl 24 _ rfl w.heap.size rfl 24 (tkC (.slice la n lc) av) (0, 0) _ (hrow.out _ hX.out) Try.underlying24 rfl info_tk ?_)
        | (go_at_call 28; (with_reducible refine (alive13_any _).mono ?_); rintro e9 w9 ⟨rfl, q9⟩; replace hX := Lib.hid (hX.out.trans (Below.mono q9 hX.out.size)); clear q9)
        | (go_at_call 29; (with_reducible refine (cF.out _ hX.out).mono ?_); rintro e9 w9 ⟨rfl, q9⟩; replace hX := Lib.hid (hX.out.trans (Below.mono q9 hX.out.size)); have c0 : w9.cell? ⟨w.heap.size, 0, none⟩ = some (.slice la n lc) := (by rw [cell_of_row _ _ _ _ _ _ (hrow.out _ hX.out)]; rfl); clear q9)
        | (go_at_call 30; (with_reducible refine (cP.out _ hX.out).mono ?_); rintro e9 w9 ⟨rfl, q9⟩; replace hX := Lib.hid (hX.out.trans (Below.mono q9 hX.out.size)); have c0 : w9.cell? ⟨w.heap.size, 0, none⟩ = some (.slice la n lc) := (by rw [cell_of_row _ _ _ _ _ _ (hrow.out _ hX.out)]; rfl); clear q9))
    go_ret
    exact ⟨rfl, hS.out.trans (hX.out.mono hS.out.size)⟩
  have a6d : decide ((m : Int) - x < s) = false := decide_eq_false a6
  have hwx := hws ⟨by omega, by omega⟩
  clear hws
  obtain ⟨X, rfl⟩ : ∃ X : Nat, x = (X : Int) := ⟨x.toNat, by omega⟩
  obtain ⟨T, rfl⟩ : ∃ T : Nat, t = (T : Int) := ⟨t.toNat, by omega⟩
  obtain ⟨S, rfl⟩ : ∃ S : Nat, s = (S : Int) := ⟨s.toNat, by omega⟩
  have hX1 : 1 ≤ X := by omega
  have hTn : T < n := by omega
  have hSX : S + X ≤ m := by omega
  have hnA := Lib.hid (show A.length = n by rw [hO'.out.t.na, hn'.out])
  have fv1 := Lib.hid (fairV_nat hO'.out hX1)
  have fv2 := Lib.hid (fairV_nat hO'.out (X := X + 1) (by omega))
  have hmore := Lib.hid (fun h => fair_more (L := L) (A := A) (P := Q) hX1 h)
  have hstep := Lib.hid (fun h hc => fair_step (s := S) hO'.out.t hX1 (by rw [hn'.out]; exact hTn) (by rw [hm'.out]; exact hSX) h hc)
  have d1 := Lib.hid (c1.out (X : Int)); have d2 := Lib.hid (c1.out ((X + 1 : Nat) : Int))
  rw [fv1.out.1, fv1.out.2] at d1
  rw [fv2.out.1, fv2.out.2] at d2
  have hX2 : ((X + 1 : Nat) : Int) = (X : Int) + 1 := by omega
  rw [hX2] at d2
  have hwX : IntKind.i64.wrap ((X : Int) + 1) = (X : Int) + 1 := IntWalk.i64_in _ (by omega)
  have hh := Lib.hid (run_head hO'.out (s := S) (by rw [hm'.out]; omega))
  have hw := Lib.hid (run_window hO'.out (s := S) (x := X) (by rw [hm'.out]; exact hSX))
  have hok1 := Lib.hid (runN_ok hO'.out.t S (P := Q))
  have hl1 := Lib.hid (show (runN L A Q S).length = n by rw [runN_length, hn'.out])
  have hl2 := Lib.hid (show (runN L A Q (S + X)).length = n by rw [runN_length, hn'.out])
  have hmS : S ≤ m := by omega
  clear c1 fv1 fv2 hX2
  generalize fairB L A Q X = V1 at *
  generalize fairB L A Q (X + 1) = V2 at *
  generalize runN L A Q S = N1 at *
  generalize runN L A Q (S + X) = N2 at *
  generalize didN L A Q S = D1 at *
  go_enter Try.func6, Try.ntmps6
  go_upto_region 1 with fail
  rw [← hW]
  clear hW
  go_upto_region 4 with (first
      | (refine wpList_load_row_g rfl 24 _ rfl w.heap.size rfl 24 (tkC (.slice la n lc) av) (0, 0) _ (hrow.out _ hX.out) Try.underlying24 rfl info_tk ?_)
      | (go_at_call 28; (with_reducible refine (alive13_any _).mono ?_); rintro e9 w9 ⟨rfl, q9⟩; replace hX := Lib.hid (hX.out.trans (Below.mono q9 hX.out.size)); clear q9)
      | (go_at_call 29; (with_reducible refine (cF.out _ hX.out).mono ?_); rintro e9 w9 ⟨rfl, q9⟩; replace hX := Lib.hid (hX.out.trans (Below.mono q9 hX.out.size)); have c0 : w9.cell? ⟨w.heap.size, 0, none⟩ = some (.slice la n lc) := (by rw [cell_of_row _ _ _ _ _ _ (hrow.out _ hX.out)]; rfl); clear q9)
      | (go_at_call 30; (with_reducible refine (cP.out _ hX.out).mono ?_); rintro e9 w9 ⟨rfl, q9⟩; replace hX := Lib.hid (hX.out.trans (Below.mono q9 hX.out.size)); have c0 : w9.cell? ⟨w.heap.size, 0, none⟩ = some (.slice la n lc) := (by rw [cell_of_row _ _ _ _ _ _ (hrow.out _ hX.out)]; rfl); clear q9))
  clear c0 cF cP a1d a2d a3d a4d a5d a6d a1 a2 a3 a4 a5 a6 hwx
  go_upto_region 6 with (first
      | (refine wpList_load_row_g rfl 24 _ rfl w.heap.size rfl 24 (tkC (.slice la n lc) av) (0, 0) _ (hrow.out _ hX.out) Try.underlying24 rfl info_tk ?_)
      | (go_at_call 25; (with_reducible refine (d1.out _ hX.out).mono ?_); rintro e9 w9 ⟨rfl, q9⟩; replace hX := Lib.hid (hX.out.trans (Below.mono q9 hX.out.size)); clear q9)
      | (go_at_call 25; (with_reducible refine (d2.out _ hX.out).mono ?_); rintro e9 w9 ⟨rfl, q9⟩; replace hX := Lib.hid (hX.out.trans (Below.mono q9 hX.out.size)); clear q9))
  clear d1 d2 hwX
  have hXS := Lib.hid (hS.out.trans (hX.out.mono hS.out.size))
  have rr := Lib.hid (hrow.out _ hX.out)
  obtain ⟨w6, hw6⟩ : ∃ w6, w6 = w9 := ⟨_, rfl⟩
  have rq := Lib.hid (kQ.out _ hX.out); have rL := Lib.hid (kL.out _ hX.out); have rA := Lib.hid (kA.out _ hX.out)
  have hX6 := Lib.hid hX.out
  rw [← hw6] at hXS rr rq rL rA hX6 ⊢
  clear hw6
  obtain ⟨b1, k1, hsl, hcut⟩ := slicedN rq.out hm'.out 0 S (Nat.zero_le _) hmS
  rw [Nat.sub_zero] at hsl hcut
  rw [List.drop_zero] at hcut
  have hcut' := Lib.hid hcut; have hsl' := Lib.hid hsl
  clear hcut hsl
  have hS6 : S ≤ pc := Nat.le_trans hmS hcap.out
  have hR6 := Lib.hid (fun wz (h : Below w6.heap.size w6 wz) => sRun_any L A (Q.take S) (.slice la n lc) av (.slice b1 S k1) wz (rL.out.mono h) (rA.out.mono h) (hcut'.out.mono h))
  rw [hh.out.1, hh.out.2.1, hh.out.2.2.1, hh.out.2.2.2] at hR6
  refine wp_region_fq 12 wn6A wn6U [8, 10, 11] wn6S (wn6K w6.heap.size n N1 A D1 (.agg (tkC (.slice la n lc) av)) (.slice pa m pc) (.int .i64 (S : Int)) (.slice b1 S k1)) (by kernel_rfl) (by kernel_rfl) (by kernel_rfl) (by kernel_rfl) ?hstep ?hdone
  case hstep =>
    intro i op vs iv wz hi hop hinv hsp hd
    match i, hi with
    | 0, _ =>
      simp only [List.getElem?_toArray, List.getElem?_cons_zero, List.getElem?_cons_succ, Option.some.injEq] at hop
      subst hop
      generalize hfr : fxF _ vs fxT _ 0 = fr
      have e1 : fr.eval (.tmp 5) = .pointer (some ⟨w.heap.size, 0, none⟩) := by rw [← hfr]; exact fx_old 0 (by kernel_rfl)
      clear hfr
      exact fx_rowK 24 (.tmp 5) rfl rfl w.heap.size e1 (tkC (.slice la n lc) av) (run_loadVar_row _ _ 24 24 (tkC (.slice la n lc) av) (0, 0) _ (rowK rr.out hinv) Try.underlying24 rfl info_tk) ⟨Nat.le_refl _, rfl, Below.refl _ _⟩
    | 1, _ =>
      simp only [List.getElem?_toArray, List.getElem?_cons_zero, List.getElem?_cons_succ, Option.some.injEq] at hop
      subst hop
      generalize hfr : fxF _ vs fxT _ 1 = fr
      have e0 : fr.eval (.tmp 1) = .slice pa m pc := by rw [← hfr]; exact fx_old 1 (by kernel_rfl)
      clear hfr
      have ec : ∀ v, fr.eval (.const v) = v := fun _ => rfl
      refine fx_val (v := .slice pa m pc) (w' := wz) rfl ?_ ⟨Nat.le_refl _, rfl, Below.refl _ _⟩
      skip
      unfold execOp
      generalize fr.eval = ev at ec e0 ⊢
      simp [go_sem, ec, e0]
    | 2, _ =>
      simp only [List.getElem?_toArray, List.getElem?_cons_zero, List.getElem?_cons_succ, Option.some.injEq] at hop
      subst hop
      generalize hfr : fxF _ vs fxT _ 2 = fr
      have e0 : fr.eval (.tmp 4) = .int .i64 (S : Int) := by rw [← hfr]; exact fx_old 2 (by kernel_rfl)
      clear hfr
      have ec : ∀ v, fr.eval (.const v) = v := fun _ => rfl
      refine fx_val (v := .int .i64 (S : Int)) (w' := wz) rfl ?_ ⟨Nat.le_refl _, rfl, Below.refl _ _⟩
      skip
      unfold execOp
      generalize fr.eval = ev at ec e0 ⊢
      simp [go_sem, ec, e0]
    | 3, _ =>
      simp only [List.getElem?_toArray, List.getElem?_cons_zero, List.getElem?_cons_succ, Option.some.injEq] at hop
      subst hop
      generalize hfr : fxF _ vs fxT _ 3 = fr
      have h0 : vs 1 = .slice pa m pc := hd 1 (by decide)
      have e0 : fr.eval (.tmp 85) = .slice pa m pc := by rw [← hfr]; exact (fx_new (by simp) 3 (by kernel_rfl)).trans h0
      have h1 : vs 2 = .int .i64 (S : Int) := hd 2 (by decide)
      have e1 : fr.eval (.tmp 86) = .int .i64 (S : Int) := by rw [← hfr]; exact (fx_new (by simp) 3 (by kernel_rfl)).trans h1
      clear hfr
      exact fx_headN rfl 22 _ _ rfl Try.underlying22 (by kernel_rfl) _ _ _ e0 S e1 (hS6) _ hsl'.out ⟨Nat.le_refl _, rfl, Below.refl _ _⟩
    | 4, _ =>
      simp only [List.getElem?_toArray, List.getElem?_cons_zero, List.getElem?_cons_succ, Option.some.injEq] at hop
      subst hop
      generalize hfr : fxF _ vs fxT _ 4 = fr
      have h0 : vs 0 = .agg (tkC (.slice la n lc) av) := hd 0 (by decide)
      have h1 : vs 3 = .slice b1 S k1 := hd 3 (by decide)
      have e0 : fr.eval (.tmp 84) = .agg (tkC (.slice la n lc) av) := by rw [← hfr]; exact (fx_new (by simp) 4 (by kernel_rfl)).trans h0
      have e1 : fr.eval (.tmp 87) = .slice b1 S k1 := by rw [← hfr]; exact (fx_new (by simp) 4 (by kernel_rfl)).trans h1
      clear hfr
      refine fx_call #[.agg (tkC (.slice la n lc) av), .slice b1 S k1] rfl rfl Try.func19 (by kernel_rfl) rfl (by simp [e0, e1]) rfl ((hR6.out wz hinv).mono ?_)
      rintro e9 w9 ⟨xv, yv, dv, rfl, q1, q2, q3, q9⟩
      exact ⟨_, rfl, q9.size, r4_of hl1.out hnA.out q1 q2 q3, q9⟩
    | 5, _ =>
      simp only [List.getElem?_toArray, List.getElem?_cons_zero, List.getElem?_cons_succ, Option.some.injEq] at hop
      subst hop
      generalize hfr : fxF _ vs fxT _ 5 = fr
      have h0 : Fast (iv 4).1 (iv 4).2 (R4 n N1 A D1 (vs 4)) wz := hd 4 (by decide)
      have e0 : fr.eval (.tmp 88) = vs 4 := by rw [← hfr]; exact fx_new (by simp) 5 (by kernel_rfl)
      clear hfr
      refine fx_move (.tmp 88) rfl rfl ⟨Nat.le_refl _, ?_, Below.refl _ _⟩
      show Fast (iv 4).1 (iv 4).2 (R4 n N1 A D1 (fr.eval (.tmp 88))) wz
      rw [e0]; exact h0
    | 6, _ =>
      simp only [List.getElem?_toArray, List.getElem?_cons_zero, List.getElem?_cons_succ, Option.some.injEq] at hop
      subst hop
      generalize hfr : fxF _ vs fxT _ 6 = fr
      have h0 : Fast (iv 4).1 (iv 4).2 (R4 n N1 A D1 (vs 5)) wz := hd 5 (by decide)
      obtain ⟨tv, dv, e, _, _⟩ := h0.now
      have e0 : fr.eval (.tmp 83) = .tuple #[tv, dv, .int .i64 0] := by rw [← hfr]; exact (fx_new (by simp) 6 (by kernel_rfl)).trans e
      clear hfr
      have hp := r4_parts h0 e
      refine fx_val (v := tv) (w' := wz) rfl ?_ ⟨Nat.le_refl _, hp.1, Below.refl _ _⟩
      unfold execOp
      generalize fr.eval = ev at e0 ⊢
      simp [go_sem, e0]
    | 7, _ =>
      simp only [List.getElem?_toArray, List.getElem?_cons_zero, List.getElem?_cons_succ, Option.some.injEq] at hop
      subst hop
      generalize hfr : fxF _ vs fxT _ 7 = fr
      have h0 : Fast (iv 4).1 (iv 4).2 (R4 n N1 A D1 (vs 5)) wz := hd 5 (by decide)
      obtain ⟨tv, dv, e, _, _⟩ := h0.now
      have e0 : fr.eval (.tmp 83) = .tuple #[tv, dv, .int .i64 0] := by rw [← hfr]; exact (fx_new (by simp) 7 (by kernel_rfl)).trans e
      clear hfr
      have hp := r4_parts h0 e
      refine fx_val (v := dv) (w' := wz) rfl ?_ ⟨Nat.le_refl _, hp.2, Below.refl _ _⟩
      unfold execOp
      generalize fr.eval = ev at e0 ⊢
      simp [go_sem, e0]
    | 8, _ =>
      simp only [List.getElem?_toArray, List.getElem?_cons_zero, List.getElem?_cons_succ, Option.some.injEq] at hop
      subst hop
      generalize hfr : fxF _ vs fxT _ 8 = fr
      have h0 : Fast (iv 4).1 (iv 4).2 (R4 n N1 A D1 (vs 5)) wz := hd 5 (by decide)
      obtain ⟨tv, dv, e, _, _⟩ := h0.now
      have e0 : fr.eval (.tmp 83) = .tuple #[tv, dv, .int .i64 0] := by rw [← hfr]; exact (fx_new (by simp) 8 (by kernel_rfl)).trans e
      clear hfr
      have hp := r4_parts h0 e
      refine fx_val (v := .int .i64 0) (w' := wz) rfl ?_ ⟨Nat.le_refl _, rfl, Below.refl _ _⟩
      unfold execOp
      generalize fr.eval = ev at e0 ⊢
      simp [go_sem, e0]
    | 9, _ =>
      simp only [List.getElem?_toArray, List.getElem?_cons_zero, List.getElem?_cons_succ, Option.some.injEq] at hop
      subst hop
      refine fx_val (v := .pointer (some ⟨wz.heap.size, 0, none⟩)) (w' := wz.alloc (.cells (tkC nilN nilN) 24)) rfl ?_ ⟨(below_a wz _).size, ⟨wz.heap.size, rfl, Nat.le_refl _, by simp, hinv.size, heap_alloc_new wz _⟩, below_a wz _⟩
      generalize fxF _ vs fxT _ 9 = fr
      unfold execOp
      generalize fr.eval = ev
      simp [go_sem]
      try rfl
    | 10, _ =>
      simp only [List.getElem?_toArray, List.getElem?_cons_zero, List.getElem?_cons_succ, Option.some.injEq] at hop
      subst hop
      generalize hfr : fxF _ vs fxT _ 10 = fr
      obtain ⟨g, hp, q1, q2, q3, q4⟩ := hd 9 (by decide)
      have hf : Fast (iv 4).1 (iv 4).2 (RT n N1 A (vs 6)) wz := hd 6 (by decide)
      obtain ⟨xa, xc, ya, yc, e, _, _⟩ := hf.now
      have e1 : fr.eval (.tmp 16) = .pointer (some ⟨g, 0, none⟩) := by rw [← hfr]; exact (fx_new (by simp) 10 (by kernel_rfl)).trans hp
      have e2 : fr.eval (.tmp 89) = .agg (tkC (.slice xa n xc) (.slice ya n yc)) := by rw [← hfr]; exact (fx_new (by simp) 10 (by kernel_rfl)).trans e
      clear hfr
      rw [e] at hf
      have hb := but_setRow wz g (tkC (.slice xa n xc) (.slice ya n yc))
      refine fxu_store 24 (.tmp 16) (.tmp 89) rfl rfl g (tkC (.slice xa n xc) (.slice ya n yc)) e1 e2 24 _ q4 info_tk rfl (tk_one _ _ rfl rfl) ⟨hb.size, ⟨g, _, hp, q1, q2, setRow_heap _ _ _ _ _ _ q4, ?_⟩, ⟨g, q3, q1, q2, hb⟩⟩
      exact hf.keep (like_grown hb (hsp.1 4 (show 4 ∈ wn6A.getD 10 [] by decide)).2 (by have := hsp.2 9 4 (show 9 ∈ wn6A.getD 10 [] by decide) (show 4 ∈ wn6A.getD 10 [] by decide) (by decide); omega))
    | 11, _ =>
      simp only [List.getElem?_toArray, List.getElem?_cons_zero, List.getElem?_cons_succ, Option.some.injEq] at hop
      subst hop
      generalize hfr : fxF _ vs fxT _ 11 = fr
      have h0 : Fast (iv 4).1 (iv 4).2 (RD D1 (vs 7)) wz := hd 7 (by decide)
      have e0 : fr.eval (.tmp 90) = vs 7 := by rw [← hfr]; exact fx_new (by simp) 11 (by kernel_rfl)
      clear hfr
      refine fxu_assign (.tmp 90) rfl rfl ⟨Nat.le_refl _, ?_, Below.refl _ _⟩
      show Fast (iv 4).1 (iv 4).2 (RD D1 (fr.eval (.tmp 90))) wz
      rw [e0]; exact h0
    | j + 12, hj => exact absurd hj (by omega)
  case hdone =>
    intro vs iv w7 hinv _ hf
    have hE : vs 8 = .int .i64 0 := hf 8 (by decide) (by decide)
    obtain ⟨g16, cs, hp, _, _, hr, hfr⟩ : ∃ g cs, vs 9 = .pointer (some ⟨g, 0, none⟩) ∧ (iv 9).1 ≤ g ∧ g < (iv 9).2 ∧ w7.heap[g]? = some (.cells cs 24 (0, 0)) ∧ Fast (iv 4).1 (iv 4).2 (RT n N1 A (.agg cs)) w7 := hf 10 (by decide) (by decide)
    have hfd : Fast (iv 4).1 (iv 4).2 (RD D1 (vs 11)) w7 := hf 11 (by decide) (by decide)
    obtain ⟨xa, xc, ya, yc, ecs, rx, ry⟩ := hfr.now
    obtain ⟨da, dc, ed, rd⟩ := hfd.now
    injection ecs with ecs
    subst ecs
    have row16 := Lib.hid hr; have rx6 := Lib.hid rx; have ry6 := Lib.hid ry; have rdd := Lib.hid rd; have hw7 := Lib.hid hinv
    simp only [fxF, fxT, if_true, List.drop_succ_cons, List.drop_zero, List.getElem?_toArray, List.getElem?_cons_zero, List.getElem?_cons_succ, Option.bind_some, Option.bind_none]
    rw [hE, hp, ed]
    clear hf hE hp hfr hfd ed hr rx ry rd hinv
    generalize vs 0 = z0 at *
    generalize vs 1 = z1 at *
    generalize vs 2 = z2 at *
    generalize vs 3 = z3 at *
    generalize vs 4 = z4 at *
    generalize vs 5 = z5 at *
    generalize vs 6 = z6 at *
    generalize vs 7 = z7 at *
    generalize vs 8 = z8 at *
    generalize vs 9 = z9 at *
    generalize vs 10 = z10 at *
    generalize vs 11 = z11 at *
    have hX7 := Lib.hid (hX6.out.trans (hw7.out.mono hX6.out.size))
    have hX := Lib.hid (Below.refl w7.heap.size w7)
    clear hR6 hsl' hcut' hS6
    have hcap7 := Lib.hid (Nat.le_trans (show S + X ≤ m from hSX) hcap.out)
    have rr7 := Lib.hid (fun wz (h : Below w7.heap.size w7 wz) => rowK (rowK rr.out hw7.out) h)
    have r16 := Lib.hid (fun wz (h : Below w7.heap.size w7 wz) => rowK row16.out h)
    have rx7 := Lib.hid (fun wz (h : Below w7.heap.size w7 wz) => rx6.out.mono h)
    have ry7 := Lib.hid (fun wz (h : Below w7.heap.size w7 wz) => ry6.out.mono h)
    have rq7 := Lib.hid (fun wz (h : Below w7.heap.size w7 wz) => (rq.out.mono hw7.out).mono h)
    have hfin := Lib.hid (fun wz (h : Below w7.heap.size w7 wz) => hS.out.trans ((hX7.out.trans (h.mono hX7.out.size)).mono hS.out.size))
    have cK := Lib.hid (fun wz h => rCheck_any N1 A (.slice xa n xc) (.slice ya n yc) wz (rx7.out wz h) (ry7.out wz h))
    rw [chkT_ok hok1.out] at cK
    have cN := Lib.hid (fun wz h => rCan_any N1 A (.slice xa n xc) (.slice ya n yc) T wz (rx7.out wz h) (ry7.out wz h) hok1.out (by rw [hl1.out]; exact hTn))
    have cR := Lib.hid (fun wz h pv hp => sRun_any N1 A ((Q.take (S + X)).drop S) (.slice xa n xc) (.slice ya n yc) pv wz (rx7.out wz h) (ry7.out wz h) hp)
    rw [hw.out.1, hw.out.2.1, hw.out.2.2] at cR
    clear rr row16 rx6 ry6 rq rL rA hX6 hX7 hS hrow kL kA kQ hh hw rdd hw7
    generalize can N1 A T = CB at *
    generalize runS N1 A ((Q.take (S + X)).drop S) = D2 at *
    cases V1 with
    | false =>
      clear hmore hstep cR
      go_wp2_with (first
          | (refine wpList_load_row_g rfl 24 _ rfl g16 rfl 24 (tkC (.slice xa n xc) (.slice ya n yc)) (0, 0) _ (r16.out _ hX.out) Try.underlying24 rfl info_tk ?_)
          | (refine wpList_load_row_g rfl 24 _ rfl w.heap.size rfl 24 (tkC (.slice la n lc) av) (0, 0) _ (rr7.out _ hX.out) Try.underlying24 rfl info_tk ?_)
          | (go_at_call 22; (with_reducible refine (cK.out _ hX.out).mono ?_); rintro e9 w9 ⟨rfl, q9⟩; replace hX := Lib.hid (hX.out.trans (Below.mono q9 hX.out.size)); have c0 : w9.cell? ⟨w.heap.size, 0, none⟩ = some (.slice la n lc) := (by rw [cell_of_row _ _ _ _ _ _ (rr7.out _ hX.out)]; rfl); have c6 : w9.cell? ⟨g16, 0, none⟩ = some (.slice xa n xc) := (by rw [cell_of_row _ _ _ _ _ _ (r16.out _ hX.out)]; rfl); clear q9)
          | (go_at_call 31; (with_reducible refine (cN.out _ hX.out).mono ?_); rintro e9 w9 ⟨rfl, q9⟩; replace hX := Lib.hid (hX.out.trans (Below.mono q9 hX.out.size)); have c0 : w9.cell? ⟨w.heap.size, 0, none⟩ = some (.slice la n lc) := (by rw [cell_of_row _ _ _ _ _ _ (rr7.out _ hX.out)]; rfl); have c6 : w9.cell? ⟨g16, 0, none⟩ = some (.slice xa n xc) := (by rw [cell_of_row _ _ _ _ _ _ (r16.out _ hX.out)]; rfl); clear q9))
      go_ret
      exact ⟨rfl, hfin.out _ hX.out⟩
    | true =>
      obtain rfl := hmore.out rfl
      cases CB with
      | false =>
        clear hstep cR
        go_wp2_with (first
            | (refine wpList_load_row_g rfl 24 _ rfl g16 rfl 24 (tkC (.slice xa n xc) (.slice ya n yc)) (0, 0) _ (r16.out _ hX.out) Try.underlying24 rfl info_tk ?_)
            | (refine wpList_load_row_g rfl 24 _ rfl w.heap.size rfl 24 (tkC (.slice la n lc) av) (0, 0) _ (rr7.out _ hX.out) Try.underlying24 rfl info_tk ?_)
            | (go_at_call 22; (with_reducible refine (cK.out _ hX.out).mono ?_); rintro e9 w9 ⟨rfl, q9⟩; replace hX := Lib.hid (hX.out.trans (Below.mono q9 hX.out.size)); have c0 : w9.cell? ⟨w.heap.size, 0, none⟩ = some (.slice la n lc) := (by rw [cell_of_row _ _ _ _ _ _ (rr7.out _ hX.out)]; rfl); have c6 : w9.cell? ⟨g16, 0, none⟩ = some (.slice xa n xc) := (by rw [cell_of_row _ _ _ _ _ _ (r16.out _ hX.out)]; rfl); clear q9)
            | (go_at_call 31; (with_reducible refine (cN.out _ hX.out).mono ?_); rintro e9 w9 ⟨rfl, q9⟩; replace hX := Lib.hid (hX.out.trans (Below.mono q9 hX.out.size)); have c0 : w9.cell? ⟨w.heap.size, 0, none⟩ = some (.slice la n lc) := (by rw [cell_of_row _ _ _ _ _ _ (rr7.out _ hX.out)]; rfl); have c6 : w9.cell? ⟨g16, 0, none⟩ = some (.slice xa n xc) := (by rw [cell_of_row _ _ _ _ _ _ (r16.out _ hX.out)]; rfl); clear q9))
        go_ret
        exact ⟨rfl, hfin.out _ hX.out⟩
      | true =>
        have hlt := Lib.hid (hstep.out rfl (by first | rfl | trivial))
        go_upto_region 11 with (first
            | (refine wpList_load_row_g rfl 24 _ rfl g16 rfl 24 (tkC (.slice xa n xc) (.slice ya n yc)) (0, 0) _ (r16.out _ hX.out) Try.underlying24 rfl info_tk ?_)
            | (refine wpList_load_row_g rfl 24 _ rfl w.heap.size rfl 24 (tkC (.slice la n lc) av) (0, 0) _ (rr7.out _ hX.out) Try.underlying24 rfl info_tk ?_)
            | (go_at_call 22; (with_reducible refine (cK.out _ hX.out).mono ?_); rintro e9 w9 ⟨rfl, q9⟩; replace hX := Lib.hid (hX.out.trans (Below.mono q9 hX.out.size)); have c0 : w9.cell? ⟨w.heap.size, 0, none⟩ = some (.slice la n lc) := (by rw [cell_of_row _ _ _ _ _ _ (rr7.out _ hX.out)]; rfl); have c6 : w9.cell? ⟨g16, 0, none⟩ = some (.slice xa n xc) := (by rw [cell_of_row _ _ _ _ _ _ (r16.out _ hX.out)]; rfl); clear q9)
            | (go_at_call 31; (with_reducible refine (cN.out _ hX.out).mono ?_); rintro e9 w9 ⟨rfl, q9⟩; replace hX := Lib.hid (hX.out.trans (Below.mono q9 hX.out.size)); have c0 : w9.cell? ⟨w.heap.size, 0, none⟩ = some (.slice la n lc) := (by rw [cell_of_row _ _ _ _ _ _ (rr7.out _ hX.out)]; rfl); have c6 : w9.cell? ⟨g16, 0, none⟩ = some (.slice xa n xc) := (by rw [cell_of_row _ _ _ _ _ _ (r16.out _ hX.out)]; rfl); clear q9))
        clear c0 c6 cK cN hstep hmore
        obtain ⟨w8, hw8⟩ : ∃ w8, w8 = w9 := ⟨_, rfl⟩
        have rq8 := Lib.hid (rq7.out _ hX.out); have r168 := Lib.hid (r16.out _ hX.out); have rx8 := Lib.hid (rx7.out _ hX.out); have ry8 := Lib.hid (ry7.out _ hX.out)
        have hf8 := Lib.hid (hfin.out _ hX.out)
        have cR8 := Lib.hid (fun wz (h : Below w9.heap.size w9 wz) => cR.out wz (hX.out.trans (h.mono hX.out.size)))
        rw [← hw8] at rq8 r168 rx8 ry8 hf8 cR8 ⊢
        clear hw8
        obtain ⟨b2, k2, hsl, hcut⟩ := slicedN rq8.out hm'.out S (S + X) (Nat.le_add_right _ _) hSX
        rw [Nat.add_sub_cancel_left] at hsl hcut
        have hcut' := Lib.hid hcut; have hsl' := Lib.hid hsl
        clear hcut hsl
        have hR8 := Lib.hid (fun wz (h : Below w8.heap.size w8 wz) => cR8.out wz h (.slice b2 X k2) (hcut'.out.mono h))
        have hwSX : IntKind.i64.wrap ((S : Int) + (X : Int)) = ((S + X : Nat) : Int) := by rw [IntWalk.i64_in _ (by omega)]; omega
        clear cR cR8
        refine wp_region_fq 15 wn11A wn11U [11, 13, 14] wn11S (wn11K w8.heap.size n N2 A D2 (.agg (tkC (.slice xa n xc) (.slice ya n yc))) (.slice pa m pc) (.int .i64 (S : Int)) (.int .i64 (S : Int)) (.int .i64 (X : Int)) (.int .i64 ((S + X : Nat) : Int)) (.slice b2 X k2)) (by kernel_rfl) (by kernel_rfl) (by kernel_rfl) (by kernel_rfl) ?hstep ?hdone
        case hstep =>
          intro i op vs iv wz hi hop hinv hsp hd
          match i, hi with
          | 0, _ =>
            simp only [List.getElem?_toArray, List.getElem?_cons_zero, List.getElem?_cons_succ, Option.some.injEq] at hop
            subst hop
            generalize hfr : fxF _ vs fxT _ 0 = fr
            have e1 : fr.eval (.tmp 16) = .pointer (some ⟨g16, 0, none⟩) := by rw [← hfr]; exact fx_old 0 (by kernel_rfl)
            clear hfr
            exact fx_rowK 24 (.tmp 16) rfl rfl g16 e1 (tkC (.slice xa n xc) (.slice ya n yc)) (run_loadVar_row _ _ 24 24 (tkC (.slice xa n xc) (.slice ya n yc)) (0, 0) _ (rowK r168.out hinv) Try.underlying24 rfl info_tk) ⟨Nat.le_refl _, rfl, Below.refl _ _⟩
          | 1, _ =>
            simp only [List.getElem?_toArray, List.getElem?_cons_zero, List.getElem?_cons_succ, Option.some.injEq] at hop
            subst hop
            generalize hfr : fxF _ vs fxT _ 1 = fr
            have e0 : fr.eval (.tmp 1) = .slice pa m pc := by rw [← hfr]; exact fx_old 1 (by kernel_rfl)
            clear hfr
            have ec : ∀ v, fr.eval (.const v) = v := fun _ => rfl
            refine fx_val (v := .slice pa m pc) (w' := wz) rfl ?_ ⟨Nat.le_refl _, rfl, Below.refl _ _⟩
            skip
            unfold execOp
            generalize fr.eval = ev at ec e0 ⊢
            simp [go_sem, ec, e0, hwSX]
          | 2, _ =>
            simp only [List.getElem?_toArray, List.getElem?_cons_zero, List.getElem?_cons_succ, Option.some.injEq] at hop
            subst hop
            generalize hfr : fxF _ vs fxT _ 2 = fr
            have e0 : fr.eval (.tmp 4) = .int .i64 (S : Int) := by rw [← hfr]; exact fx_old 2 (by kernel_rfl)
            clear hfr
            have ec : ∀ v, fr.eval (.const v) = v := fun _ => rfl
            refine fx_val (v := .int .i64 (S : Int)) (w' := wz) rfl ?_ ⟨Nat.le_refl _, rfl, Below.refl _ _⟩
            skip
            unfold execOp
            generalize fr.eval = ev at ec e0 ⊢
            simp [go_sem, ec, e0, hwSX]
          | 3, _ =>
            simp only [List.getElem?_toArray, List.getElem?_cons_zero, List.getElem?_cons_succ, Option.some.injEq] at hop
            subst hop
            generalize hfr : fxF _ vs fxT _ 3 = fr
            have e0 : fr.eval (.tmp 4) = .int .i64 (S : Int) := by rw [← hfr]; exact fx_old 3 (by kernel_rfl)
            clear hfr
            have ec : ∀ v, fr.eval (.const v) = v := fun _ => rfl
            refine fx_val (v := .int .i64 (S : Int)) (w' := wz) rfl ?_ ⟨Nat.le_refl _, rfl, Below.refl _ _⟩
            skip
            unfold execOp
            generalize fr.eval = ev at ec e0 ⊢
            simp [go_sem, ec, e0, hwSX]
          | 4, _ =>
            simp only [List.getElem?_toArray, List.getElem?_cons_zero, List.getElem?_cons_succ, Option.some.injEq] at hop
            subst hop
            generalize hfr : fxF _ vs fxT _ 4 = fr
            have e0 : fr.eval (.tmp 2) = .int .i64 (X : Int) := by rw [← hfr]; exact fx_old 4 (by kernel_rfl)
            clear hfr
            have ec : ∀ v, fr.eval (.const v) = v := fun _ => rfl
            refine fx_val (v := .int .i64 (X : Int)) (w' := wz) rfl ?_ ⟨Nat.le_refl _, rfl, Below.refl _ _⟩
            skip
            unfold execOp
            generalize fr.eval = ev at ec e0 ⊢
            simp [go_sem, ec, e0, hwSX]
          | 5, _ =>
            simp only [List.getElem?_toArray, List.getElem?_cons_zero, List.getElem?_cons_succ, Option.some.injEq] at hop
            subst hop
            generalize hfr : fxF _ vs fxT _ 5 = fr
            have h0 : vs 3 = .int .i64 (S : Int) := hd 3 (by decide)
            have e0 : fr.eval (.tmp 136) = .int .i64 (S : Int) := by rw [← hfr]; exact (fx_new (by simp) 5 (by kernel_rfl)).trans h0
            have h1 : vs 4 = .int .i64 (X : Int) := hd 4 (by decide)
            have e1 : fr.eval (.tmp 137) = .int .i64 (X : Int) := by rw [← hfr]; exact (fx_new (by simp) 5 (by kernel_rfl)).trans h1
            clear hfr
            have ec : ∀ v, fr.eval (.const v) = v := fun _ => rfl
            refine fx_val (v := .int .i64 ((S + X : Nat) : Int)) (w' := wz) rfl ?_ ⟨Nat.le_refl _, rfl, Below.refl _ _⟩
            skip
            unfold execOp
            generalize fr.eval = ev at ec e0 e1 ⊢
            simp [go_sem, ec, e0, e1, hwSX]
          | 6, _ =>
            simp only [List.getElem?_toArray, List.getElem?_cons_zero, List.getElem?_cons_succ, Option.some.injEq] at hop
            subst hop
            generalize hfr : fxF _ vs fxT _ 6 = fr
            have h0 : vs 1 = .slice pa m pc := hd 1 (by decide)
            have e0 : fr.eval (.tmp 134) = .slice pa m pc := by rw [← hfr]; exact (fx_new (by simp) 6 (by kernel_rfl)).trans h0
            have h1 : vs 2 = .int .i64 (S : Int) := hd 2 (by decide)
            have e1 : fr.eval (.tmp 135) = .int .i64 (S : Int) := by rw [← hfr]; exact (fx_new (by simp) 6 (by kernel_rfl)).trans h1
            have h2 : vs 5 = .int .i64 ((S + X : Nat) : Int) := hd 5 (by decide)
            have e2 : fr.eval (.tmp 138) = .int .i64 ((S + X : Nat) : Int) := by rw [← hfr]; exact (fx_new (by simp) 6 (by kernel_rfl)).trans h2
            clear hfr
            exact fx_sliceN rfl 22 _ _ _ rfl Try.underlying22 (by kernel_rfl) _ _ _ e0 S (S + X) e1 e2 (Nat.le_add_right _ _) (hcap7.out) _ hsl'.out ⟨Nat.le_refl _, rfl, Below.refl _ _⟩
          | 7, _ =>
            simp only [List.getElem?_toArray, List.getElem?_cons_zero, List.getElem?_cons_succ, Option.some.injEq] at hop
            subst hop
            generalize hfr : fxF _ vs fxT _ 7 = fr
            have h0 : vs 0 = .agg (tkC (.slice xa n xc) (.slice ya n yc)) := hd 0 (by decide)
            have h1 : vs 6 = .slice b2 X k2 := hd 6 (by decide)
            have e0 : fr.eval (.tmp 133) = .agg (tkC (.slice xa n xc) (.slice ya n yc)) := by rw [← hfr]; exact (fx_new (by simp) 7 (by kernel_rfl)).trans h0
            have e1 : fr.eval (.tmp 139) = .slice b2 X k2 := by rw [← hfr]; exact (fx_new (by simp) 7 (by kernel_rfl)).trans h1
            clear hfr
            refine fx_call #[.agg (tkC (.slice xa n xc) (.slice ya n yc)), .slice b2 X k2] rfl rfl Try.func19 (by kernel_rfl) rfl (by simp [e0, e1]) rfl ((hR8.out wz hinv).mono ?_)
            rintro e9 w9 ⟨xv, yv, dv, rfl, q1, q2, q3, q9⟩
            exact ⟨_, rfl, q9.size, r4_of hl2.out hnA.out q1 q2 q3, q9⟩
          | 8, _ =>
            simp only [List.getElem?_toArray, List.getElem?_cons_zero, List.getElem?_cons_succ, Option.some.injEq] at hop
            subst hop
            generalize hfr : fxF _ vs fxT _ 8 = fr
            have h0 : Fast (iv 7).1 (iv 7).2 (R4 n N2 A D2 (vs 7)) wz := hd 7 (by decide)
            have e0 : fr.eval (.tmp 140) = vs 7 := by rw [← hfr]; exact fx_new (by simp) 8 (by kernel_rfl)
            clear hfr
            refine fx_move (.tmp 140) rfl rfl ⟨Nat.le_refl _, ?_, Below.refl _ _⟩
            show Fast (iv 7).1 (iv 7).2 (R4 n N2 A D2 (fr.eval (.tmp 140))) wz
            rw [e0]; exact h0
          | 9, _ =>
            simp only [List.getElem?_toArray, List.getElem?_cons_zero, List.getElem?_cons_succ, Option.some.injEq] at hop
            subst hop
            generalize hfr : fxF _ vs fxT _ 9 = fr
            have h0 : Fast (iv 7).1 (iv 7).2 (R4 n N2 A D2 (vs 8)) wz := hd 8 (by decide)
            obtain ⟨tv, dv, e, _, _⟩ := h0.now
            have e0 : fr.eval (.tmp 132) = .tuple #[tv, dv, .int .i64 0] := by rw [← hfr]; exact (fx_new (by simp) 9 (by kernel_rfl)).trans e
            clear hfr
            have hp := r4_parts h0 e
            refine fx_val (v := tv) (w' := wz) rfl ?_ ⟨Nat.le_refl _, hp.1, Below.refl _ _⟩
            unfold execOp
            generalize fr.eval = ev at e0 ⊢
            simp [go_sem, e0]
          | 10, _ =>
            simp only [List.getElem?_toArray, List.getElem?_cons_zero, List.getElem?_cons_succ, Option.some.injEq] at hop
            subst hop
            generalize hfr : fxF _ vs fxT _ 10 = fr
            have h0 : Fast (iv 7).1 (iv 7).2 (R4 n N2 A D2 (vs 8)) wz := hd 8 (by decide)
            obtain ⟨tv, dv, e, _, _⟩ := h0.now
            have e0 : fr.eval (.tmp 132) = .tuple #[tv, dv, .int .i64 0] := by rw [← hfr]; exact (fx_new (by simp) 10 (by kernel_rfl)).trans e
            clear hfr
            have hp := r4_parts h0 e
            refine fx_val (v := dv) (w' := wz) rfl ?_ ⟨Nat.le_refl _, hp.2, Below.refl _ _⟩
            unfold execOp
            generalize fr.eval = ev at e0 ⊢
            simp [go_sem, e0]
          | 11, _ =>
            simp only [List.getElem?_toArray, List.getElem?_cons_zero, List.getElem?_cons_succ, Option.some.injEq] at hop
            subst hop
            generalize hfr : fxF _ vs fxT _ 11 = fr
            have h0 : Fast (iv 7).1 (iv 7).2 (R4 n N2 A D2 (vs 8)) wz := hd 8 (by decide)
            obtain ⟨tv, dv, e, _, _⟩ := h0.now
            have e0 : fr.eval (.tmp 132) = .tuple #[tv, dv, .int .i64 0] := by rw [← hfr]; exact (fx_new (by simp) 11 (by kernel_rfl)).trans e
            clear hfr
            have hp := r4_parts h0 e
            refine fx_val (v := .int .i64 0) (w' := wz) rfl ?_ ⟨Nat.le_refl _, rfl, Below.refl _ _⟩
            unfold execOp
            generalize fr.eval = ev at e0 ⊢
            simp [go_sem, e0]
          | 12, _ =>
            simp only [List.getElem?_toArray, List.getElem?_cons_zero, List.getElem?_cons_succ, Option.some.injEq] at hop
            subst hop
            refine fx_val (v := .pointer (some ⟨wz.heap.size, 0, none⟩)) (w' := wz.alloc (.cells (tkC nilN nilN) 24)) rfl ?_ ⟨(below_a wz _).size, ⟨wz.heap.size, rfl, Nat.le_refl _, by simp, hinv.size, heap_alloc_new wz _⟩, below_a wz _⟩
            generalize fxF _ vs fxT _ 12 = fr
            unfold execOp
            generalize fr.eval = ev
            simp [go_sem]
            try rfl
          | 13, _ =>
            simp only [List.getElem?_toArray, List.getElem?_cons_zero, List.getElem?_cons_succ, Option.some.injEq] at hop
            subst hop
            generalize hfr : fxF _ vs fxT _ 13 = fr
            obtain ⟨g, hp, q1, q2, q3, q4⟩ := hd 12 (by decide)
            have hf : Fast (iv 7).1 (iv 7).2 (RT n N2 A (vs 9)) wz := hd 9 (by decide)
            obtain ⟨xa, xc, ya, yc, e, _, _⟩ := hf.now
            have e1 : fr.eval (.tmp 19) = .pointer (some ⟨g, 0, none⟩) := by rw [← hfr]; exact (fx_new (by simp) 13 (by kernel_rfl)).trans hp
            have e2 : fr.eval (.tmp 141) = .agg (tkC (.slice xa n xc) (.slice ya n yc)) := by rw [← hfr]; exact (fx_new (by simp) 13 (by kernel_rfl)).trans e
            clear hfr
            rw [e] at hf
            have hb := but_setRow wz g (tkC (.slice xa n xc) (.slice ya n yc))
            refine fxu_store 24 (.tmp 19) (.tmp 141) rfl rfl g (tkC (.slice xa n xc) (.slice ya n yc)) e1 e2 24 _ q4 info_tk rfl (tk_one _ _ rfl rfl) ⟨hb.size, ⟨g, _, hp, q1, q2, setRow_heap _ _ _ _ _ _ q4, ?_⟩, ⟨g, q3, q1, q2, hb⟩⟩
            exact hf.keep (like_grown hb (hsp.1 7 (show 7 ∈ wn11A.getD 13 [] by decide)).2 (by have := hsp.2 12 7 (show 12 ∈ wn11A.getD 13 [] by decide) (show 7 ∈ wn11A.getD 13 [] by decide) (by decide); omega))
          | 14, _ =>
            simp only [List.getElem?_toArray, List.getElem?_cons_zero, List.getElem?_cons_succ, Option.some.injEq] at hop
            subst hop
            generalize hfr : fxF _ vs fxT _ 14 = fr
            have h0 : Fast (iv 7).1 (iv 7).2 (RD D2 (vs 10)) wz := hd 10 (by decide)
            have e0 : fr.eval (.tmp 142) = vs 10 := by rw [← hfr]; exact fx_new (by simp) 14 (by kernel_rfl)
            clear hfr
            refine fxu_assign (.tmp 142) rfl rfl ⟨Nat.le_refl _, ?_, Below.refl _ _⟩
            show Fast (iv 7).1 (iv 7).2 (RD D2 (fr.eval (.tmp 142))) wz
            rw [e0]; exact h0
          | j + 15, hj => exact absurd hj (by omega)
        case hdone =>
          intro vs iv w5 hinv _ hf
          have hE : vs 11 = .int .i64 0 := hf 11 (by decide) (by decide)
          obtain ⟨g19, cs, hp, _, _, hr, hfr⟩ : ∃ g cs, vs 12 = .pointer (some ⟨g, 0, none⟩) ∧ (iv 12).1 ≤ g ∧ g < (iv 12).2 ∧ w5.heap[g]? = some (.cells cs 24 (0, 0)) ∧ Fast (iv 7).1 (iv 7).2 (RT n N2 A (.agg cs)) w5 := hf 13 (by decide) (by decide)
          have hfd : Fast (iv 7).1 (iv 7).2 (RD D2 (vs 14)) w5 := hf 14 (by decide) (by decide)
          obtain ⟨xe, xf, ye, yf, ecs, rx, ry⟩ := hfr.now
          obtain ⟨de, df, ed, rd⟩ := hfd.now
          injection ecs with ecs
          subst ecs
          have row19 := Lib.hid hr; have sx := Lib.hid rx; have sy := Lib.hid ry; have sd := Lib.hid rd; have hw5 := Lib.hid hinv
          simp only [fxF, fxT, if_true, List.drop_succ_cons, List.drop_zero, List.getElem?_toArray, List.getElem?_cons_zero, List.getElem?_cons_succ, Option.bind_some, Option.bind_none]
          rw [hE, hp, ed]
          clear hf hE hp hfr hfd ed hr rx ry rd hinv
          generalize vs 0 = y0 at *
          generalize vs 1 = y1 at *
          generalize vs 2 = y2 at *
          generalize vs 3 = y3 at *
          generalize vs 4 = y4 at *
          generalize vs 5 = y5 at *
          generalize vs 6 = y6 at *
          generalize vs 7 = y7 at *
          generalize vs 8 = y8 at *
          generalize vs 9 = y9 at *
          generalize vs 10 = y10 at *
          generalize vs 11 = y11 at *
          generalize vs 12 = y12 at *
          generalize vs 13 = y13 at *
          generalize vs 14 = y14 at *
          have r165 := Lib.hid (rowK r168.out hw5.out)
          have rx5 := Lib.hid (rx8.out.mono hw5.out)
          have hTI : (T : Int) < (n : Int) := by omega
          obtain ⟨bx, ox, rfl, _, qx⟩ := rdN_at rx5.out T (by rw [hl1.out]; exact hTn)
          obtain ⟨bz, oz, rfl, _, qz⟩ := rdN_at sx.out T (by rw [hl2.out]; exact hTn)
          have dx := qx w5 (Below.refl _ _)
          have dz := qz w5 (Below.refl _ _)
          have c190 : w5.cell? ⟨g19, 0, none⟩ = some (.slice (some ⟨bz, oz, none⟩) n xf) := by rw [cell_of_row _ _ _ _ _ _ row19.out]; rfl
          have c160 : w5.cell? ⟨g16, 0, none⟩ = some (.slice (some ⟨bx, ox, none⟩) n xc) := by rw [cell_of_row _ _ _ _ _ _ r165.out]; rfl
          have hlt2 : ith N2 T < ith N1 T := hlt.out
          have hff := Lib.hid (hf8.out.trans (hw5.out.mono hf8.out.size))
          clear qx qz hlt r165 rx5 row19 sx sy sd hw5 r168 rx8 ry8 hf8 hR8 hsl' hcut' hwSX
          generalize ith N1 T = p1 at *
          generalize ith N2 T = p2 at *
          go_upto_region 12 with fail
          go_quiet (fail)
          go_wp2
          go_ret
          exact ⟨ret_bool (by simp [hlt2]), drewN_below hff.out _⟩
end Go.Proofs.Ytdebeimognikiaa.con
namespace Go.Proofs.Ytdebeimognikiaa
open Go.ChangeShapes Go.WideShapes Go.ChangeAt Go.WideMaps Go.WideElems Go.RowKit Go.Ytdebeimognikiaa
set_option linter.unusedVariables false
theorem own : ownKnob Try.prog.godebug = none := by kernel_rfl
theorem laidOut : laidOutB Try.prog = true := by kernel_rfl
section
variable {H : Type} {enc : TypeId × Value → H} {P : Program} {w : World} {base : Nat} {sp : Nat → Bool} {held : Bool}
theorem trodAll_stays (hl : laidOutB P = true) {W W' : World} {sp' : Nat → Bool} : ∀ {ts : List TypeId} {vs : List Value} {ds : List (DataW H)} {ps : List MemPlace}, (∀ t ∈ ts, P.readableRec t = true ∧ t < P.types.size) →
    DataW.TrodAll enc P W base (fun _ => true) true ts vs ds ps → (∀ p ∈ ps, W.sameAt W' p) → (∀ p ∈ ps, sp' p.block = true) → DataW.TrodAll enc P W' base sp' true ts vs ds ps
  | [], [], [], _, _, h, _, _ => h
  | [], [], _ :: _, _, _, h, _, _ => h.elim
  | [], _ :: _, _, _, _, h, _, _ => by cases ‹List (DataW H)› <;> exact h.elim
  | _ :: _, [], _, _, _, h, _, _ => by cases ‹List (DataW H)› <;> exact h.elim
  | _ :: _, _ :: _, [], _, _, h, _, _ => h.elim
  | t :: ts, v :: vs, d :: ds, ps, ht, h, hs, hp => by
    obtain ⟨p, q, h1, h2, rfl⟩ := h
    obtain ⟨r1, r2⟩ := ht t List.mem_cons_self
    exact ⟨p, q, Trod_stays hl r1 r2 h1 (fun x hx => hs x (List.mem_append_left _ hx)) (fun x hx => hp x (List.mem_append_left _ hx)),
      trodAll_stays hl (fun u hu => ht u (List.mem_cons_of_mem _ hu)) h2 (fun x hx => hs x (List.mem_append_right _ hx)) (fun x hx => hp x (List.mem_append_right _ hx)), rfl⟩
/-- A law's end: true, in a world whose old memory is as' it was. -/
theorem law_post {f : Func} {s : ChangeSpec} {apart fresh handsOn : Bool} {W W' : World} {args : Array Value} {v : Value} {ds gs : List (DataW H)} {before : List MemPlace} (hl : laidOutB P = true)
    (hts : ∀ t ∈ f.params.toList, P.readableRec t = true ∧ t < P.types.size) (hvs : varsRowed P s.vars = true)
    (hW : DataW.Whole enc P f.params.toList s.vars apart W args.toList ds gs before) (hb : Below W.heap.size W W')
    (hres : ∀ (b : Nat) (sp : Nat → Bool) (hd : Bool), DataW.TrodAll enc P W' b sp hd f.resultTypes.toList (v.resultList f.resultTypes.size) (s.fn H (ds ++ gs)).results [])
    (hargs : (s.fn H (ds ++ gs)).args = ds) (hvars : (s.fn H (ds ++ gs)).vars = gs) :
    s.post enc P f apart fresh handsOn false W args v W' := by
  have hW2 := hW
  have hlt : ∀ p ∈ before, p.block < W.heap.size := fun p hp => hW.lt p hp
  obtain ⟨p, q, hA, hV, rfl, hfz, hnd⟩ := hW
  refine ⟨ds, gs, p ++ q, [], p, q, hW2, hres _ _ _, ?_, ?_, hb.frame _, fun h => by cases h⟩
  · rw [hargs]
    exact trodAll_stays hl hts hA (fun x hx => hb.same (hlt x (List.mem_append_left _ hx))) (fun x hx => by simpa using hlt x (List.mem_append_left _ hx))
  · rw [hvars]
    exact Below.trodVars hl hb hvs hV
end
section
variable {H : Type} {enc : TypeId × Value → H} {P : Program} {W : World}
end
theorem boundsOf64 (x : Int) (h : (Lit.int .i64 x).wf = true) : -9223372036854775808 ≤ x ∧ x ≤ 9223372036854775807 := by
  simpa [Lit.wf, IntKind.min, IntKind.max, IntKind.signed, IntKind.bits] using h
end Go.Proofs.Ytdebeimognikiaa
namespace Go.Proofs.Ytdebeimognikiaa.con
open Go.ChangeShapes Go.WideShapes Go.ChangeAt Go.WideMaps Go.WideElems Go.RowKit Go.Joins Go.Ytdebeimognikiaa
set_option linter.unusedVariables false
section
variable {H : Type} {enc : TypeId × Value → H} {P : Program} {W : World}
theorem trod_intsN {t e : TypeId} (ht : P.underlying t = some (.slice e)) (he : P.underlying e = some (.int .i64)) (hc : P.cellsOf e = 1) {fuel : Nat} {cs : List Value} {x : DataW H × List MemPlace}
    (h : DataW.trod enc P W 0 (fun _ => true) true fuel t cs = some x) : ∃ v l, cs = [v] ∧ RdN W v l ∧ ∀ k ∈ l, -9223372036854775808 ≤ k ∧ k ≤ 9223372036854775807 := by
  rcases open_ints ht he hc h with ⟨rfl, _⟩ | ⟨a, len, cap, zs, rfl, hb, hl, hm, hz, _, hcell, hwf⟩
  · exact ⟨_, [], rfl, .inl ⟨none, 0, rfl, fun _ => rfl, rfl⟩, fun k hk => by cases hk⟩
  · simp only [if_true] at hz
    refine ⟨_, zs.take len, rfl, ?_, fun k hk => boundsOf64 k (hwf k (List.mem_of_mem_take hk))⟩
    have hln : (zs.take len).length = len := by rw [List.length_take]; omega
    by_cases h0 : len = 0
    · subst h0
      exact .inl ⟨some a, cap, rfl, (fun h => by cases h), rfl⟩
    · obtain ⟨b, o, spot⟩ := a
      have hspot : spot = none := by simpa [Addr.add] using World.cell?_spot (hcell 0 (by omega))
      subst hspot
      refine .inr ⟨b, o, cap, by rw [hln], by rw [hln]; exact hl, hm, World.block_lt_of_cell? _ _ (hcell 0 (by omega)), fun i hi => ?_⟩
      rw [hln] at hi
      have := hcell i (by omega)
      rw [addr_add] at this
      rw [this]
      simp [ith, List.getD, hi]
theorem open_intsN {t e : TypeId} {v : Value} {d : DataW H} {p : List MemPlace} (ht : P.underlying t = some (.slice e)) (he : P.underlying e = some (.int .i64)) (hc : P.cellsOf e = 1) (hct : P.cellsOf t = 1)
    {r : Reach} {b0 : Nat} (hv : Value.okWide P W r b0 t v) (h : DataW.Trod enc P W 0 (fun _ => true) true t v d p) : ∃ l, RdN W v l ∧ ∀ k ∈ l, -9223372036854775808 ≤ k ∧ k ≤ 9223372036854775807 := by
  obtain ⟨fuel, hf⟩ := h
  obtain ⟨v', l, h1, h2, h3⟩ := trod_intsN ht he hc hf
  refine ⟨l, ?_, h3⟩
  unfold Value.okWide at hv
  rw [ht] at hv
  simp only [Cell.okWide, ht] at hv
  cases v <;> simp [Cell.ok, ht] at hv
  simp [Value.cells] at h1
  rw [h1]; exact h2
end
theorem array2 {α : Type} {cs : Array α} (h : cs.size = 2) : ∃ c0 c1, cs = #[c0, c1] := by
  obtain ⟨l⟩ := cs
  match l, h with
  | [c0, c1], _ => exact ⟨c0, c1, rfl⟩
section
variable {H : Type} {enc : TypeId × Value → H} {W : World}
set_option maxRecDepth 10000 in
theorem open_tasks {v : Value} {d : DataW H} {p : List MemPlace} {r : Reach} {b0 : Nat} (hv : Value.okWide Try.prog W r b0 24 v) (h : DataW.Trod enc Try.prog W 0 (fun _ => true) true 24 v d p) :
    ∃ (lv av : Value) (L A : List Int), v = .agg (tkC lv av) ∧ RdN W lv L ∧ RdN W av A := by
  obtain ⟨cs, rfl, hsz⟩ := okWide_struct Try.underlying24 hv
  obtain ⟨c0, c1, rfl⟩ := array2 (hsz.trans (by kernel_rfl))
  obtain ⟨fuel, hf⟩ := h
  obtain ⟨y0, y1, n, _, _, e0, e1⟩ := trod_struct2 Try.underlying24 hf
  have kI : Try.prog.cellsOf 22 = 1 := by kernel_rfl
  dsimp only at e0 e1
  rw [kI] at e0 e1
  simp only [Value.cells, List.drop_zero, List.take_succ_cons, List.take_zero, List.drop_succ_cons] at e0 e1
  obtain ⟨lv, L, a0, hL, _⟩ := trod_intsN Try.underlying22 Try.underlying3 (by kernel_rfl) e0
  obtain ⟨av, A, a1, hA, _⟩ := trod_intsN Try.underlying22 Try.underlying3 (by kernel_rfl) e1
  refine ⟨lv, av, L, A, ?_, hL, hA⟩
  rw [(List.cons.inj a0).1, (List.cons.inj a1).1]
end
end Go.Proofs.Ytdebeimognikiaa.con

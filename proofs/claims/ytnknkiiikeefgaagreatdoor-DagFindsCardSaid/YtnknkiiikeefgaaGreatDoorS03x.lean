/- Contracts of the reference's four, number, challenge, nonce and Key (layer 3). Contracts of the reference's challenge, nonce and Key (layer 3). Contracts of the reference's Right and Verify; SignVerifies' walk. -/
import Derived.Test.YtnknkiiikeefgaaGreatDoorS03k
import Derived.Test.YtnknkiiikeefgaaGreatDoorD01x
import Derived.Deep.RegionHeld3
namespace Go.Proofs.YtnknkiiikeefgaaGreatDoor
open Go.RowKit Go.YtnknkiiikeefgaaGreatDoor
set_option linter.unusedVariables false
theorem rfour_any (a : Nat) (ha : a < 4294967296) (w : World) :
    Calls Tryz.prog 201 #[.int .u32 (a : Int)] w fun e w' => e = .returned (.slice (some ⟨w.heap.size, 0, none⟩) 4 4) ∧ w' = w.alloc (.cells (u8s (be4 (a : Int))) 5) := by
  go_enter Tryz.func201, Tryz.ntmps201
  go_wp2
  go_ret
  exact ⟨rfl, rfl⟩
theorem rd_rfour (w : World) (a : Nat) : RdB (w.alloc (.cells (u8s (be4 (a : Int))) 5)) (.slice (some ⟨w.heap.size, 0, none⟩) 4 4) (be4 (a : Int)) := rd_rowM (heap_alloc_new w _) 4 4 rfl (Nat.le_refl _) (by decide)
set_option maxRecDepth 100000 in
theorem rnumber_any (bv : Value) (l D : List Int) (w : World) (hr : RdB w bv l) (hl : Bytes l) (hlm : l.length ≤ 200000) (hD : shaF l = D) :
    Calls Tryz.prog 202 #[bv] w fun e w' => e = .returned (.int .u64 (numN D 8)) ∧ Below w.heap.size w w' := by
  obtain ⟨ba, bc, rfl⟩ := hr.slice
  have hof := Lib.hid (rof_any (.slice ba l.length bc) l D w hr hl hlm hD)
  have hDl : D.length = 32 := by rw [← hD]; exact shaF_length l
  have hDb := Lib.hid (show Bytes D by rw [← hD]; exact shaF_bytes l)
  have hi := Lib.hid (show (Tryz.prog.info? 24).map (·.size) = some (u8s D).size from by rw [u8s_size, hDl]; kernel_rfl)
  have hs := Lib.hid (show 32 = (u8s D).size from by rw [u8s_size, hDl])
  have hDl' := Lib.hid hDl
  clear hr hl hD hDl hlm
  generalize l.length = n at *
  go_enter Tryz.func202, Tryz.ntmps202
  go_wp2_with (first | (go_at_call 109; refine (hof.out).mono ?_; rintro e w1 ⟨rfl, hb1⟩; have hb1' := Lib.hid hb1; have hz1 := hb1.size; clear hb1) | (refine storeNew w1 rfl 24 _ _ rfl (u8s D) 24 rfl rfl hi.out (Eq.trans (by kernel_rfl) hs.out) (u8s_one _) ?_; intro wx hr hb2; have kx := Lib.hid hr; have hBx := Lib.hid (hb1'.out.trans (hb2.mono hz1)); clear hr hb2; refine Stop.go'' _ ?_))
  refine StopP.go ?_
  generalize w1.heap.size = g at *
  have hck := Lib.hid (fun k (hk : k < 32) => (show wx.cell? ⟨g, k, none⟩ = some (.int .u8 (ith D k)) from by rw [cell_of_row _ _ _ _ _ _ kx.out]; exact u8s_get _ _ (by rw [hDl'.out]; exact hk)))
  clear hb1' hz1 kx hi hs hof
  go_wp2
  go_loop [4, 5] (fun n i => ∃ k : Nat, k ≤ 8 ∧ i = .int .i64 (k : Int) ∧ n = .int .u64 (numN D k)) (fun _ i => 8 - (intOf i).toNat)
  case atStart => exact ⟨0, by omega, rfl, rfl⟩
  case round =>
    obtain ⟨k, hk, rfl, rfl⟩ := hrel
    by_cases hlt : k < 8
    · have hc := hck.out k (by omega)
      obtain ⟨b0, b1⟩ := hDb.out k
      obtain ⟨x0, x1⟩ := numN_7 D hDb.out k (by omega)
      have hnx : numN D (k + 1) = numN D k * 256 + ith D k := rfl
      have i1 : (0 : Int) ≤ (k : Int) := by omega
      have i2 : (k : Int) < 32 := by omega
      have hnx' := Lib.hid hnx
      clear hnx
      generalize hX : numN D k = x at *
      generalize ith D k = b at *
      have hX' := Lib.hid hX; clear hX
      go_wp2
      go_round
      case rel => exact ⟨k + 1, by omega, by go_num, by rw [hnx'.out]; go_num⟩
      case measure => simp [intOf]; omega
    · obtain rfl : k = 8 := by omega
      go_wp2
      go_ret
      exact ⟨rfl, hBx.out⟩
end Go.Proofs.YtnknkiiikeefgaaGreatDoor
namespace Go.Proofs.YtnknkiiikeefgaaGreatDoor
open Go.RowKit Go.YtnknkiiikeefgaaGreatDoor
set_option linter.unusedVariables false
theorem own_one (w : World) (x : Int) : OwnB w.heap.size 5 (w.alloc (.cells #[.int .u8 x] 5)) (.slice (some ⟨w.heap.size, 0, none⟩) 1 1) [x] :=
  ⟨rfl, .inr ⟨w.heap.size, 1, _, rfl, Nat.le_refl _, heap_alloc_new w _, Nat.le_refl _, by decide, rfl, rfl⟩⟩
theorem below_a (w : World) (o : Obj) : Below w.heap.size w (w.alloc o) := (Below.refl _ _).alloc (Nat.le_refl _) o
theorem be4_length (x : Int) : (be4 x).length = 4 := rfl
theorem hN_lt64 (mark : Int) (nums m : List Int) : (hN mark nums m : Int) < 18446744073709551616 := by
  rw [← hN_eq]
  exact (numN_in (shaF (headF mark nums nums.length ++ m)) (shaF_bytes _) 8).2
set_option maxRecDepth 100000 in
theorem rchal_any (r y : Nat) (hr : r < 4294967296) (hy : y < 4294967296) (mv : Value) (m : List Int) (w : World) (hm : RdB w mv m) (hmb : Bytes m) (hml : m.length ≤ 9991) :
    Calls Tryz.prog 181 #[.int .u32 (r : Int), .int .u32 (y : Int), mv] w fun e w' => e = .returned (.int .u32 (chalN r y m : Int)) ∧ Below w.heap.size w w' := by
  obtain ⟨ma, mc, rfl⟩ := hm.slice
  obtain ⟨X, hX⟩ : ∃ X, numN (shaF ((([99] ++ be4 (r : Int)) ++ be4 (y : Int)) ++ m)) 8 = (X : Nat) := ⟨_, hN_eq 99 [(r : Int), (y : Int)] m⟩
  have hXc : chalN r y m = X % 500000003 := by
    have h := hN_eq 99 [(r : Int), (y : Int)] m
    unfold chalN
    congr 1
    have : (hN 99 [(r : Int), (y : Int)] m : Int) = (X : Int) := by rw [← h]; exact hX
    omega
  have hX64 : X < 18446744073709551616 := by
    have h := hN_lt64 99 [(r : Int), (y : Int)] m
    have h2 := hN_eq 99 [(r : Int), (y : Int)] m
    have : (hN 99 [(r : Int), (y : Int)] m : Int) = (X : Int) := by rw [← h2]; exact hX
    omega
  have hbb := Lib.hid (bytes_append _ _ (bytes_append _ _ (bytes_append [99] _ (bytes_one 99 (by omega)) (be4_bytes (r : Int) ⟨by omega, by omega⟩)) (be4_bytes (y : Int) ⟨by omega, by omega⟩)) hmb)
  have hX' := Lib.hid hX; have hXc' := Lib.hid hXc; have hm' := Lib.hid hm
  have f1 := Lib.hid (rfour_any r hr); have f2 := Lib.hid (rfour_any y hy)
  clear hX hXc hm hmb hr hy
  generalize hml2 : m.length = ml at *
  have hml' := Lib.hid hml2; clear hml2
  go_enter Tryz.func181, Tryz.ntmps181
  go_wp2_with (go_at_call 201; (with_reducible refine (f1.out _).mono ?_); rintro e w1 ⟨rfl, hw1⟩; have hw1' := Lib.hid hw1; clear hw1; refine Stop.go'' _ ?_)
  refine StopP.go ?_
  have rd1 := Lib.hid (show RdB w1 (.slice (some ⟨w.heap.size + 1, 0, none⟩) 4 4) (be4 (r : Int)) by rw [hw1'.out]; have h := rd_rfour (w.alloc (.cells #[.int .u8 99] 5)) r; rw [World.size_alloc] at h; exact h)
  have ow1 := Lib.hid (show OwnB w.heap.size 5 w1 _ _ by rw [hw1'.out]; exact (own_one w 99).kept (below_a _ _))
  have hB1 := Lib.hid (show Below w.heap.size w w1 by rw [hw1'.out]; exact (below_a w _).trans ((below_a _ _).mono (by simp)))
  have hz1 := hB1.out.size
  clear hw1'
  go_wp2_with (refine appendB rfl _ _ 83 rfl w.heap.size 5 Tryz.underlying83 (by kernel_rfl) _ rfl _ ow1.out _ rfl _ rd1.out (by simp [be4_length]) hz1 ?_)
  intro v' w2 h1 h2
  have hB2 := Lib.hid (hB1.out.trans (ow1.out.below h2 hz1))
  have ow2 := Lib.hid (show OwnB w.heap.size 5 w2 v' ([99] ++ be4 (r : Int)) from h1)
  have hz2 := hB2.out.size
  obtain ⟨pa, pc, rfl⟩ := h1.rd.slice
  clear h1 h2 ow1 rd1 hB1 hz1
  refine Stop.go ?_
  go_wp2_with (go_at_call 201; (with_reducible refine (f2.out _).mono ?_); rintro e w3 ⟨rfl, hw3⟩; have hw3' := Lib.hid hw3; clear hw3; refine Stop.go'' _ ?_)
  refine StopP.go ?_
  have rd3 := Lib.hid (show RdB w3 _ _ by rw [hw3'.out]; exact rd_rfour w2 y)
  have ow3 := Lib.hid (show OwnB w.heap.size 5 w3 _ _ by rw [hw3'.out]; exact ow2.out.kept (below_a _ _))
  have hB3 := Lib.hid (show Below w.heap.size w w3 by rw [hw3'.out]; exact hB2.out.trans ((below_a _ _).mono hz2))
  have hz3 := hB3.out.size
  clear hw3' ow2 hB2
  go_wp2_with (refine appendB rfl _ _ 83 rfl w.heap.size 5 Tryz.underlying83 (by kernel_rfl) _ rfl _ ow3.out _ rfl _ rd3.out (by simp [be4_length]) hz3 ?_)
  intro v' w4 h1 h2
  have hB4 := Lib.hid (hB3.out.trans (ow3.out.below h2 hz3))
  have ow4 := Lib.hid (show OwnB w.heap.size 5 w4 v' (([99] ++ be4 (r : Int)) ++ be4 (y : Int)) from h1)
  have hz4 := hB4.out.size
  obtain ⟨qa, qc, rfl⟩ := h1.rd.slice
  have rm4 := Lib.hid (hm'.out.mono hB4.out)
  clear h1 h2 ow3 rd3 hB3 hz3
  refine Stop.go ?_
  go_wp2_with (refine appendB rfl _ _ 83 rfl w.heap.size 5 Tryz.underlying83 (by kernel_rfl) _ rfl _ ow4.out _ rfl _ rm4.out (by rw [hml'.out]; simp [be4_length]; omega) hz4 ?_)
  intro v' w5 h1 h2
  have hB5 := Lib.hid (hB4.out.trans (ow4.out.below h2 hz4))
  have rd5 := Lib.hid (show RdB w5 v' ((([99] ++ be4 (r : Int)) ++ be4 (y : Int)) ++ m) from h1.rd)
  have hz5 := hB5.out.size
  have hnum := rnumber_any v' _ _ w5 rd5.out hbb.out (by rw [List.length_append, hml'.out]; simp [be4_length]; omega) rfl
  rw [hX'.out] at hnum
  have hnum' := Lib.hid hnum
  obtain ⟨sa, sc, hv⟩ := rd5.out.slice
  rw [show List.length (α := Int) ((([99] ++ be4 (r : Int)) ++ be4 (y : Int)) ++ m) = ml + 9 by rw [List.length_append, hml'.out]; simp [be4_length]; omega] at hv
  subst hv
  clear h1 h2 ow4 rm4 hB4 hz4 hnum rd5 hX'
  refine Stop.go ?_
  go_wp2_with (go_at_call 202; (with_reducible refine (hnum'.out).mono ?_); rintro e w6 ⟨rfl, hb6⟩; have hb6' := Lib.hid hb6; clear hb6)
  go_ret
  exact ⟨by rw [hXc'.out]; exact ret_int (by omega), hB5.out.trans (hb6'.out.mono hz5)⟩
theorem rkey_any (a : Nat) (ha : a < 4294967296) (w : World) : Calls Tryz.prog 183 #[.int .u32 (a : Int)] w fun e w' => e = .returned (.int .u32 (grp.pw 4 a : Int)) ∧ w' = w := by
  have hb := Lib.hid (grp.rbase_any a (by omega))
  go_enter Tryz.func183, Tryz.ntmps183
  go_wp2_with (go_at_call 203; (with_reducible refine (hb.out _).mono ?_); rintro e w' ⟨rfl, rfl⟩)
  go_ret
  exact ⟨rfl, rfl⟩
end Go.Proofs.YtnknkiiikeefgaaGreatDoor
namespace Go.Proofs.YtnknkiiikeefgaaGreatDoor
open Go.RowKit Go.YtnknkiiikeefgaaGreatDoor
set_option linter.unusedVariables false
set_option maxRecDepth 100000 in
set_option maxHeartbeats 1000000 in
theorem rright_any (y : Nat) (hy : grp.inG y = true) (S E : Nat) (hS : S < 4294967296) (hE : E < 4294967296) (mv : Value) (m : List Int) (w : World) (hm : RdB w mv m) (hmb : Bytes m) (hml : m.length ≤ 9991) :
    Calls Tryz.prog 147 #[.int .u32 (y : Int), mv, .agg #[.int .u32 (E : Int), .int .u32 (S : Int)]] w fun e w' => e = .returned (.bool (rightB y m S E)) ∧ Below w.heap.size w w' := by
  have xE := Lib.hid (rexp_any E hE _ rfl); have xS := Lib.hid (rexp_any S hS _ rfl)
  obtain ⟨ma, mc, rfl⟩ := hm.slice
  by_cases h1 : E < 500000003
  · rw [decide_eq_true h1] at xE
    by_cases h2 : S < 500000003
    · rw [decide_eq_true h2] at xS
      have hr : rightB y m S E = decide (chalN (rN y S E) y m = E) := by simp [rightB, h1, h2]
      rw [hr]
      have hC := Lib.hid (fun wi (o : Below w.heap.size w wi) => rchal_any (rN y S E) y (grp.GP_u32 (Nat.mod_lt _ grp.GP_pos)) (grp.inG_u32 hy) _ m wi (hm.mono o) hmb hml)
      have yGP := ((grp.inG_iff y).1 hy).2.1
      have hPo := Lib.hid (grp.raised_any y E yGP (by omega))
      have gP := grp.inG_pw y E hy
      unfold rN at hC ⊢
      generalize grp.pw y E = P at *
      have hIn := Lib.hid (grp.rinv_ok P gP)
      have gI := grp.inG_pw P 500000002 gP
      generalize grp.pw P 500000002 = I at *
      have hBa := Lib.hid (rkey_any S hS)
      have gB := grp.inG_pw 4 S grp.in4
      generalize grp.pw 4 S = B at *
      have hMu := Lib.hid (grp.product_any B I (((grp.inG_iff B).1 gB).2.1) (((grp.inG_iff I).1 gI).2.1))
      generalize B * I % grp.GP = R at *
      generalize chalN R y m = C at *
      have hc : Hid (∀ wi, Below (w.heap.size + 1) (w.alloc (.cells #[.int .u32 (E : Int), .int .u32 (S : Int)] 33)) wi → wi.cell? ⟨w.heap.size, 0, none⟩ = some (.int .u32 (E : Int)) ∧ wi.cell? ⟨w.heap.size, 1, none⟩ = some (.int .u32 (S : Int))) := Lib.hid fun wi o => ⟨(o.cell (p := ⟨w.heap.size, 0, none⟩) (Nat.lt_succ_self _)).trans (cell_of_row _ _ _ _ _ _ (heap_alloc_new w _)), (o.cell (p := ⟨w.heap.size, 1, none⟩) (Nat.lt_succ_self _)).trans (cell_of_row _ _ _ _ _ _ (heap_alloc_new w _))⟩
      obtain ⟨c0, c1⟩ := hc.out _ (Below.refl _ _)
      have hBs := Lib.hid (below_a w (.cells #[.int .u32 (E : Int), .int .u32 (S : Int)] 33))
      generalize m.length = n at *
      clear hm hmb hy yGP gP gI gB hr hS hE
      go_enter Tryz.func147, Tryz.ntmps147
      go_wp2_with (first | (go_at_call 146; (first | (with_reducible refine (xE.out _).mono ?_) | (with_reducible refine (xS.out _).mono ?_)); rintro e w' ⟨rfl, rfl⟩) | (go_at_call 180; (with_reducible refine (hPo.out _).mono ?_); rintro e w' ⟨rfl, rfl⟩) | (go_at_call 179; (with_reducible refine (hIn.out _).mono ?_); rintro e w' ⟨rfl, rfl⟩))
      go_region_held3 (fun w' => w'.cell? ⟨w.heap.size, 0, none⟩ = some (.int .u32 (E : Int)) ∧ w'.cell? ⟨w.heap.size, 1, none⟩ = some (.int .u32 (S : Int))) (first | go_keep | (exact hc.out _ hb6'.out))
        (first | (go_at_call 183; (with_reducible refine (hBa.out _).mono ?_); rintro e w' ⟨rfl, rfl⟩) | (go_at_call 182; (with_reducible refine (hMu.out _).mono ?_); rintro e w' ⟨rfl, rfl⟩) | (go_at_call 181; (with_reducible refine (hC.out _ hBs.out.drew).mono ?_); rintro e w6 ⟨rfl, hb6⟩; have hb6' := Lib.hid (show Below (w.heap.size + 1) (w.alloc (.cells #[.int .u32 (E : Int), .int .u32 (S : Int)] 33)) w6 from (Below.refl _ _).drew.trans (by simpa using hb6)); clear hb6))
      go_wp2
      go_ret
      have hBf := hBs.out.trans (hb6'.out.mono (by omega))
      first | exact ⟨ret_bool (dec_eq C E), hBf⟩ | exact ⟨ret_bool (dec_eq' C E), hBf⟩
    · rw [decide_eq_false h2] at xS
      have hr : rightB y m S E = false := by simp [rightB, h2]
      rw [hr]
      generalize m.length = n at *
      clear hm hmb hy hr h1 h2 hS hE
      go_enter Tryz.func147, Tryz.ntmps147
      go_wp2_with (go_at_call 146; (first | (with_reducible refine (xE.out _).mono ?_) | (with_reducible refine (xS.out _).mono ?_)); rintro e w' ⟨rfl, rfl⟩)
      go_ret
      exact ⟨rfl, below_a _ _⟩
  · rw [decide_eq_false h1] at xE
    have hr : rightB y m S E = false := by simp [rightB, h1]
    rw [hr]
    generalize m.length = n at *
    clear hm hmb hy hr h1 hS hE
    go_enter Tryz.func147, Tryz.ntmps147
    go_wp2_with (go_at_call 146; (first | (with_reducible refine (xE.out _).mono ?_) | (with_reducible refine (xS.out _).mono ?_)); rintro e w' ⟨rfl, rfl⟩)
    go_ret
    exact ⟨rfl, below_a _ _⟩
end Go.Proofs.YtnknkiiikeefgaaGreatDoor

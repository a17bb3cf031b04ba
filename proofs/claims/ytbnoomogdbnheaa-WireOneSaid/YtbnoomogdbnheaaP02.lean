/- WireOne's walk: the calls. -/
import Derived.Test.YtbnoomogdbnheaaP01
namespace Go.Proofs.Ytbnoomogdbnheaa
open Go.RowKit Go.Ytbnoomogdbnheaa
set_option linter.unusedVariables false
set_option maxRecDepth 100000 in
set_option maxHeartbeats 4000000 in
theorem one_law (n : Nat) (hn : n < 18446744073709551616) (m : Int) (m1 : -9223372036854775808 ≤ m) (m2 : m ≤ 9223372036854775807) (sv bv : Value) (s b : List Int) (w : World) (hrs : RdB w sv s) (hs : Bytes s) (hrb : RdB w bv b) (hb : Bytes b) :
    Calls Try.prog 6 #[.int .u64 (n : Int), .int .i64 m, sv, bv] w fun e w' => e = .returned (.bool true) ∧ Below w.heap.size w w' := by
  have hal := Lib.hid (fun wi => alive_any wi)
  by_cases hlen : s.length ≤ 1000 ∧ b.length ≤ 1000
  · obtain ⟨hsl, hbl⟩ := hlen
    have hf := fold_lt m ⟨m1, m2⟩
    have c1 := Lib.hid (fun wi => number_any n hn wi)
    have c2 := Lib.hid (fun wi => signed_any m m1 m2 wi)
    have c3 := Lib.hid (fun wi hw => bytes_any sv s wi (hrs.mono hw) (by omega))
    have r1 := Lib.hid (fun v wi h => readNumber_any (numB n ++ b) v wi h (bytes_append _ _ (numB_bytes n hn) hb))
    rw [(rd_full n hn b).1, (rd_full n hn b).2.1, (rd_full n hn b).2.2] at r1
    have r2 := Lib.hid (fun v wi h => readSigned_any (numB (foldN m) ++ b) v wi h (bytes_append _ _ (numB_bytes _ hf) hb))
    rw [(rd_full _ hf b).1, (rd_full _ hf b).2.1, (rd_full _ hf b).2.2, unfold_fold] at r2
    have r3 := Lib.hid (fun v wi h => readBytes_ok (textB s ++ b) v 1000 (by omega) (by omega) wi h (bytes_append _ _ (text_bytes s hs (by omega)) hb) (by rw [List.length_append, textB_length]; have := numL_le s.length (by omega); omega) s.length (numL s.length) (readC_text s b hsl))
    rw [text_part, Nat.add_comm (numL s.length), ← Nat.add_comm (numL s.length), ← textB_length] at r3
    have k1 := Lib.hid (fun v wi h => readNumber_none ((numB n).take (numL n - 1)) v wi h (bytes_take _ _ (numB_bytes n hn)) (readF_cut n hn _ (by have := numL_pos n; omega)))
    have k2 := Lib.hid (fun v wi h => readBytes_no ((textB s).take ((textB s).length - 1)) v 1000 (by omega) (by omega) wi h (bytes_take _ _ (text_bytes s hs (by omega))) (by rw [List.length_take, textB_length]; have := numL_le s.length (by omega); omega) (readC_cut s hsl))
    have lx := Lib.hid (numB_length n)
    have ly := Lib.hid (numB_length (foldN m))
    have px := numL_le n hn
    have py := numL_le (foldN m) hf
    have qx := numL_pos n
    have qy := numL_pos (foldN m)
    have pz : (textB s).length ≤ 1009 := by rw [textB_length]; have := numL_le s.length (by omega); omega
    have qz : 1 ≤ (textB s).length := by rw [textB_length]; have := numL_pos s.length; omega
    obtain ⟨LZ, hLZ⟩ : ∃ LZ, (textB s).length = LZ := ⟨_, rfl⟩
    obtain ⟨S, hS⟩ : ∃ S, s.length = S := ⟨_, rfl⟩
    obtain ⟨LB, hLB⟩ : ∃ LB, b.length = LB := ⟨_, rfl⟩
    have lb := Lib.hid hLB; have lz := Lib.hid hLZ; have ls := Lib.hid hS
    rw [hLZ] at r3 k2 pz qz
    rw [hS] at r3 hsl
    rw [hLB] at hbl
    rw [hLZ] at c3
    obtain ⟨sa, sc, rfl⟩ := hrs.slice
    obtain ⟨ba, bc, rfl⟩ := hrb.slice
    rw [hS] at hrs c3 ⊢
    rw [hLB] at hrb ⊢
    have hrs' := Lib.hid hrs; have hrb' := Lib.hid hrb
    have hbby := Lib.hid hb
    clear hn m1 m2 hf hrs hrb hLZ hS hLB hs hb
    generalize numB n = BX at *
    generalize numL n = LX at *
    generalize numB (foldN m) = BY at *
    generalize numL (foldN m) = LY at *
    generalize textB s = BZ at *
    go_enter Try.func6, Try.ntmps6
    go_wp2_with (first
      | (go_at_call 23; (with_reducible refine (c1.out _).mono ?_); rintro e w1 ⟨rfl, hg, hb⟩; have hB1 := Lib.hid hb; have rdx := Lib.hid (rdB_row hg LX lx.out (by unfold maxLen; omega)); clear hg hb)
      | (go_at_call 25; (with_reducible refine (c2.out _).mono ?_); rintro e w2 ⟨rfl, hg, hb⟩; have hB2 := Lib.hid (hB1.out.trans (hb.mono hB1.out.size)); have rdx := Lib.hid (rdx.out.mono hb); have rdy := Lib.hid (rdB_row hg LY ly.out (by unfold maxLen; omega)); clear hg hb)
      | (go_at_call 12; (with_reducible refine (c3.out _ hB2.out).mono ?_); rintro e w3 ⟨g3, rfl, hg0, hg, hb⟩; have hB3 := Lib.hid (hB2.out.trans (hb.mono hB2.out.size)); have rdx := Lib.hid (rdx.out.mono hb); have rdy := Lib.hid (rdy.out.mono hb); have rdz := Lib.hid (rdB_row hg LZ lz.out (by unfold maxLen; omega)); clear hg hb hg0; refine Stop.go'' _ ?_))
    refine StopP.go ?_
    clear c1 c2 c3 hB1 hB2
    have rds := Lib.hid (hrs'.out.mono hB3.out); have rdb := Lib.hid (hrb'.out.mono hB3.out)
    clear hrs' hrb'

    have ox := Lib.hid (own_nil w3)
    have rx := Lib.hid (rdx.out.mono (below_a1 w3 (.cells #[] 5)))
    go_wp2_with (refine appendB rfl _ _ 26 rfl w3.heap.size 5 Try.underlying26 (by kernel_rfl) _ rfl [] ox.out _ rfl BX rx.out (by simp; rw [lx.out]; omega) (by simp) ?_)
    intro v1 wa h1 h2
    have hA := (below_a1 w3 (.cells #[] 5)).trans (ox.out.below h2 (by simp))
    obtain ⟨va, vc, rfl⟩ := own_slice h1 _ lx.out
    have o1 := Lib.hid h1
    have hA' := Lib.hid hA
    have hzA := hA.size
    have rb := Lib.hid ((rdb.out).mono hA)
    clear h1 h2 hA ox rx
    refine Stop.go ?_
    go_wp2_with (refine appendB rfl _ _ 26 rfl w3.heap.size 5 Try.underlying26 (by kernel_rfl) _ rfl BX o1.out _ rfl b rb.out (by rw [lx.out, lb.out]; omega) hzA ?_)
    intro v2 w5 h1 h2
    have hA := hA'.out.trans (o1.out.below h2 hzA)
    have hcat := Lib.hid h1.rd
    obtain ⟨va2, vc2, rfl⟩ := own_slice h1 _ (show (BX ++ b).length = _ from by rw [List.length_append, lx.out, lb.out])
    have hN := Lib.hid hA
    clear h1 h2 hA hA' hzA o1 rb
    refine Stop.go ?_
    have hB5 := Lib.hid (hB3.out.trans (hN.out.mono hB3.out.size))
    have rdx := Lib.hid (rdx.out.mono hN.out); have rdy := Lib.hid (rdy.out.mono hN.out); have rdz := Lib.hid (rdz.out.mono hN.out); have rds := Lib.hid (rds.out.mono hN.out); have rdb := Lib.hid (rdb.out.mono hN.out)
    clear hN hB3
    go_wp2_with (go_at_call 18; (with_reducible refine (r1.out _ _ hcat.out).mono ?_); rintro e w' ⟨rfl, rfl⟩; refine Stop.go'' _ ?_)
    refine StopP.go ?_
    clear hcat r1

    have ox := Lib.hid (own_nil w5)
    have rx := Lib.hid (rdy.out.mono (below_a1 w5 (.cells #[] 5)))
    go_wp2_with (refine appendB rfl _ _ 26 rfl w5.heap.size 5 Try.underlying26 (by kernel_rfl) _ rfl [] ox.out _ rfl BY rx.out (by simp; rw [ly.out]; omega) (by simp) ?_)
    intro v1 wa h1 h2
    have hA := (below_a1 w5 (.cells #[] 5)).trans (ox.out.below h2 (by simp))
    obtain ⟨va, vc, rfl⟩ := own_slice h1 _ ly.out
    have o1 := Lib.hid h1
    have hA' := Lib.hid hA
    have hzA := hA.size
    have rb := Lib.hid ((rdb.out).mono hA)
    clear h1 h2 hA ox rx
    refine Stop.go ?_
    go_wp2_with (refine appendB rfl _ _ 26 rfl w5.heap.size 5 Try.underlying26 (by kernel_rfl) _ rfl BY o1.out _ rfl b rb.out (by rw [ly.out, lb.out]; omega) hzA ?_)
    intro v2 w6 h1 h2
    have hA := hA'.out.trans (o1.out.below h2 hzA)
    have hcat := Lib.hid h1.rd
    obtain ⟨va2, vc2, rfl⟩ := own_slice h1 _ (show (BY ++ b).length = _ from by rw [List.length_append, ly.out, lb.out])
    have hN := Lib.hid hA
    clear h1 h2 hA hA' hzA o1 rb
    refine Stop.go ?_
    have hB6 := Lib.hid (hB5.out.trans (hN.out.mono hB5.out.size))
    have rdx := Lib.hid (rdx.out.mono hN.out); have rdy := Lib.hid (rdy.out.mono hN.out); have rdz := Lib.hid (rdz.out.mono hN.out); have rds := Lib.hid (rds.out.mono hN.out); have rdb := Lib.hid (rdb.out.mono hN.out)
    clear hN hB5
    go_wp2_with (go_at_call 20; (with_reducible refine (r2.out _ _ hcat.out).mono ?_); rintro e w' ⟨rfl, rfl⟩; refine Stop.go'' _ ?_)
    refine StopP.go ?_
    clear hcat r2

    have ox := Lib.hid (own_nil w6)
    have rx := Lib.hid (rdz.out.mono (below_a1 w6 (.cells #[] 5)))
    go_wp2_with (refine appendB rfl _ _ 26 rfl w6.heap.size 5 Try.underlying26 (by kernel_rfl) _ rfl [] ox.out _ rfl BZ rx.out (by simp; rw [lz.out]; omega) (by simp) ?_)
    intro v1 wa h1 h2
    have hA := (below_a1 w6 (.cells #[] 5)).trans (ox.out.below h2 (by simp))
    obtain ⟨va, vc, rfl⟩ := own_slice h1 _ lz.out
    have o1 := Lib.hid h1
    have hA' := Lib.hid hA
    have hzA := hA.size
    have rb := Lib.hid ((rdb.out).mono hA)
    clear h1 h2 hA ox rx
    refine Stop.go ?_
    go_wp2_with (refine appendB rfl _ _ 26 rfl w6.heap.size 5 Try.underlying26 (by kernel_rfl) _ rfl BZ o1.out _ rfl b rb.out (by rw [lz.out, lb.out]; omega) hzA ?_)
    intro v2 w7 h1 h2
    have hA := hA'.out.trans (o1.out.below h2 hzA)
    have hcat := Lib.hid h1.rd
    obtain ⟨va2, vc2, rfl⟩ := own_slice h1 _ (show (BZ ++ b).length = _ from by rw [List.length_append, lz.out, lb.out])
    have hN := Lib.hid hA
    clear h1 h2 hA hA' hzA o1 rb
    refine Stop.go ?_
    have hB7 := Lib.hid (hB6.out.trans (hN.out.mono hB6.out.size))
    have rdx := Lib.hid (rdx.out.mono hN.out); have rdy := Lib.hid (rdy.out.mono hN.out); have rdz := Lib.hid (rdz.out.mono hN.out); have rds := Lib.hid (rds.out.mono hN.out); have rdb := Lib.hid (rdb.out.mono hN.out)
    clear hN hB6
    go_wp2_with (go_at_call 13; (with_reducible refine (r3.out _ _ hcat.out).mono ?_); rintro e w8 ⟨rfl, hrow, hb8⟩; have hb8' := Lib.hid hb8; have rk := Lib.hid (rdB_row hrow S ls.out (by unfold maxLen; omega)); clear hrow hb8; refine Stop.go'' _ ?_)
    refine StopP.go ?_
    have hB8 := Lib.hid (hB7.out.trans (hb8'.out.mono hB7.out.size))
    have rdx := Lib.hid (rdx.out.mono hb8'.out); have rdy := Lib.hid (rdy.out.mono hb8'.out); have rdz := Lib.hid (rdz.out.mono hb8'.out); have rds := Lib.hid (rds.out.mono hb8'.out); have rdb := Lib.hid (rdb.out.mono hb8'.out)
    clear hcat r3 hB7 hb8'
    have cs8 := Lib.hid (same_yesW _ _ s w8 (by rw [ls.out]; omega) rk.out rds.out)
    obtain ⟨X1, hX1⟩ : ∃ X1 : Nat, (LX : Int) - 1 = (X1 : Int) := ⟨LX - 1, by omega⟩
    obtain ⟨Z1, hZ1⟩ : ∃ Z1 : Nat, (LZ : Int) - 1 = (Z1 : Int) := ⟨LZ - 1, by omega⟩
    have tX : LX - 1 = X1 := by omega
    have tZ : LZ - 1 = Z1 := by omega
    rw [tX] at k1
    rw [tZ] at k2
    clear tX tZ
    have hxne : ((LX : Int) == 0) = false := by simp; omega
    have hzne : ((LZ : Int) == 0) = false := by simp; omega
    go_wp2_with (go_at_call 22; (with_reducible refine (cs8.out).mono ?_); rintro e w9 ⟨rfl, hd⟩; have hd' := Lib.hid hd; clear hd; refine Stop.go'' _ ?_)
    refine StopP.go ?_
    have hb9 := Lib.hid (hd'.out.below (Below.refl w8.heap.size w8))
    have hB9 := Lib.hid (hd'.out.below hB8.out)
    have rdx := Lib.hid (rdx.out.mono hb9.out); have rdy := Lib.hid (rdy.out.mono hb9.out); have rdz := Lib.hid (rdz.out.mono hb9.out); have rds := Lib.hid (rds.out.mono hb9.out); have rdb := Lib.hid (rdb.out.mono hb9.out)
    clear hd' hB8 hb9 rk cs8
    have rx1 := Lib.hid (rdB_take rdx.out X1 (by omega)); have rz1 := Lib.hid (rdB_take rdz.out Z1 (by omega))
    go_wp2_with (first | (go_at_call 18; (with_reducible refine (k1.out _ _ rx1.out).mono ?_); rintro e w' ⟨rfl, rfl⟩) | (go_at_call 13; (with_reducible refine (k2.out _ _ rz1.out).mono ?_); rintro e w' ⟨rfl, rfl⟩; refine Stop.go'' _ ?_))
    refine StopP.go ?_
    clear k1 k2 rx1 rz1 hX1 hZ1 hxne hzne rdx rdy rdz rds lx ly lz ls
    have cE := Lib.hid (fun wi (h : Below w9.heap.size w9 wi) => readNumber_any b (.slice ba LB bc) wi (rdb.out.mono h) hbby.out)
    cases hre : readF b with
    | none =>
      obtain ⟨e1, e2, e3⟩ := rd_none hre
      have hrC : readC b 1000 1 = none := by unfold readC; rw [hre]
      rw [e1, e2, e3] at cE
      have cF := Lib.hid (fun wi (h : Below w9.heap.size w9 wi) => readBytes_no b (.slice ba LB bc) 1000 (by omega) (by omega) wi (rdb.out.mono h) hbby.out (by rw [lb.out]; omega) hrC)
      clear e1 e2 e3 hrC hre
      go_wp2_with (first | (go_at_call 18; (with_reducible refine (cE.out _ (Below.refl _ _)).mono ?_); rintro e w' ⟨rfl, rfl⟩) | (go_at_call 13; (with_reducible refine (cF.out _ (Below.refl _ _)).mono ?_); rintro e w' ⟨rfl, rfl⟩) | (go_at_call 17; (with_reducible refine (hal.out _).mono ?_); rintro e w10 ⟨rfl, hb⟩; have hB10 := Lib.hid (hB9.out.trans (hb.mono hB9.out.size)); clear hb))
      go_ret
      exact ⟨rfl, hB10.out⟩
    | some p =>
      obtain ⟨o, u⟩ := p
      obtain ⟨e1, e2, e3⟩ := rd_some hre
      obtain ⟨ho64, hu, huL, htk⟩ := readF_some hbby.out hre
      have hu1 := numL_pos o
      have hu9 := numL_le o ho64
      rw [← hu] at hu1 hu9
      rw [e1, e2, e3] at cE
      have hlo := Lib.hid ((numB_length o).trans hu.symm)
      have cN0 := fun wi => number_any o ho64 wi
      rw [← hu] at cN0
      have cN := Lib.hid cN0
      have hbu0 := rdB_take rdb.out u (by rw [lb.out] at huL; exact huL)
      rw [htk] at hbu0
      have hbu := Lib.hid hbu0
      rw [lb.out] at huL
      clear e1 e2 e3 hu htk cN0 hbu0 ho64
      generalize numB o = BO at *
      go_wp2_with (go_at_call 18; (with_reducible refine (cE.out _ (Below.refl _ _)).mono ?_); rintro e w' ⟨rfl, rfl⟩)
      have hg1 : decide ((u : Int) < 1) = false := by simp; omega
      have hg2 : decide ((LB : Int) < (u : Int)) = false := by simp; omega
      have hg3 : decide (LB < u) = false := by simp; omega
      have hg4 : ¬ u = 0 := by omega
      have hg5 : u ≤ LB := by omega
      have hg6 : u ≤ bc := Nat.le_trans hg5 (rdB_cap rdb.out)
      refine region_start (by kernel_rfl) ?_
      refine any_take 0 rfl (by kernel_rfl) (fun _ _ _ _ h => h) (by rfl) rfl (v := ?_) (fun w => ?_) (fun K' hK' => ?_)
      rotate_left
      · go_simp; with_reducible rfl
      go_simp
      refine hK' _ ?_
      clear hK' K'
      refine any_take 1 rfl (by kernel_rfl) (fun _ _ _ _ h => h) (by rfl) rfl (v := ?_) (fun w => ?_) (fun K' hK' => ?_)
      rotate_left
      · go_simp; with_reducible rfl
      go_simp
      refine hK' _ ?_
      clear hK' K'
      refine any_take 2 rfl (by kernel_rfl) (fun _ _ _ _ h => h) (by rfl) rfl (v := ?_) (fun w => ?_) (fun K' hK' => ?_)
      rotate_left
      · go_simp; with_reducible rfl
      go_simp
      refine hK' _ ?_
      clear hK' K'
      refine any_take 3 rfl (by kernel_rfl) (fun _ _ _ _ h => h) (by rfl) rfl (v := ?_) (fun w => ?_) (fun K' hK' => ?_)
      rotate_left
      · go_simp; with_reducible rfl
      go_simp
      refine hK' _ ?_
      clear hK' K'
      refine any_take 4 rfl (by kernel_rfl) (fun _ _ _ _ h => h) (by rfl) rfl (v := ?_) (fun w => ?_) (fun K' hK' => ?_)
      rotate_left
      · go_simp; with_reducible rfl
      go_simp
      refine hK' _ ?_
      clear hK' K'
      refine any_take 5 rfl (by kernel_rfl) (fun _ _ _ _ h => h) (by rfl) rfl (v := ?_) (fun w => ?_) (fun K' hK' => ?_)
      rotate_left
      · go_simp; with_reducible rfl
      go_simp
      refine hK' _ ?_
      clear hK' K'
      refine any_take 6 rfl (by kernel_rfl) (fun _ _ _ _ h => h) (by rfl) rfl (v := ?_) (fun w => ?_) (fun K' hK' => ?_)
      rotate_left
      · go_simp; with_reducible rfl
      go_simp
      refine hK' _ ?_
      clear hK' K'
      refine any_take 7 rfl (by kernel_rfl) (fun _ _ _ _ h => h) (by rfl) rfl (v := ?_) (fun w => ?_) (fun K' hK' => ?_)
      rotate_left
      · go_simp; with_reducible rfl
      go_simp
      refine hK' _ ?_
      clear hK' K'
      refine any_take 8 rfl (by kernel_rfl) (fun _ _ _ _ h => h) (by rfl) rfl (v := ?_) (fun w => ?_) (fun K' hK' => ?_)
      rotate_left
      · go_simp; with_reducible rfl
      go_simp
      refine hK' _ ?_
      clear hK' K'
      refine any_take 9 rfl (by kernel_rfl) (fun _ _ _ _ h => h) (by rfl) rfl (v := ?_) (fun w => ?_) (fun K' hK' => ?_)
      rotate_left
      · go_simp; with_reducible rfl
      go_simp
      refine hK' _ ?_
      clear hK' K'
      refine any_take 11 rfl (by kernel_rfl) (fun _ _ _ _ h => h) (by rfl) rfl (v := ?_) (fun w => ?_) (fun K' hK' => ?_)
      rotate_left
      · go_simp; with_reducible rfl
      go_simp
      refine hK' _ ?_
      clear hK' K'
      refine any_take 12 rfl (by kernel_rfl) (fun _ _ _ _ h => h) (by rfl) rfl (v := ?_) (fun w => ?_) (fun K' hK' => ?_)
      rotate_left
      · go_simp; with_reducible rfl
      go_simp
      refine hK' _ ?_
      clear hK' K'
      refine any_take 13 rfl (by kernel_rfl) (fun _ _ _ _ h => h) (by rfl) rfl (v := ?_) (fun w => ?_) (fun K' hK' => ?_)
      rotate_left
      · go_simp; with_reducible rfl
      go_simp
      refine hK' _ ?_
      clear hK' K'
      refine any_only 10 rfl (by kernel_rfl) (fun K' hK' => ?_)
      go_simp
      go_wp2_with (go_at_call 23; (with_reducible refine (cN.out _).mono ?_); rintro e wn ⟨rfl, hg, hb⟩; have hbn := Lib.hid ((below_drew w9).trans hb); have cs := Lib.hid (show Calls Try.prog 22 #[.slice (some ⟨w9.heap.size, 0, none⟩) u u, .slice ba u bc] wn (fun e w' => e = .returned (.bool true) ∧ Draws wn w') from same_yesW _ _ BO wn (by rw [hlo.out]; omega) (rdB_row hg u hlo.out (by unfold maxLen; omega)) (hbu.out.mono hbn.out)); clear hg hb)
      try (refine hK' _ _ ?_; clear hK' K')
      refine any_only 14 rfl (by kernel_rfl) (fun K' hK' => ?_)
      go_simp
      go_wp2_with (go_at_call 22; (with_reducible refine (cs.out).mono ?_); rintro e ws ⟨rfl, hd⟩; have hbs := Lib.hid (hd.below hbn.out); clear hd)
      try (refine hK' _ _ ?_; clear hK' K')
      refine any_take 15 rfl (by kernel_rfl) (fun _ _ _ _ h => h) (by rfl) rfl (v := ?_) (fun w => ?_) (fun K' hK' => ?_)
      rotate_left
      · go_simp; with_reducible rfl
      go_simp
      refine hK' _ ?_
      clear hK' K'
      refine any_take 16 rfl (by kernel_rfl) (fun _ _ _ _ h => h) (by rfl) rfl (v := ?_) (fun w => ?_) (fun K' hK' => ?_)
      rotate_left
      · go_simp; with_reducible rfl
      go_simp
      refine hK' _ ?_
      clear hK' K'
      refine wpAny_done (by kernel_rfl) (NoPanic.normal ?_) _
      have hBs := Lib.hid (hB9.out.trans (hbs.out.mono hB9.out.size))
      have rdb := Lib.hid (rdb.out.mono hbs.out)
      clear hB9 cs cN cE hbn hlo hbu hbs hg1 hg2 hg3 hg4 hg5 hg6
      cases hrC : readC b 1000 1 with
      | none =>
        have cF := Lib.hid (fun wi (h : Below ws.heap.size ws wi) => readBytes_no b (.slice ba LB bc) 1000 (by omega) (by omega) wi (rdb.out.mono h) hbby.out (by rw [lb.out]; omega) hrC)
        clear hrC hre
        go_wp2_with (first | (go_at_call 13; (with_reducible refine (cF.out _ (Below.refl _ _)).mono ?_); rintro e w' ⟨rfl, rfl⟩) | (go_at_call 17; (with_reducible refine (hal.out _).mono ?_); rintro e w10 ⟨rfl, hb⟩; have hB10 := Lib.hid (hBs.out.trans (hb.mono hBs.out.size)); clear hb))
        go_ret
        exact ⟨rfl, hB10.out⟩
      | some p2 =>
        obtain ⟨n2, u2⟩ := p2
        obtain ⟨d1, d2, d3, d4⟩ := readC_back hbby.out hrC
        have cF0 := fun wi (h : Below ws.heap.size ws wi) => readBytes_ok b (.slice ba LB bc) 1000 (by omega) (by omega) wi (rdb.out.mono h) hbby.out (by rw [lb.out]; omega) n2 u2 hrC
        rw [lb.out] at d4
        obtain ⟨V, hV⟩ : ∃ V, u2 + n2 = V := ⟨_, rfl⟩
        rw [hV] at d1 d4 cF0
        have hV1 : 1 ≤ V := by omega
        have hn2 : n2 ≤ 1000 := by omega
        have hVb : V ≤ bc := Nat.le_trans d4 (rdB_cap rdb.out)
        have cF := Lib.hid cF0
        have rV0 := rdB_take rdb.out V d4
        rw [d1] at rV0
        have rV := Lib.hid rV0
        have d2' := Lib.hid d2
        have hTm := textB_length ((b.drop u2).take n2)
        rw [d2] at hTm
        have hT9 := numL_le n2 (by omega)
        have hTB := Lib.hid hTm
        clear hrC hre d1 d2 d3 hV cF0 rV0 hTm
        generalize (b.drop u2).take n2 = R at *
        go_wp2_with (first
          | (go_at_call 13; (with_reducible refine (cF.out _ (Below.refl _ _)).mono ?_); rintro e wr ⟨rfl, hg, hb⟩; have hBr := Lib.hid (hBs.out.trans (hb.mono hBs.out.size)); have rV := Lib.hid (rV.out.mono hb); have cG := Lib.hid (bytes_any _ R wr (rdB_row hg n2 d2'.out (by unfold maxLen; omega)) (by rw [d2'.out]; omega)); clear hg hb)
          | (go_at_call 12; (with_reducible refine (cG.out).mono ?_); rintro e wt ⟨gt, rfl, hg0, hg, hb⟩; have hBt := Lib.hid (hBr.out.trans (hb.mono hBr.out.size)); have cs := Lib.hid (same_yesW _ _ (textB R) wt (by rw [hTB.out]; omega) (rdB_row hg _ rfl (by rw [hTB.out]; unfold maxLen; omega)) (rV.out.mono hb)); clear hg hb hg0)
          | (go_at_call 22; (with_reducible refine (cs.out).mono ?_); rintro e wu ⟨rfl, hd⟩; have hBu := Lib.hid (hd.below hBt.out); clear hd)
          | (go_at_call 17; (with_reducible refine (hal.out _).mono ?_); rintro e w10 ⟨rfl, hb⟩; have hB10 := Lib.hid (hBu.out.trans (hb.mono hBu.out.size)); clear hb))
        go_ret
        exact ⟨rfl, hB10.out⟩
  · obtain ⟨sa, sc, rfl⟩ := hrs.slice
    obtain ⟨ba, bc, rfl⟩ := hrb.slice
    clear hrs hrb hs hb hn m1 m2
    generalize s.length = S at *
    generalize b.length = LB at *
    by_cases h1 : S ≤ 1000
    · have h2 : 1000 < LB := by omega
      clear hlen
      go_enter Try.func6, Try.ntmps6
      go_wp2_with (go_at_call 17; (with_reducible refine (hal.out _).mono ?_); rintro e w10 ⟨rfl, hb⟩; have hB10 := Lib.hid hb; clear hb)
      go_ret
      exact ⟨rfl, hB10.out⟩
    · have h2 : 1000 < S := by omega
      clear hlen h1
      go_enter Try.func6, Try.ntmps6
      go_wp2_with (go_at_call 17; (with_reducible refine (hal.out _).mono ?_); rintro e w10 ⟨rfl, hb⟩; have hB10 := Lib.hid hb; clear hb)
      go_ret
      exact ⟨rfl, hB10.out⟩
end Go.Proofs.Ytbnoomogdbnheaa

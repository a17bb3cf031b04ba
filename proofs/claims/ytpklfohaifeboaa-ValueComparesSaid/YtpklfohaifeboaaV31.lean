/- The reference's Compare and Cmp. -/
import Derived.Test.YtpklfohaifeboaaV30
import Derived.Test.YtpklfohaifeboaaV24
namespace Go.Proofs.Ytpklfohaifeboaa
open Go.RowKit Go.Ytpklfohaifeboaa
set_option linter.unusedVariables false
theorem digF_len (n s : Nat) (h : n < 18446744073709551616) (hs : s ≤ 3000) : (digF n s).length ≤ 1000000 := by
  unfold digF
  split
  · simp
  · rw [List.length_append, List.length_replicate]; have := bitsL_len n h; omega
theorem szF_len {k n : Int} {b : Nat} (hn : -9223372036854775808 ≤ n ∧ n ≤ 9223372036854775807) (hb : b < 18446744073709551616) : (szF k n b).length ≤ 1000000 := by
  have x1 := spX_lt b
  have f1 := spF_lt b
  unfold szF
  split
  · exact digF_len _ _ (by omega) (by omega)
  · split
    · exact digF_len _ _ (by omega) (by omega)
    · exact digF_len _ _ (by omega) (by omega)
set_option maxHeartbeats 16000000 in
set_option maxRecDepth 100000 in
theorem rcompare_any (k n : Int) (b : Nat) (s : ByteArray) (k' n' : Int) (b' : Nat) (s' : ByteArray) (fv : VFit k n b s) (fw : VFit k' n' b' s') (hv : validB k n b s = true) (hw : validB k' n' b' s' = true) (w : World) :
    Calls Try.prog 46 #[vA k n b s, vA k' n' b' s'] w fun e w' => e = .returned (.int .i64 (refV k n b s k' n' b' s')) ∧ Below w.heap.size w w' := by
  have hk := valid_kind hv
  have hk' := valid_kind hw
  have num3 : ∀ {k n : Int} {b : Nat} {s : ByteArray}, (k = 1 ∨ k = 2) → VFit k n b s → validB k n b s = true → sdF k n b < 4 := by
    intro k n b s h f v
    have := sd_any h f v
    unfold SdK at this
    omega
  have sd4 : ∀ {k n : Int} {b : Nat} {s : ByteArray}, VFit k n b s → validB k n b s = true → sdF k n b ≠ 4 → k = 1 ∨ k = 2 := by
    intro k n b s f v h
    have := valid_kind v
    by_cases h3 : k = 3
    · subst h3; exact absurd rfl h
    · omega
  have hSU := Lib.hid (fun w => rside_any k n b s (by omega) fv.b w)
  have hSV := Lib.hid (fun w => rside_any k' n' b' s' (by omega) fw.b w)
  have hZ0' := Lib.hid (fun (h : k = 1 ∨ k = 2) w => rsize_any k n b s h fv.n fv.b w)
  have hZ1' := Lib.hid (fun (h : k' = 1 ∨ k' = 2) w => rsize_any k' n' b' s' h fw.n fw.b w)
  have hRU' := Lib.hid (fun (h : k = 1 ∨ k = 2) w => rrank_any k n b s h fv.b w)
  have hRV' := Lib.hid (fun (h : k' = 1 ∨ k' = 2) w => rrank_any k' n' b' s' h fw.b w)
  have hT := Lib.hid (fun w => rtexts_any s s' fv.s fw.s w)
  have hl0 := Lib.hid (szF_len (k := k) fv.n fv.b)
  have hl1 := Lib.hid (szF_len (k := k') fw.n fw.b)
  have kU := sd4 fv hv
  have kV := sd4 fw hw
  obtain ⟨R, hR⟩ : ∃ R, R = refV k n b s k' n' b' s' := ⟨_, rfl⟩
  rw [← hR]
  unfold refV at hR
  generalize szF k n b = LU at *
  generalize szF k' n' b' = LV at *
  generalize rkF k b = RU at *
  generalize rkF k' b' = RV at *
  generalize sdF k n b = SU at *
  generalize sdF k' n' b' = SV at *
  have hOR := Lib.hid (fun w => rorder_any RU RV w)
  have hOS := Lib.hid (fun w => rorder_any SU SV w)
  obtain ⟨W, hW0⟩ : ∃ x, x = (w.alloc (.cells (vC k n b s) 26)).alloc (.cells (vC k' n' b' s') 26) := ⟨_, rfl⟩
  have hbx := boxes2 w (.cells (vC k n b s) 26) (.cells (vC k' n' b' s') 26)
  rw [← hW0] at hbx
  have hq0 := Lib.hid (fun w' (h : Below W.heap.size W w') => rowB hbx.1 h (Array.getElem?_eq_some_iff.1 hbx.1).1)
  have hq1 := Lib.hid (fun w' (h : Below W.heap.size W w') => rowB hbx.2.1 h (Array.getElem?_eq_some_iff.1 hbx.2.1).1)
  have hBW := Lib.hid hbx.2.2
  have hkeep := Lib.hid (fun w' (h : Below W.heap.size W w') => show w'.cell? ⟨w.heap.size, 0, none⟩ = some (.int .u8 k) ∧ w'.cell? ⟨w.heap.size, 1, none⟩ = some (.int .i64 n) ∧ w'.cell? ⟨w.heap.size, 2, none⟩ = some (.int .u64 (b : Int)) ∧ w'.cell? ⟨w.heap.size, 3, none⟩ = some (.string s) ∧ w'.cell? ⟨w.heap.size + 1, 0, none⟩ = some (.int .u8 k') ∧ w'.cell? ⟨w.heap.size + 1, 1, none⟩ = some (.int .i64 n') ∧ w'.cell? ⟨w.heap.size + 1, 2, none⟩ = some (.int .u64 (b' : Int)) ∧ w'.cell? ⟨w.heap.size + 1, 3, none⟩ = some (.string s') from
    ⟨(four_of (hq0.out w' h)).1.1, (four_of (hq0.out w' h)).1.2.1, (four_of (hq0.out w' h)).1.2.2.1, (four_of (hq0.out w' h)).1.2.2.2, (four_of (hq1.out w' h)).1.1, (four_of (hq1.out w' h)).1.2.1, (four_of (hq1.out w' h)).1.2.2.1, (four_of (hq1.out w' h)).1.2.2.2⟩)
  have hd := Lib.hid (show Below W.heap.size W W.drew from (Below.refl _ _).drew)
  clear hbx fv fw hv hw hk hk' num3 sd4
  go_enter Try.func46, Try.ntmps46
  go_upto_region 1 with fail
  rw [← hW0]
  clear hW0
  refine wp_region_quiet (C := fun w' => Below W.heap.size W w') (by kernel_rfl) (by kernel_rfl) (hd.out) ?_
  simp only [List.toList_toArray]
  repeat (first | (refine wpq (vA k n b s) rfl (quiet_row 26 _ rfl (w.heap.size) rfl 26 (vC k n b s) (0, 0) _ (fun w h => hq0.out w h) Try.underlying26 rfl info_val) rfl (fun K hK => ?_); go_simp; refine hK _ ?_; clear hK K) | (refine wpq (vA k' n' b' s') rfl (quiet_row 26 _ rfl (w.heap.size + 1) rfl 26 (vC k' n' b' s') (0, 0) _ (fun w h => hq1.out w h) Try.underlying26 rfl info_val) rfl (fun K hK => ?_); go_simp; refine hK _ ?_; clear hK K) | (refine wpq (.int .i64 SU) rfl (qa_call1 (vA k n b s) rfl Try.func63 (by kernel_rfl) rfl rfl rfl (fun w h => (hSU.out w).mono fun e w' ⟨he, hb⟩ => ⟨he, h.trans (hb.mono h.size)⟩)) rfl (fun K hK => ?_); go_simp; refine hK _ ?_; clear hK K) | (refine wpq (.int .i64 SV) rfl (qa_call1 (vA k' n' b' s') rfl Try.func63 (by kernel_rfl) rfl rfl rfl (fun w h => (hSV.out w).mono fun e w' ⟨he, hb⟩ => ⟨he, h.trans (hb.mono h.size)⟩)) rfl (fun K hK => ?_); go_simp; refine hK _ ?_; clear hK K) | (go_big_quiet_want; go_big_quiet_op; first | go_big_quiet_on | (refine ⟨_, fun _ _ => rfl, ?_⟩; go_big_quiet_on)))
  refine wpQuiet_nil ?_
  intro w3 h9
  have hW := Lib.hid h9
  clear h9
  by_cases hss : SU = SV
  · rw [if_pos hss] at hR
    have hssb : (SU != SV) = false := by simpa using hss
    by_cases h4 : SU = 4
    · rw [if_pos h4] at hR
      have hR := Lib.hid hR
      subst hss
      subst h4
      obtain ⟨⟨x0, x1, x2, x3⟩, _⟩ := four_of (hq0.out _ hW.out)
      obtain ⟨⟨y0, y1, y2, y3⟩, _⟩ := four_of (hq1.out _ hW.out)
      clear kU kV
      go_wp2_with (go_at_call 65; (with_reducible refine (hT.out _).mono ?_); rintro e w7 ⟨rfl, h7⟩; have hW := Lib.hid (hW.out.trans (h7.mono hW.out.size)); clear h7)
      go_ret
      exact ⟨ret_int hR.out.symm, hBW.out.trans (hW.out.mono hBW.out.size)⟩
    · rw [if_neg h4] at hR
      have hZ0 := Lib.hid (hZ0'.out (kU h4))
      have hZ1 := Lib.hid (hZ1'.out (kV (by rw [← hss]; exact h4)))
      have hRU := Lib.hid (hRU'.out (kU h4))
      have hRV := Lib.hid (hRV'.out (kV (by rw [← hss]; exact h4)))
      have h4b : (SU == 4) = false := by simpa using h4
      have hd1 := Lib.hid hW.out.drew
      clear kU kV hZ0' hZ1' hRU' hRV' hT
      have hd := Lib.hid (hW.out.drew)
      by_cases hm : SU = -1
      · rw [if_pos hm] at hR
        have hmb : (SU == -1) = true := by simpa using hm
        by_cases hc : lsF LV LU = 0
        · rw [if_pos hc] at hR
          have hR := Lib.hid hR
          have hcb : (lsF LV LU != 0) = false := by simpa using hc
          clear hss hm h4 hc
          go_upto_region 8 with fail
          obtain ⟨x0, x1, x2, x3, y0, y1, y2, y3⟩ := hkeep.out _ hW.out
          go_region_held3 (fun w' => w'.cell? ⟨w.heap.size, 0, none⟩ = some (.int .u8 k) ∧ w'.cell? ⟨w.heap.size, 1, none⟩ = some (.int .i64 n) ∧ w'.cell? ⟨w.heap.size, 2, none⟩ = some (.int .u64 (b : Int)) ∧ w'.cell? ⟨w.heap.size, 3, none⟩ = some (.string s) ∧ w'.cell? ⟨w.heap.size + 1, 0, none⟩ = some (.int .u8 k') ∧ w'.cell? ⟨w.heap.size + 1, 1, none⟩ = some (.int .i64 n') ∧ w'.cell? ⟨w.heap.size + 1, 2, none⟩ = some (.int .u64 (b' : Int)) ∧ w'.cell? ⟨w.heap.size + 1, 3, none⟩ = some (.string s')) (first | go_keep | (exact hkeep.out _ hW.out) | (exact hkeep.out _ hd.out))
            (first | (go_at_call 67; (with_reducible refine (hZ0.out _).mono ?_); rintro e w5 ⟨v5, rfl, ho5, hb5⟩; obtain ⟨a5, c5, rfl⟩ := ho5.rd.slice; have hW := Lib.hid (hd.out.trans (hb5.mono hd.out.size)); have r5 := Lib.hid ho5.rd; clear ho5 hb5) | (go_at_call 67; (with_reducible refine (hZ0.out _).mono ?_); rintro e w5 ⟨v5, rfl, ho5, hb5⟩; obtain ⟨a5, c5, rfl⟩ := ho5.rd.slice; have hW := Lib.hid (hW.out.trans (hb5.mono hW.out.size)); have r5 := Lib.hid ho5.rd; have r6 := Lib.hid (r6.out.mono hb5); clear ho5 hb5) | (go_at_call 67; (with_reducible refine (hZ1.out _).mono ?_); rintro e w6 ⟨v5, rfl, ho5, hb5⟩; obtain ⟨a6, c6, rfl⟩ := ho5.rd.slice; have hW := Lib.hid (hd.out.trans (hb5.mono hd.out.size)); have r6 := Lib.hid ho5.rd; clear ho5 hb5) | (go_at_call 67; (with_reducible refine (hZ1.out _).mono ?_); rintro e w6 ⟨v5, rfl, ho5, hb5⟩; obtain ⟨a6, c6, rfl⟩ := ho5.rd.slice; have hW := Lib.hid (hW.out.trans (hb5.mono hW.out.size)); have r6 := Lib.hid ho5.rd; have r5 := Lib.hid (r5.out.mono hb5); clear ho5 hb5) | (go_at_call 66; (refine (rless_any _ _ LV LU _ hl1.out hl0.out r6.out r5.out).mono ?_); rintro e w7 ⟨rfl, h7⟩; have hW := Lib.hid (hW.out.trans (h7.mono hW.out.size)); clear h7))
          all_goals
            go_upto_region 15 with fail
            refine wp_region_quiet (C := fun w' => Below W.heap.size W w') (by kernel_rfl) (by kernel_rfl) (hW.out.drew) ?_
            simp only [List.toList_toArray]
            repeat (first | (refine wpq (vA k n b s) rfl (quiet_row 26 _ rfl (w.heap.size) rfl 26 (vC k n b s) (0, 0) _ (fun w h => hq0.out w h) Try.underlying26 rfl info_val) rfl (fun K hK => ?_); go_simp; refine hK _ ?_; clear hK K) | (refine wpq (vA k' n' b' s') rfl (quiet_row 26 _ rfl (w.heap.size + 1) rfl 26 (vC k' n' b' s') (0, 0) _ (fun w h => hq1.out w h) Try.underlying26 rfl info_val) rfl (fun K hK => ?_); go_simp; refine hK _ ?_; clear hK K) | (refine wpq (.int .i64 RU) rfl (qa_call1 (vA k n b s) rfl Try.func68 (by kernel_rfl) rfl rfl rfl (fun w h => (hRU.out w).mono fun e w' ⟨he, hb⟩ => ⟨he, h.trans (hb.mono h.size)⟩)) rfl (fun K hK => ?_); go_simp; refine hK _ ?_; clear hK K) | (refine wpq (.int .i64 RV) rfl (qa_call1 (vA k' n' b' s') rfl Try.func68 (by kernel_rfl) rfl rfl rfl (fun w h => (hRV.out w).mono fun e w' ⟨he, hb⟩ => ⟨he, h.trans (hb.mono h.size)⟩)) rfl (fun K hK => ?_); go_simp; refine hK _ ?_; clear hK K) | (refine wpq (.int .i64 (cmpI RU RV)) rfl (quiet_call2 rfl Try.func64 (by kernel_rfl) rfl (.int .i64 RU) (.int .i64 RV) _ rfl rfl rfl (fun w h => (hOR.out w).mono fun e w' ⟨he, hw⟩ => ⟨he, hw ▸ h⟩)) rfl (fun K hK => ?_); go_simp; refine hK _ ?_; clear hK K) | (go_big_quiet_want; go_big_quiet_op; first | go_big_quiet_on | (refine ⟨_, fun _ _ => rfl, ?_⟩; go_big_quiet_on)))
            refine wpQuiet_nil ?_
            intro w8 h9
            have hW := Lib.hid h9
            clear h9
            go_wp2
            go_ret
            exact ⟨ret_int hR.out.symm, hBW.out.trans (hW.out.mono hBW.out.size)⟩
        · rw [if_neg hc] at hR
          have hR := Lib.hid hR
          have hcb : (lsF LV LU != 0) = true := by simpa using hc
          clear hss hm h4 hc
          go_upto_region 8 with fail
          obtain ⟨x0, x1, x2, x3, y0, y1, y2, y3⟩ := hkeep.out _ hW.out
          go_region_held3 (fun w' => w'.cell? ⟨w.heap.size, 0, none⟩ = some (.int .u8 k) ∧ w'.cell? ⟨w.heap.size, 1, none⟩ = some (.int .i64 n) ∧ w'.cell? ⟨w.heap.size, 2, none⟩ = some (.int .u64 (b : Int)) ∧ w'.cell? ⟨w.heap.size, 3, none⟩ = some (.string s) ∧ w'.cell? ⟨w.heap.size + 1, 0, none⟩ = some (.int .u8 k') ∧ w'.cell? ⟨w.heap.size + 1, 1, none⟩ = some (.int .i64 n') ∧ w'.cell? ⟨w.heap.size + 1, 2, none⟩ = some (.int .u64 (b' : Int)) ∧ w'.cell? ⟨w.heap.size + 1, 3, none⟩ = some (.string s')) (first | go_keep | (exact hkeep.out _ hW.out) | (exact hkeep.out _ hd.out))
            (first | (go_at_call 67; (with_reducible refine (hZ0.out _).mono ?_); rintro e w5 ⟨v5, rfl, ho5, hb5⟩; obtain ⟨a5, c5, rfl⟩ := ho5.rd.slice; have hW := Lib.hid (hd.out.trans (hb5.mono hd.out.size)); have r5 := Lib.hid ho5.rd; clear ho5 hb5) | (go_at_call 67; (with_reducible refine (hZ0.out _).mono ?_); rintro e w5 ⟨v5, rfl, ho5, hb5⟩; obtain ⟨a5, c5, rfl⟩ := ho5.rd.slice; have hW := Lib.hid (hW.out.trans (hb5.mono hW.out.size)); have r5 := Lib.hid ho5.rd; have r6 := Lib.hid (r6.out.mono hb5); clear ho5 hb5) | (go_at_call 67; (with_reducible refine (hZ1.out _).mono ?_); rintro e w6 ⟨v5, rfl, ho5, hb5⟩; obtain ⟨a6, c6, rfl⟩ := ho5.rd.slice; have hW := Lib.hid (hd.out.trans (hb5.mono hd.out.size)); have r6 := Lib.hid ho5.rd; clear ho5 hb5) | (go_at_call 67; (with_reducible refine (hZ1.out _).mono ?_); rintro e w6 ⟨v5, rfl, ho5, hb5⟩; obtain ⟨a6, c6, rfl⟩ := ho5.rd.slice; have hW := Lib.hid (hW.out.trans (hb5.mono hW.out.size)); have r6 := Lib.hid ho5.rd; have r5 := Lib.hid (r5.out.mono hb5); clear ho5 hb5) | (go_at_call 66; (refine (rless_any _ _ LV LU _ hl1.out hl0.out r6.out r5.out).mono ?_); rintro e w7 ⟨rfl, h7⟩; have hW := Lib.hid (hW.out.trans (h7.mono hW.out.size)); clear h7))
          all_goals
            go_wp2
            go_ret
            exact ⟨ret_int hR.out.symm, hBW.out.trans (hW.out.mono hBW.out.size)⟩
      · rw [if_neg hm] at hR
        have hmb : (SU == -1) = false := by simpa using hm
        by_cases ho : SU = 1
        · rw [if_pos ho] at hR
          have hob : (SU == 1) = true := by simpa using ho
          by_cases hc : lsF LU LV = 0
          · rw [if_pos hc] at hR
            have hR := Lib.hid hR
            have hcb : (lsF LU LV != 0) = false := by simpa using hc
            clear hss hm h4 hc ho
            go_upto_region 12 with fail
            obtain ⟨x0, x1, x2, x3, y0, y1, y2, y3⟩ := hkeep.out _ hW.out
            go_region_held3 (fun w' => w'.cell? ⟨w.heap.size, 0, none⟩ = some (.int .u8 k) ∧ w'.cell? ⟨w.heap.size, 1, none⟩ = some (.int .i64 n) ∧ w'.cell? ⟨w.heap.size, 2, none⟩ = some (.int .u64 (b : Int)) ∧ w'.cell? ⟨w.heap.size, 3, none⟩ = some (.string s) ∧ w'.cell? ⟨w.heap.size + 1, 0, none⟩ = some (.int .u8 k') ∧ w'.cell? ⟨w.heap.size + 1, 1, none⟩ = some (.int .i64 n') ∧ w'.cell? ⟨w.heap.size + 1, 2, none⟩ = some (.int .u64 (b' : Int)) ∧ w'.cell? ⟨w.heap.size + 1, 3, none⟩ = some (.string s')) (first | go_keep | (exact hkeep.out _ hW.out) | (exact hkeep.out _ hd.out))
              (first | (go_at_call 67; (with_reducible refine (hZ0.out _).mono ?_); rintro e w5 ⟨v5, rfl, ho5, hb5⟩; obtain ⟨a5, c5, rfl⟩ := ho5.rd.slice; have hW := Lib.hid (hd.out.trans (hb5.mono hd.out.size)); have r5 := Lib.hid ho5.rd; clear ho5 hb5) | (go_at_call 67; (with_reducible refine (hZ0.out _).mono ?_); rintro e w5 ⟨v5, rfl, ho5, hb5⟩; obtain ⟨a5, c5, rfl⟩ := ho5.rd.slice; have hW := Lib.hid (hW.out.trans (hb5.mono hW.out.size)); have r5 := Lib.hid ho5.rd; have r6 := Lib.hid (r6.out.mono hb5); clear ho5 hb5) | (go_at_call 67; (with_reducible refine (hZ1.out _).mono ?_); rintro e w6 ⟨v5, rfl, ho5, hb5⟩; obtain ⟨a6, c6, rfl⟩ := ho5.rd.slice; have hW := Lib.hid (hd.out.trans (hb5.mono hd.out.size)); have r6 := Lib.hid ho5.rd; clear ho5 hb5) | (go_at_call 67; (with_reducible refine (hZ1.out _).mono ?_); rintro e w6 ⟨v5, rfl, ho5, hb5⟩; obtain ⟨a6, c6, rfl⟩ := ho5.rd.slice; have hW := Lib.hid (hW.out.trans (hb5.mono hW.out.size)); have r6 := Lib.hid ho5.rd; have r5 := Lib.hid (r5.out.mono hb5); clear ho5 hb5) | (go_at_call 66; (refine (rless_any _ _ LU LV _ hl0.out hl1.out r5.out r6.out).mono ?_); rintro e w7 ⟨rfl, h7⟩; have hW := Lib.hid (hW.out.trans (h7.mono hW.out.size)); clear h7))
            all_goals
              go_upto_region 15 with fail
              refine wp_region_quiet (C := fun w' => Below W.heap.size W w') (by kernel_rfl) (by kernel_rfl) (hW.out.drew) ?_
              simp only [List.toList_toArray]
              repeat (first | (refine wpq (vA k n b s) rfl (quiet_row 26 _ rfl (w.heap.size) rfl 26 (vC k n b s) (0, 0) _ (fun w h => hq0.out w h) Try.underlying26 rfl info_val) rfl (fun K hK => ?_); go_simp; refine hK _ ?_; clear hK K) | (refine wpq (vA k' n' b' s') rfl (quiet_row 26 _ rfl (w.heap.size + 1) rfl 26 (vC k' n' b' s') (0, 0) _ (fun w h => hq1.out w h) Try.underlying26 rfl info_val) rfl (fun K hK => ?_); go_simp; refine hK _ ?_; clear hK K) | (refine wpq (.int .i64 RU) rfl (qa_call1 (vA k n b s) rfl Try.func68 (by kernel_rfl) rfl rfl rfl (fun w h => (hRU.out w).mono fun e w' ⟨he, hb⟩ => ⟨he, h.trans (hb.mono h.size)⟩)) rfl (fun K hK => ?_); go_simp; refine hK _ ?_; clear hK K) | (refine wpq (.int .i64 RV) rfl (qa_call1 (vA k' n' b' s') rfl Try.func68 (by kernel_rfl) rfl rfl rfl (fun w h => (hRV.out w).mono fun e w' ⟨he, hb⟩ => ⟨he, h.trans (hb.mono h.size)⟩)) rfl (fun K hK => ?_); go_simp; refine hK _ ?_; clear hK K) | (refine wpq (.int .i64 (cmpI RU RV)) rfl (quiet_call2 rfl Try.func64 (by kernel_rfl) rfl (.int .i64 RU) (.int .i64 RV) _ rfl rfl rfl (fun w h => (hOR.out w).mono fun e w' ⟨he, hw⟩ => ⟨he, hw ▸ h⟩)) rfl (fun K hK => ?_); go_simp; refine hK _ ?_; clear hK K) | (go_big_quiet_want; go_big_quiet_op; first | go_big_quiet_on | (refine ⟨_, fun _ _ => rfl, ?_⟩; go_big_quiet_on)))
              refine wpQuiet_nil ?_
              intro w8 h9
              have hW := Lib.hid h9
              clear h9
              go_wp2
              go_ret
              exact ⟨ret_int hR.out.symm, hBW.out.trans (hW.out.mono hBW.out.size)⟩
          · rw [if_neg hc] at hR
            have hR := Lib.hid hR
            have hcb : (lsF LU LV != 0) = true := by simpa using hc
            clear hss hm h4 hc ho
            go_upto_region 12 with fail
            obtain ⟨x0, x1, x2, x3, y0, y1, y2, y3⟩ := hkeep.out _ hW.out
            go_region_held3 (fun w' => w'.cell? ⟨w.heap.size, 0, none⟩ = some (.int .u8 k) ∧ w'.cell? ⟨w.heap.size, 1, none⟩ = some (.int .i64 n) ∧ w'.cell? ⟨w.heap.size, 2, none⟩ = some (.int .u64 (b : Int)) ∧ w'.cell? ⟨w.heap.size, 3, none⟩ = some (.string s) ∧ w'.cell? ⟨w.heap.size + 1, 0, none⟩ = some (.int .u8 k') ∧ w'.cell? ⟨w.heap.size + 1, 1, none⟩ = some (.int .i64 n') ∧ w'.cell? ⟨w.heap.size + 1, 2, none⟩ = some (.int .u64 (b' : Int)) ∧ w'.cell? ⟨w.heap.size + 1, 3, none⟩ = some (.string s')) (first | go_keep | (exact hkeep.out _ hW.out) | (exact hkeep.out _ hd.out))
              (first | (go_at_call 67; (with_reducible refine (hZ0.out _).mono ?_); rintro e w5 ⟨v5, rfl, ho5, hb5⟩; obtain ⟨a5, c5, rfl⟩ := ho5.rd.slice; have hW := Lib.hid (hd.out.trans (hb5.mono hd.out.size)); have r5 := Lib.hid ho5.rd; clear ho5 hb5) | (go_at_call 67; (with_reducible refine (hZ0.out _).mono ?_); rintro e w5 ⟨v5, rfl, ho5, hb5⟩; obtain ⟨a5, c5, rfl⟩ := ho5.rd.slice; have hW := Lib.hid (hW.out.trans (hb5.mono hW.out.size)); have r5 := Lib.hid ho5.rd; have r6 := Lib.hid (r6.out.mono hb5); clear ho5 hb5) | (go_at_call 67; (with_reducible refine (hZ1.out _).mono ?_); rintro e w6 ⟨v5, rfl, ho5, hb5⟩; obtain ⟨a6, c6, rfl⟩ := ho5.rd.slice; have hW := Lib.hid (hd.out.trans (hb5.mono hd.out.size)); have r6 := Lib.hid ho5.rd; clear ho5 hb5) | (go_at_call 67; (with_reducible refine (hZ1.out _).mono ?_); rintro e w6 ⟨v5, rfl, ho5, hb5⟩; obtain ⟨a6, c6, rfl⟩ := ho5.rd.slice; have hW := Lib.hid (hW.out.trans (hb5.mono hW.out.size)); have r6 := Lib.hid ho5.rd; have r5 := Lib.hid (r5.out.mono hb5); clear ho5 hb5) | (go_at_call 66; (refine (rless_any _ _ LU LV _ hl0.out hl1.out r5.out r6.out).mono ?_); rintro e w7 ⟨rfl, h7⟩; have hW := Lib.hid (hW.out.trans (h7.mono hW.out.size)); clear h7))
            all_goals
              go_wp2
              go_ret
              exact ⟨ret_int hR.out.symm, hBW.out.trans (hW.out.mono hBW.out.size)⟩
        · rw [if_neg ho] at hR
          have hob : (SU == 1) = false := by simpa using ho
          have hR := Lib.hid hR
          clear hss hm h4 ho
          go_upto_region 15 with fail
          refine wp_region_quiet (C := fun w' => Below W.heap.size W w') (by kernel_rfl) (by kernel_rfl) (hW.out.drew) ?_
          simp only [List.toList_toArray]
          repeat (first | (refine wpq (vA k n b s) rfl (quiet_row 26 _ rfl (w.heap.size) rfl 26 (vC k n b s) (0, 0) _ (fun w h => hq0.out w h) Try.underlying26 rfl info_val) rfl (fun K hK => ?_); go_simp; refine hK _ ?_; clear hK K) | (refine wpq (vA k' n' b' s') rfl (quiet_row 26 _ rfl (w.heap.size + 1) rfl 26 (vC k' n' b' s') (0, 0) _ (fun w h => hq1.out w h) Try.underlying26 rfl info_val) rfl (fun K hK => ?_); go_simp; refine hK _ ?_; clear hK K) | (refine wpq (.int .i64 RU) rfl (qa_call1 (vA k n b s) rfl Try.func68 (by kernel_rfl) rfl rfl rfl (fun w h => (hRU.out w).mono fun e w' ⟨he, hb⟩ => ⟨he, h.trans (hb.mono h.size)⟩)) rfl (fun K hK => ?_); go_simp; refine hK _ ?_; clear hK K) | (refine wpq (.int .i64 RV) rfl (qa_call1 (vA k' n' b' s') rfl Try.func68 (by kernel_rfl) rfl rfl rfl (fun w h => (hRV.out w).mono fun e w' ⟨he, hb⟩ => ⟨he, h.trans (hb.mono h.size)⟩)) rfl (fun K hK => ?_); go_simp; refine hK _ ?_; clear hK K) | (refine wpq (.int .i64 (cmpI RU RV)) rfl (quiet_call2 rfl Try.func64 (by kernel_rfl) rfl (.int .i64 RU) (.int .i64 RV) _ rfl rfl rfl (fun w h => (hOR.out w).mono fun e w' ⟨he, hw⟩ => ⟨he, hw ▸ h⟩)) rfl (fun K hK => ?_); go_simp; refine hK _ ?_; clear hK K) | (go_big_quiet_want; go_big_quiet_op; first | go_big_quiet_on | (refine ⟨_, fun _ _ => rfl, ?_⟩; go_big_quiet_on)))
          refine wpQuiet_nil ?_
          intro w8 h9
          have hW := Lib.hid h9
          clear h9
          go_wp2
          go_ret
          exact ⟨ret_int hR.out.symm, hBW.out.trans (hW.out.mono hBW.out.size)⟩
  · rw [if_neg hss] at hR
    have hR := Lib.hid hR
    have hssb : (SU != SV) = true := by simpa using hss
    clear hss kU kV
    go_wp2_with (go_at_call 64; (with_reducible refine (hOS.out _).mono ?_); rintro e w7 ⟨rfl, rfl⟩)
    go_ret
    exact ⟨ret_int hR.out.symm, hBW.out.trans (hW.out.mono hBW.out.size)⟩
end Go.Proofs.Ytpklfohaifeboaa

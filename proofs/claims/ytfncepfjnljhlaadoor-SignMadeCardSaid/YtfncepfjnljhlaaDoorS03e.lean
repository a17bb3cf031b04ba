/- Contracts of sign.right and Verify. -/
import Derived.Test.YtfncepfjnljhlaaDoorS03d
namespace Go.Proofs.YtfncepfjnljhlaaDoor
open Go.RowKit Go.YtfncepfjnljhlaaDoor
set_option linter.unusedVariables false
/-- The number that S and E give for a public key. -/
def rN (y S E : Nat) : Nat := grp.pw 4 S * grp.pw (grp.pw y E) 500000002 % grp.GP
def rightB (y : Nat) (m : List Int) (S E : Nat) : Bool := decide (E < 500000003) && (decide (S < 500000003) && decide (chalN (rN y S E) y m = E))
theorem dec_eq (a b : Nat) : ((a : Int) == (b : Int)) = decide (a = b) := by
  rw [Bool.eq_iff_iff, beq_iff_eq, decide_eq_true_iff]; omega
theorem dec_eq' (a b : Nat) : decide ((a : Int) = (b : Int)) = decide (a = b) := decide_eq_decide.2 (by omega)
theorem sig_load (w : World) (E S : Int) (T : TypeId) : (w.alloc (.cells #[.int .u32 E, .int .u32 S] T)).heap[w.heap.size]? = some (.cells #[.int .u32 E, .int .u32 S] T (0, 0)) := heap_alloc_new w _
set_option maxHeartbeats 1000000 in
theorem right_any (y : Nat) (hy : grp.inG y = true) (S E : Nat) (hS : S < 4294967296) (hE : E < 4294967296) (mv : Value) (m : List Int) (w : World) (hm : RdB w mv m) (hmb : Bytes m) (hml : m.length ≤ 9991) (hgl : GlobW w) :
    Calls Tryd.prog 66 #[.int .u32 (y : Int), mv, .agg #[.int .u32 (E : Int), .int .u32 (S : Int)]] w fun e w' => e = .returned (.bool (rightB y m S E)) ∧ Below w.heap.size w w' := by
  by_cases h1 : E < 500000003
  · by_cases h2 : S < 500000003
    · have hr : rightB y m S E = decide (chalN (rN y S E) y m = E) := by simp [rightB, h1, h2]
      rw [hr]
      obtain ⟨ma, mc, rfl⟩ := hm.slice
      have hPo := Lib.hid (grp.pow_ok y E hy (by omega))
      have gP := grp.inG_pw y E hy
      have hC := Lib.hid (fun wi (o : Row1 w wi #[.int .u32 (E : Int), .int .u32 (S : Int)] 60) => chal_ok (rN y S E) y (grp.GP_u32 (Nat.mod_lt _ grp.GP_pos)) (grp.inG_u32 hy) _ m wi (hm.mono o.1) hmb hml (hgl.mono o.1))
      unfold rN at hC ⊢
      generalize grp.pw y E = P at *
      have hIn := Lib.hid (grp.inv_ok P gP)
      have gI := grp.inG_pw P 500000002 gP
      generalize grp.pw P 500000002 = I at *
      have hBa := Lib.hid (grp.base_any S (by omega))
      have gB := grp.inG_pw 4 S grp.in4
      generalize grp.pw 4 S = B at *
      have hMu := Lib.hid (grp.mul_ok B I gB gI)
      generalize B * I % grp.GP = R at *
      generalize chalN R y m = C at *
      have hR := Lib.hid (Row1.start w #[.int .u32 (E : Int), .int .u32 (S : Int)] 60)
      have hc0 : ∀ wi, Row1 w wi #[.int .u32 (E : Int), .int .u32 (S : Int)] 60 → wi.cell? ⟨w.heap.size, 0, none⟩ = some (.int .u32 (E : Int)) ∧ wi.cell? ⟨w.heap.size, 1, none⟩ = some (.int .u32 (S : Int)) := fun wi o => ⟨cell_of_row _ _ _ _ _ _ o.2, cell_of_row _ _ _ _ _ _ o.2⟩
      have hc := Lib.hid hc0
      have d1 : ¬ (500000003 : Int) ≤ (E : Int) := by omega
      have d2 : ¬ (500000003 : Int) ≤ (S : Int) := by omega
      generalize m.length = n at *
      clear hm hmb hgl hy gP gI gB hr hc0
      go_enter Tryd.func66, Tryd.ntmps66
      generalize hq : (500000003 : Int) = q at d1 d2 ⊢
      clear hq
      go_wp2_with (first | (go_at_call 47; refine (hPo.out _).mono ?_; rintro e w' ⟨rfl, g⟩; have hR := Lib.hid (hR.out.step g); clear g; obtain ⟨k0, k1⟩ := hc.out _ hR.out) | (go_at_call 51; refine (hIn.out _).mono ?_; rintro e w' ⟨rfl, g⟩; have hR := Lib.hid (hR.out.step g); clear g; obtain ⟨k0, k1⟩ := hc.out _ hR.out) | (go_at_call 46; refine (hBa.out _).mono ?_; rintro e w' ⟨rfl, g⟩; have hR := Lib.hid (hR.out.step g); clear g; obtain ⟨k0, k1⟩ := hc.out _ hR.out) | (go_at_call 48; refine (hMu.out _).mono ?_; rintro e w' ⟨rfl, g⟩; have hR := Lib.hid (hR.out.step g); clear g; obtain ⟨k0, k1⟩ := hc.out _ hR.out) | (go_at_call 34; refine (hC.out _ hR.out).mono ?_; rintro e w' ⟨rfl, g⟩; have hR := Lib.hid (hR.out.step g); clear g; obtain ⟨k0, k1⟩ := hc.out _ hR.out))
      go_ret
      first | exact ⟨ret_bool (dec_eq C E), hR.out.1⟩ | exact ⟨ret_bool (dec_eq' C E), hR.out.1⟩
    · have hr : rightB y m S E = false := by simp [rightB, h2]
      rw [hr]
      obtain ⟨ma, mc, rfl⟩ := hm.slice
      have hR := Lib.hid (Row1.start w #[.int .u32 (E : Int), .int .u32 (S : Int)] 60)
      have d1 : ¬ (500000003 : Int) ≤ (E : Int) := by omega
      have d2 : (500000003 : Int) ≤ (S : Int) := by omega
      clear hm hmb hgl hy hr
      go_enter Tryd.func66, Tryd.ntmps66
      generalize hq : (500000003 : Int) = q at d1 d2 ⊢
      clear hq
      go_wp2
      go_ret
      exact ⟨rfl, hR.out.1⟩
  · have hr : rightB y m S E = false := by simp [rightB, h1]
    rw [hr]
    obtain ⟨ma, mc, rfl⟩ := hm.slice
    have hR := Lib.hid (Row1.start w #[.int .u32 (E : Int), .int .u32 (S : Int)] 60)
    have d1 : (500000003 : Int) ≤ (E : Int) := by omega
    clear hm hmb hgl hy hr
    go_enter Tryd.func66, Tryd.ntmps66
    generalize hq : (500000003 : Int) = q at d1 ⊢
    clear hq
    go_wp2
    go_ret
    exact ⟨rfl, hR.out.1⟩
theorem verify_arg (y : Nat) (hyu : y < 4294967296) (hy : grp.inG y = false) (ma : Option Addr) (n c : Nat) (E S : Int) (w : World) :
    Calls Tryd.prog 36 #[.int .u32 (y : Int), .slice ma n c, .agg #[.int .u32 E, .int .u32 S]] w fun e w' => e = .returned (.int .i64 2) ∧ Below w.heap.size w w' := by
  have hI0 := grp.is_any y hyu
  rw [hy] at hI0
  have hI := Lib.hid hI0
  have hR := Lib.hid (Row1.start w #[.int .u32 E, .int .u32 S] 60)
  clear hI0 hy hyu
  go_enter Tryd.func36, Tryd.ntmps36
  go_wp2_with (go_at_call 45; refine (hI.out _).mono ?_; rintro e w' ⟨rfl, g⟩; have hR := Lib.hid (hR.out.step g); clear g)
  go_ret
  exact ⟨rfl, hR.out.1⟩
theorem verify_long (y : Nat) (hy : grp.inG y = true) (ma : Option Addr) (n c : Nat) (hn : 9991 < n) (E S : Int) (w : World) :
    Calls Tryd.prog 36 #[.int .u32 (y : Int), .slice ma n c, .agg #[.int .u32 E, .int .u32 S]] w fun e w' => e = .returned (.int .i64 4) ∧ Below w.heap.size w w' := by
  have hI0 := grp.is_any y (grp.inG_u32 hy)
  rw [hy] at hI0
  have hI := Lib.hid hI0
  have hl0 := tooLong_any ma n c
  rw [decide_eq_true hn] at hl0
  have hl := Lib.hid hl0
  have hR := Lib.hid (Row1.start w #[.int .u32 E, .int .u32 S] 60)
  clear hI0 hy hl0 hn
  go_enter Tryd.func36, Tryd.ntmps36
  go_wp2_with (first | (go_at_call 45; refine (hI.out _).mono ?_; rintro e w' ⟨rfl, g⟩; have hR := Lib.hid (hR.out.step g); clear g) | (go_at_call 62; refine (hl.out _).mono ?_; rintro e w' ⟨rfl, rfl⟩))
  go_ret
  exact ⟨rfl, hR.out.1⟩
theorem verify_any (y : Nat) (hy : grp.inG y = true) (S E : Nat) (hS : S < 4294967296) (hE : E < 4294967296) (mv : Value) (m : List Int) (w : World) (hm : RdB w mv m) (hmb : Bytes m) (hml : m.length ≤ 9991) (hgl : GlobW w) :
    Calls Tryd.prog 36 #[.int .u32 (y : Int), mv, .agg #[.int .u32 (E : Int), .int .u32 (S : Int)]] w fun e w' => e = .returned (.int .i64 (if rightB y m S E then 0 else 22)) ∧ Below w.heap.size w w' := by
  have hI0 := grp.is_any y (grp.inG_u32 hy)
  rw [hy] at hI0
  have hI := Lib.hid hI0
  obtain ⟨ma, mc, rfl⟩ := hm.slice
  have hl0 := tooLong_any ma m.length mc
  rw [decide_eq_false (by omega)] at hl0
  have hl := Lib.hid hl0
  have hR := Lib.hid (Row1.start w #[.int .u32 (E : Int), .int .u32 (S : Int)] 60)
  have hV := Lib.hid (fun wi (o : Row1 w wi #[.int .u32 (E : Int), .int .u32 (S : Int)] 60) => right_any y hy S E hS hE _ m wi (hm.mono o.1) hmb hml (hgl.mono o.1))
  generalize rightB y m S E = b at *
  generalize m.length = n at *
  clear hI0 hy hl0 hm hmb hgl hS hE
  cases b
  · go_enter Tryd.func36, Tryd.ntmps36
    go_wp2_with (first | (go_at_call 45; refine (hI.out _).mono ?_; rintro e w' ⟨rfl, g⟩; have hR := Lib.hid (hR.out.step g); clear g) | (go_at_call 62; refine (hl.out _).mono ?_; rintro e w' ⟨rfl, rfl⟩) | (refine wpList_load_row rfl 60 _ rfl w.heap.size rfl 60 _ (0, 0) _ hR.out.2 Tryd.underlying60 rfl sig_info ?_) | (go_at_call 66; refine (hV.out _ hR.out).mono ?_; rintro e w' ⟨rfl, g⟩; have hR := Lib.hid (hR.out.step g); clear g))
    go_ret
    exact ⟨rfl, hR.out.1⟩
  · go_enter Tryd.func36, Tryd.ntmps36
    go_wp2_with (first | (go_at_call 45; refine (hI.out _).mono ?_; rintro e w' ⟨rfl, g⟩; have hR := Lib.hid (hR.out.step g); clear g) | (go_at_call 62; refine (hl.out _).mono ?_; rintro e w' ⟨rfl, rfl⟩) | (refine wpList_load_row rfl 60 _ rfl w.heap.size rfl 60 _ (0, 0) _ hR.out.2 Tryd.underlying60 rfl sig_info ?_) | (go_at_call 66; refine (hV.out _ hR.out).mono ?_; rintro e w' ⟨rfl, g⟩; have hR := Lib.hid (hR.out.step g); clear g))
    go_ret
    exact ⟨rfl, hR.out.1⟩
end Go.Proofs.YtfncepfjnljhlaaDoor

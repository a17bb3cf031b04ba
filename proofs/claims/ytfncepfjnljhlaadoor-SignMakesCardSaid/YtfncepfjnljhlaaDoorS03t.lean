/- SignTells' walk. -/
import Derived.Test.YtfncepfjnljhlaaDoorS03m
namespace Go.Proofs.YtfncepfjnljhlaaDoor
open Go.RowKit Go.YtfncepfjnljhlaaDoor
set_option linter.unusedVariables false
theorem rexp_any (a : Nat) (ha : a < 4294967296) (b : Bool) (hb : decide (a < 500000003) = b) (w : World) : Calls Tryd.prog 50 #[.int .u32 (a : Int)] w fun e w' => e = .returned (.bool b) ∧ w' = w := by
  subst hb; exact grp.exponent_any a ha w
/-- What is known of a signature and a public key of the group. -/
structure TellOf (y S E : Nat) (m : List Int) where
  P : Nat
  I : Nat
  B : Nat
  R : Nat
  C : Nat
  hR : R < 4294967296
  hC : C < 500000003
  pow : ∀ w, Calls Tryd.prog 47 #[.int .u32 (y : Int), .int .u64 (E : Int)] w fun e w' => e = .returned (.tuple #[.int .u32 (P : Int), .int .i64 0]) ∧ Below w.heap.size w w'
  inv : ∀ w, Calls Tryd.prog 51 #[.int .u32 (P : Int)] w fun e w' => e = .returned (.tuple #[.int .u32 (I : Int), .int .i64 0]) ∧ Below w.heap.size w w'
  base : ∀ w, Calls Tryd.prog 46 #[.int .u64 (S : Int)] w fun e w' => e = .returned (.int .u32 (B : Int)) ∧ Below w.heap.size w w'
  mul : ∀ w, Calls Tryd.prog 48 #[.int .u32 (B : Int), .int .u32 (I : Int)] w fun e w' => e = .returned (.tuple #[.int .u32 (R : Int), .int .i64 0]) ∧ Below w.heap.size w w'
  chal : ∀ w mv, RdB w mv m → GlobW w → Calls Tryd.prog 34 #[.int .u32 (R : Int), .int .u32 (y : Int), mv] w fun e w' => e = .returned (.tuple #[.int .u32 (C : Int), .int .i64 0]) ∧ Below w.heap.size w w'
  ver : ∀ w mv, RdB w mv m → GlobW w → Calls Tryd.prog 36 #[.int .u32 (y : Int), mv, .agg #[.int .u32 (E : Int), .int .u32 (S : Int)]] w fun e w' => e = .returned (.int .i64 (if C = E then 0 else 22)) ∧ Below w.heap.size w w'
theorem tellOf (y S E : Nat) (m : List Int) (hy : grp.inG y = true) (hS : S < 500000003) (hE : E < 500000003) (hmb : Bytes m) (hml : m.length ≤ 9991) : Nonempty (TellOf y S E m) := ⟨{
  P := grp.pw y E
  I := grp.pw (grp.pw y E) 500000002
  B := grp.pw 4 S
  R := rN y S E
  C := chalN (rN y S E) y m
  hR := grp.GP_u32 (Nat.mod_lt _ grp.GP_pos)
  hC := chalN_lt _ _ _
  pow := grp.pow_ok y E hy (Nat.lt_trans hE (by decide))
  inv := grp.inv_ok _ (grp.inG_pw y E hy)
  base := grp.base_any S (Nat.lt_trans hS (by decide))
  mul := grp.mul_ok _ _ (grp.inG_pw 4 S grp.in4) (grp.inG_pw _ _ (grp.inG_pw y E hy))
  chal := fun w mv hm hg => chal_ok (rN y S E) y (grp.GP_u32 (Nat.mod_lt _ grp.GP_pos)) (grp.inG_u32 hy) mv m w hm hmb hml hg
  ver := fun w mv hm hg => by
    have h := verify_any y hy S E (Nat.lt_trans hS (by decide)) (Nat.lt_trans hE (by decide)) mv m w hm hmb hml hg
    have hr : rightB y m S E = decide (chalN (rN y S E) y m = E) := by
      unfold rightB; rw [decide_eq_true hS, decide_eq_true hE, Bool.true_and, Bool.true_and]
    rw [hr] at h
    simpa using h }⟩
theorem verify_no (y : Nat) (hy : grp.inG y = true) (S E : Nat) (hS : S < 4294967296) (hE : E < 4294967296) (mv : Value) (m : List Int) (w : World) (hm : RdB w mv m) (hmb : Bytes m) (hml : m.length ≤ 9991) (hgl : GlobW w) (h : 500000003 ≤ S ∨ 500000003 ≤ E) :
    Calls Tryd.prog 36 #[.int .u32 (y : Int), mv, .agg #[.int .u32 (E : Int), .int .u32 (S : Int)]] w fun e w' => e = .returned (.int .i64 22) ∧ Below w.heap.size w w' := by
  have hv := verify_any y hy S E hS hE mv m w hm hmb hml hgl
  rw [right_more y m S E h] at hv
  exact hv
set_option maxRecDepth 100000 in
set_option maxHeartbeats 1000000 in
theorem tells_law (y : Nat) (hyu : y < 4294967296) (mv : Value) (m : List Int) (E S : Nat) (hE : E < 4294967296) (hS : S < 4294967296) (w : World) (hm : RdB w mv m) (hmb : Bytes m) (hgl : GlobW w) :
    Calls Tryd.prog 12 #[.int .u32 (y : Int), mv, .agg #[.int .u32 (E : Int), .int .u32 (S : Int)]] w fun e w' => e = .returned (.bool true) ∧ Below w.heap.size w w' := by
  obtain ⟨ma, mc, rfl⟩ := hm.slice
  have hO := Lib.hid (Row1.start w #[.int .u32 (E : Int), .int .u32 (S : Int)] 60)
  have hal := Lib.hid (fun wi (o : Row1 w wi #[.int .u32 (E : Int), .int .u32 (S : Int)] 60) => alive3 wi (hgl.mono o.1))
  have hM := Lib.hid (fun wi (o : Row1 w wi #[.int .u32 (E : Int), .int .u32 (S : Int)] 60) => hm.mono o.1)
  have hG := Lib.hid (fun wi (o : Row1 w wi #[.int .u32 (E : Int), .int .u32 (S : Int)] 60) => hgl.mono o.1)
  have hc := Lib.hid (fun wi (o : Row1 w wi #[.int .u32 (E : Int), .int .u32 (S : Int)] 60) => Has.two (w := wi) (g := w.heap.size) o.2)
  have hI := Lib.hid (grp.ris_any y hyu)
  clear hgl hm
  cases hy : grp.inG y
  · rw [hy] at hI
    clear hy hmb hE hS
    go_enter Tryd.func12, Tryd.ntmps12
    go_wp2_with (first | (go_at_call 49; with_reducible refine (hI.out _).mono ?_; rintro e w' ⟨rfl, rfl⟩) | (go_at_call 38; ((with_reducible refine (hal.out _ hO.out).mono ?_)); rintro e w1 ⟨rfl, g⟩; have hO := Lib.hid (hO.out.step g); clear g))
    go_ret
    exact ⟨rfl, hO.out.1⟩
  · rw [hy] at hI
    by_cases hl : m.length ≤ 1000
    · have xE := Lib.hid (rexp_any E hE _ rfl); have xS := Lib.hid (rexp_any S hS _ rfl)
      by_cases lE : E < 500000003
      · by_cases lS : S < 500000003
        · rw [decide_eq_true lE] at xE
          rw [decide_eq_true lS] at xS
          obtain ⟨p⟩ := tellOf y S E m hy lS lE hmb (by omega)
          have hR := p.hR; have hC := p.hC
          have hpo := Lib.hid p.pow; have hin := Lib.hid p.inv; have hba := Lib.hid p.base; have hmu := Lib.hid p.mul; have hch := Lib.hid p.chal
          have hve := p.ver
          generalize p.C = C at *
          generalize p.R = R at *
          generalize p.B = B at *
          generalize p.I = I at *
          generalize p.P = P at *
          clear p hy hmb
          by_cases hCE : C = E
          · subst hCE
            rw [if_pos rfl] at hve
            have hve' := Lib.hid hve
            clear hve lE lS hC
            obtain ⟨k0, k1⟩ := hc.out _ hO.out
            generalize m.length = n at *
            go_enter Tryd.func12, Tryd.ntmps12
            go_wp2_with (first | (go_at_call 49; with_reducible refine (hI.out _).mono ?_; rintro e w' ⟨rfl, rfl⟩) | (go_at_call 50; (first | (with_reducible refine (xE.out _).mono ?_) | (with_reducible refine (xS.out _).mono ?_)); rintro e w' ⟨rfl, rfl⟩) | (refine wpList_load_row rfl 60 _ rfl w.heap.size rfl 60 _ (0, 0) _ hO.out.2 Tryd.underlying60 rfl (sig_info2 _ _) ?_) | (go_at_call 38; ((with_reducible refine (hal.out _ hO.out).mono ?_)); rintro e w1 ⟨rfl, g⟩; have hO := Lib.hid (hO.out.step g); clear g; obtain ⟨k0, k1⟩ := hc.out _ hO.out) | (go_at_call 36; ((with_reducible refine (hve'.out _ _ (hM.out _ hO.out) (hG.out _ hO.out)).mono ?_)); rintro e w1 ⟨rfl, g⟩; have hO := Lib.hid (hO.out.step g); clear g; obtain ⟨k0, k1⟩ := hc.out _ hO.out) | (go_at_call 47; ((with_reducible refine (hpo.out _).mono ?_)); rintro e w1 ⟨rfl, g⟩; have hO := Lib.hid (hO.out.step g); clear g; obtain ⟨k0, k1⟩ := hc.out _ hO.out) | (go_at_call 51; ((with_reducible refine (hin.out _).mono ?_)); rintro e w1 ⟨rfl, g⟩; have hO := Lib.hid (hO.out.step g); clear g; obtain ⟨k0, k1⟩ := hc.out _ hO.out) | (go_at_call 46; ((with_reducible refine (hba.out _).mono ?_)); rintro e w1 ⟨rfl, g⟩; have hO := Lib.hid (hO.out.step g); clear g; obtain ⟨k0, k1⟩ := hc.out _ hO.out) | (go_at_call 48; ((with_reducible refine (hmu.out _).mono ?_)); rintro e w1 ⟨rfl, g⟩; have hO := Lib.hid (hO.out.step g); clear g; obtain ⟨k0, k1⟩ := hc.out _ hO.out) | (go_at_call 34; ((with_reducible refine (hch.out _ _ (hM.out _ hO.out) (hG.out _ hO.out)).mono ?_)); rintro e w1 ⟨rfl, g⟩; have hO := Lib.hid (hO.out.step g); clear g; obtain ⟨k0, k1⟩ := hc.out _ hO.out))
            go_ret
            exact ⟨rfl, hO.out.1⟩
          · rw [if_neg hCE] at hve
            have hve' := Lib.hid hve
            have hne : ((C : Int) == (E : Int)) = false := by rw [beq_eq_false_iff_ne]; omega
            have hC2 : C < 4294967296 := by omega
            clear hve lE lS hC hCE
            obtain ⟨k0, k1⟩ := hc.out _ hO.out
            generalize m.length = n at *
            go_enter Tryd.func12, Tryd.ntmps12
            go_wp2_with (first | (go_at_call 49; with_reducible refine (hI.out _).mono ?_; rintro e w' ⟨rfl, rfl⟩) | (go_at_call 50; (first | (with_reducible refine (xE.out _).mono ?_) | (with_reducible refine (xS.out _).mono ?_)); rintro e w' ⟨rfl, rfl⟩) | (refine wpList_load_row rfl 60 _ rfl w.heap.size rfl 60 _ (0, 0) _ hO.out.2 Tryd.underlying60 rfl (sig_info2 _ _) ?_) | (go_at_call 38; ((with_reducible refine (hal.out _ hO.out).mono ?_)); rintro e w1 ⟨rfl, g⟩; have hO := Lib.hid (hO.out.step g); clear g; obtain ⟨k0, k1⟩ := hc.out _ hO.out) | (go_at_call 36; ((with_reducible refine (hve'.out _ _ (hM.out _ hO.out) (hG.out _ hO.out)).mono ?_)); rintro e w1 ⟨rfl, g⟩; have hO := Lib.hid (hO.out.step g); clear g; obtain ⟨k0, k1⟩ := hc.out _ hO.out) | (go_at_call 47; ((with_reducible refine (hpo.out _).mono ?_)); rintro e w1 ⟨rfl, g⟩; have hO := Lib.hid (hO.out.step g); clear g; obtain ⟨k0, k1⟩ := hc.out _ hO.out) | (go_at_call 51; ((with_reducible refine (hin.out _).mono ?_)); rintro e w1 ⟨rfl, g⟩; have hO := Lib.hid (hO.out.step g); clear g; obtain ⟨k0, k1⟩ := hc.out _ hO.out) | (go_at_call 46; ((with_reducible refine (hba.out _).mono ?_)); rintro e w1 ⟨rfl, g⟩; have hO := Lib.hid (hO.out.step g); clear g; obtain ⟨k0, k1⟩ := hc.out _ hO.out) | (go_at_call 48; ((with_reducible refine (hmu.out _).mono ?_)); rintro e w1 ⟨rfl, g⟩; have hO := Lib.hid (hO.out.step g); clear g; obtain ⟨k0, k1⟩ := hc.out _ hO.out) | (go_at_call 34; ((with_reducible refine (hch.out _ _ (hM.out _ hO.out) (hG.out _ hO.out)).mono ?_)); rintro e w1 ⟨rfl, g⟩; have hO := Lib.hid (hO.out.step g); clear g; obtain ⟨k0, k1⟩ := hc.out _ hO.out))
            go_ret
            exact ⟨rfl, hO.out.1⟩
        · have hv := Lib.hid (fun wi (o : Row1 w wi #[.int .u32 (E : Int), .int .u32 (S : Int)] 60) => verify_no y hy S E hS hE _ m wi (hM.out wi o) hmb (by omega) (hG.out wi o) (.inl (by omega)))
          rw [decide_eq_true lE] at xE
          rw [decide_eq_false lS] at xS
          clear lE lS hmb hy
          obtain ⟨k0, k1⟩ := hc.out _ hO.out
          generalize m.length = n at *
          go_enter Tryd.func12, Tryd.ntmps12
          go_wp2_with (first | (go_at_call 49; with_reducible refine (hI.out _).mono ?_; rintro e w' ⟨rfl, rfl⟩) | (go_at_call 50; (first | (with_reducible refine (xE.out _).mono ?_) | (with_reducible refine (xS.out _).mono ?_)); rintro e w' ⟨rfl, rfl⟩) | (refine wpList_load_row rfl 60 _ rfl w.heap.size rfl 60 _ (0, 0) _ hO.out.2 Tryd.underlying60 rfl (sig_info2 _ _) ?_) | (go_at_call 38; ((with_reducible refine (hal.out _ hO.out).mono ?_)); rintro e w1 ⟨rfl, g⟩; have hO := Lib.hid (hO.out.step g); clear g; obtain ⟨k0, k1⟩ := hc.out _ hO.out) | (go_at_call 36; ((with_reducible refine (hv.out _ hO.out).mono ?_)); rintro e w1 ⟨rfl, g⟩; have hO := Lib.hid (hO.out.step g); clear g; obtain ⟨k0, k1⟩ := hc.out _ hO.out))
          go_ret
          exact ⟨rfl, hO.out.1⟩
      · have hv := Lib.hid (fun wi (o : Row1 w wi #[.int .u32 (E : Int), .int .u32 (S : Int)] 60) => verify_no y hy S E hS hE _ m wi (hM.out wi o) hmb (by omega) (hG.out wi o) (.inr (by omega)))
        rw [decide_eq_false lE] at xE
        clear lE hmb hy
        obtain ⟨k0, k1⟩ := hc.out _ hO.out
        generalize m.length = n at *
        go_enter Tryd.func12, Tryd.ntmps12
        go_wp2_with (first | (go_at_call 49; with_reducible refine (hI.out _).mono ?_; rintro e w' ⟨rfl, rfl⟩) | (go_at_call 50; (first | (with_reducible refine (xE.out _).mono ?_) | (with_reducible refine (xS.out _).mono ?_)); rintro e w' ⟨rfl, rfl⟩) | (refine wpList_load_row rfl 60 _ rfl w.heap.size rfl 60 _ (0, 0) _ hO.out.2 Tryd.underlying60 rfl (sig_info2 _ _) ?_) | (go_at_call 38; ((with_reducible refine (hal.out _ hO.out).mono ?_)); rintro e w1 ⟨rfl, g⟩; have hO := Lib.hid (hO.out.step g); clear g; obtain ⟨k0, k1⟩ := hc.out _ hO.out) | (go_at_call 36; ((with_reducible refine (hv.out _ hO.out).mono ?_)); rintro e w1 ⟨rfl, g⟩; have hO := Lib.hid (hO.out.step g); clear g; obtain ⟨k0, k1⟩ := hc.out _ hO.out))
        go_ret
        exact ⟨rfl, hO.out.1⟩
    · have hl2 : 1000 < m.length := by omega
      clear hy hmb hE hS hl
      go_enter Tryd.func12, Tryd.ntmps12
      go_wp2_with (first | (go_at_call 49; with_reducible refine (hI.out _).mono ?_; rintro e w' ⟨rfl, rfl⟩) | (go_at_call 38; ((with_reducible refine (hal.out _ hO.out).mono ?_)); rintro e w1 ⟨rfl, g⟩; have hO := Lib.hid (hO.out.step g); clear g))
      go_ret
      exact ⟨rfl, hO.out.1⟩
end Go.Proofs.YtfncepfjnljhlaaDoor

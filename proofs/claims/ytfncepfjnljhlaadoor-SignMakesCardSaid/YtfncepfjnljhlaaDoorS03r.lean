/- SignRight's walk. -/
import Derived.Test.YtfncepfjnljhlaaDoorS03k
namespace Go.Proofs.YtfncepfjnljhlaaDoor
open Go.RowKit Go.YtfncepfjnljhlaaDoor
set_option linter.unusedVariables false
/-- What is known of a secret's signature of a message. -/
structure SigOf (a : Nat) (m : List Int) where
  E : Nat
  S : Nat
  X : Nat
  K : Nat
  R : Nat
  P : Nat
  hE : E < 500000003
  hS : S < 500000003
  hK1 : 1 ≤ K
  hK2 : K < 500000003
  hX : X < 4294967296
  hR : R < 4294967296
  pub : ∀ w, Calls Tryd.prog 32 #[.int .u32 (a : Int)] w fun e w' => e = .returned (.tuple #[.int .u32 (X : Int), .int .i64 0]) ∧ Below w.heap.size w w'
  nonce : ∀ w mv, RdB w mv m → GlobW w → Calls Tryd.prog 33 #[.int .u32 (a : Int), mv] w fun e w' => e = .returned (.tuple #[.int .u32 (K : Int), .int .i64 0]) ∧ Below w.heap.size w w'
  sign : ∀ w mv, RdB w mv m → GlobW w → Calls Tryd.prog 35 #[.int .u32 (a : Int), mv] w fun e w' => e = .returned (.tuple #[.agg #[.int .u32 (E : Int), .int .u32 (S : Int)], .int .i64 0]) ∧ Below w.heap.size w w'
  yes : ∀ w mv, RdB w mv m → GlobW w → Calls Tryd.prog 36 #[.int .u32 (X : Int), mv, .agg #[.int .u32 (E : Int), .int .u32 (S : Int)]] w fun e w' => e = .returned (.int .i64 0) ∧ Below w.heap.size w w'
  chal : ∀ w mv, RdB w mv m → GlobW w → Calls Tryd.prog 34 #[.int .u32 (R : Int), .int .u32 (X : Int), mv] w fun e w' => e = .returned (.tuple #[.int .u32 (E : Int), .int .i64 0]) ∧ Below w.heap.size w w'
  isX : ∀ w, Calls Tryd.prog 45 #[.int .u32 (X : Int)] w fun e w' => e = .returned (.bool true) ∧ Below w.heap.size w w'
  baseA : ∀ w, Calls Tryd.prog 46 #[.int .u64 (a : Int)] w fun e w' => e = .returned (.int .u32 (X : Int)) ∧ Below w.heap.size w w'
  baseK : ∀ w, Calls Tryd.prog 46 #[.int .u64 (K : Int)] w fun e w' => e = .returned (.int .u32 (R : Int)) ∧ Below w.heap.size w w'
  baseS : ∀ w, Calls Tryd.prog 46 #[.int .u64 (S : Int)] w fun e w' => e = .returned (.int .u32 ((R * P % grp.GP : Nat) : Int)) ∧ Below w.heap.size w w'
  pow : ∀ w, Calls Tryd.prog 47 #[.int .u32 (X : Int), .int .u64 (E : Int)] w fun e w' => e = .returned (.tuple #[.int .u32 (P : Int), .int .i64 0]) ∧ Below w.heap.size w w'
  mul : ∀ w, Calls Tryd.prog 48 #[.int .u32 (R : Int), .int .u32 (P : Int)] w fun e w' => e = .returned (.tuple #[.int .u32 ((R * P % grp.GP : Nat) : Int), .int .i64 0]) ∧ Below w.heap.size w w'
theorem sigOf (a : Nat) (h : 1 ≤ a ∧ a < 500000003) (m : List Int) (hmb : Bytes m) (hml : m.length ≤ 9991) : Nonempty (SigOf a m) := ⟨{
  E := eN a m
  S := sN a m
  X := grp.pw 4 a
  K := nonceN a m
  R := grp.pw 4 (nonceN a m)
  P := grp.pw (grp.pw 4 a) (eN a m)
  hE := eN_lt a m
  hS := sN_lt a m
  hK1 := (nonceN_lt a m).1
  hK2 := (nonceN_lt a m).2
  hX := pw_u32 4 a
  hR := pw_u32 4 _
  pub := public_ok a h
  nonce := fun w mv hm hg => nonce_ok a h mv m w hm hmb hml hg
  sign := fun w mv hm hg => sign_ok a h mv m w hm hmb hml hg
  yes := fun w mv hm hg => by
    have hr := signed_right a m
    have hv := verify_any (grp.pw 4 a) (grp.inG_pw 4 a grp.in4) (sN a m) (eN a m) (Nat.lt_trans (sN_lt a m) (by decide)) (Nat.lt_trans (eN_lt a m) (by decide)) mv m w hm hmb hml hg
    rw [hr] at hv
    exact hv
  chal := fun w mv hm hg => chal_ok (grp.pw 4 (nonceN a m)) (grp.pw 4 a) (pw_u32 _ _) (pw_u32 _ _) mv m w hm hmb hml hg
  isX := grp.is_pw4 a
  baseA := grp.base_any a (Nat.lt_trans h.2 (by decide))
  baseK := grp.base_any _ (Nat.lt_trans (nonceN_lt a m).2 (by decide))
  baseS := fun w => by
    have hb := grp.base_any (sN a m) (Nat.lt_trans (sN_lt a m) (by decide)) w
    rw [show grp.pw 4 (sN a m) = grp.pw 4 (nonceN a m) * grp.pw (grp.pw 4 a) (eN a m) % grp.GP from grp.signed_made a (nonceN a m) (eN a m)] at hb
    exact hb
  pow := grp.pow_ok _ _ (grp.inG_pw 4 a grp.in4) (Nat.lt_trans (eN_lt a m) (by decide))
  mul := grp.mul_ok _ _ (grp.inG_pw 4 _ grp.in4) (grp.inG_pw _ _ (grp.inG_pw 4 a grp.in4)) }⟩
theorem own_nil (w : World) : OwnB w.heap.size 5 (w.alloc (.cells #[] 5)) (.slice (some ⟨w.heap.size, 0, none⟩) 0 0) [] :=
  ⟨rfl, .inr ⟨w.heap.size, 0, _, rfl, Nat.le_refl _, heap_alloc_new w _, Nat.le_refl _, by decide, rfl, rfl⟩⟩
set_option maxRecDepth 100000 in
set_option maxHeartbeats 1000000 in
theorem right_law (a : Nat) (ha : a < 4294967296) (mv : Value) (m : List Int) (w : World) (hm : RdB w mv m) (hmb : Bytes m) (hgl : GlobW w) :
    Calls Tryd.prog 10 #[.int .u32 (a : Int), mv] w fun e w' => e = .returned (.bool true) ∧ Below w.heap.size w w' := by
  obtain ⟨ma, mc, rfl⟩ := hm.slice
  have hS := Lib.hid (Since.start hgl)
  have hal := Lib.hid (fun wi (o : Since w wi) => alive3 wi o.gl)
  have hM := Lib.hid (fun wi (o : Since w wi) => hm.mono o.1)
  clear hgl hm
  by_cases sa : 1 ≤ a ∧ a < 500000003
  · have kA := Lib.hid (rcheck_ok a sa)
    by_cases hl : m.length ≤ 1000
    · obtain ⟨p⟩ := sigOf a sa m hmb (by omega)
      clear sa hmb ha
      have hl' := Lib.hid hl
      obtain ⟨n, hn⟩ : ∃ n, n = m.length := ⟨_, rfl⟩
      rw [← hn] at hM hl ⊢
      have hn' := Lib.hid hn
      clear hn
      go_enter Tryd.func10, Tryd.ntmps10
      go_wp2_with (first | (go_at_call 43; with_reducible refine (kA.out _).mono ?_; rintro e w' ⟨rfl, rfl⟩) | (go_at_call 32; ((with_reducible refine (p.pub _).mono ?_)); rintro e w1 ⟨rfl, g⟩; have hS := Lib.hid (hS.out.step g); clear g) | (go_at_call 35; ((with_reducible refine (p.sign _ _ (hM.out _ hS.out) hS.out.gl).mono ?_)); rintro e w2 ⟨rfl, g⟩; have hS := Lib.hid (hS.out.step g); clear g) | (refine storeNew w2 rfl 60 _ _ rfl #[.int .u32 (p.E : Int), .int .u32 (p.S : Int)] 60 rfl rfl (sig_info2 _ _) rfl (two_one _ _) ?_; intro wx hr hb2; refine Stop.go' _ ?_))
      have hS := Lib.hid (hS.out.step hb2)
      have h7 := Lib.hid (show Has wx w2.heap.size _ _ from hr)
      clear hr hb2
      generalize w2.heap.size = g7 at *
      refine Stop.go ?_
      go_wp2_with (refine appendB rfl _ _ 29 rfl wx.heap.size 5 Tryd.underlying29 (by kernel_rfl) _ rfl _ (own_nil wx) _ rfl _ ((hM.out _ hS.out).mono ((Below.refl _ _).alloc (Nat.le_refl _) _)) (by have := hl'.out; simp; omega) (by simp) ?_)
      intro v' w3 h1 h2
      have hb3 := (own_nil wx).below h2 (by simp)
      have hS3 := Lib.hid (hS.out.step (((Below.refl _ _).alloc (Nat.le_refl _) _).trans hb3))
      have h73 := Lib.hid (h7.out.step (((Below.refl _ _).alloc (Nat.le_refl _) _).trans hb3))
      have hR3 := Lib.hid (show RdB w3 v' m from h1.rd)
      obtain ⟨va, vc, rfl⟩ := hR3.out.slice
      rw [← hn'.out] at hR3 ⊢
      clear h1 h2 hb3 h7 hS
      refine Stop.go ?_
      go_wp2_with (first | (go_at_call 35; ((with_reducible refine (p.sign _ _ hR3.out hS3.out.gl).mono ?_)); rintro e w4 ⟨rfl, g⟩; have hS4 := Lib.hid (hS3.out.step g); have h74 := Lib.hid (h73.out.step g); clear g) | (refine storeNew w4 rfl 60 _ _ rfl #[.int .u32 (p.E : Int), .int .u32 (p.S : Int)] 60 rfl rfl (sig_info2 _ _) rfl (two_one _ _) ?_; intro wy hr hb2; refine Stop.go' _ ?_))
      have hS := Lib.hid (hS4.out.step hb2)
      have h7 := Lib.hid (h74.out.step hb2)
      have h9 := Lib.hid (show Has wy w4.heap.size _ _ from hr)
      clear hr hb2 hS4 h74 h73 hS3 hR3
      generalize w4.heap.size = g9 at *
      refine Stop.go ?_
      have hE := p.hE; have hSS := p.hS
      go_wp2_with (first | (refine wpList_load_row_g rfl 60 _ rfl g7 rfl 60 _ (0, 0) _ h7.out Tryd.underlying60 rfl (sig_info2 _ _) ?_) | (refine wpList_load_row_g rfl 60 _ rfl g9 rfl 60 _ (0, 0) _ h9.out Tryd.underlying60 rfl (sig_info2 _ _) ?_) | (go_at_call 36; ((with_reducible refine (p.yes _ _ (hM.out _ hS.out) hS.out.gl).mono ?_)); rintro e w5 ⟨rfl, g⟩; have hS := Lib.hid (hS.out.step g); clear g) | (go_at_call 45; ((with_reducible refine (p.isX _).mono ?_)); rintro e w6 ⟨rfl, g⟩; have hS := Lib.hid (hS.out.step g); clear g) | (go_at_call 38; ((with_reducible refine (hal.out _ hS.out).mono ?_)); rintro e w' ⟨rfl, g⟩; have hS := Lib.hid (hS.out.step g); clear g))
      go_ret
      exact ⟨rfl, hS.out.1⟩
    · have hl2 : 1000 < m.length := by omega
      clear sa ha hmb hl
      go_enter Tryd.func10, Tryd.ntmps10
      go_wp2_with (first | (go_at_call 43; with_reducible refine (kA.out _).mono ?_; rintro e w' ⟨rfl, rfl⟩) | (go_at_call 38; ((with_reducible refine (hal.out _ hS.out).mono ?_)); rintro e w' ⟨rfl, g⟩; have hS := Lib.hid (hS.out.step g); clear g))
      go_ret
      exact ⟨rfl, hS.out.1⟩
  · have kA := Lib.hid (rcheck_bad a ha sa)
    clear sa ha hmb
    go_enter Tryd.func10, Tryd.ntmps10
    go_wp2_with (first | (go_at_call 43; with_reducible refine (kA.out _).mono ?_; rintro e w' ⟨rfl, rfl⟩) | (go_at_call 38; ((with_reducible refine (hal.out _ hS.out).mono ?_)); rintro e w' ⟨rfl, g⟩; have hS := Lib.hid (hS.out.step g); clear g))
    go_ret
    exact ⟨rfl, hS.out.1⟩
end Go.Proofs.YtfncepfjnljhlaaDoor

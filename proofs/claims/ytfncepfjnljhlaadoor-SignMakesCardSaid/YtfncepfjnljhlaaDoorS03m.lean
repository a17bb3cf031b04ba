/- SignMade's walk. -/
import Derived.Test.YtfncepfjnljhlaaDoorS03r
namespace Go.Proofs.YtfncepfjnljhlaaDoor
open Go.RowKit Go.YtfncepfjnljhlaaDoor
set_option linter.unusedVariables false
set_option maxRecDepth 100000 in
set_option maxHeartbeats 1000000 in
theorem made_law (a : Nat) (ha : a < 4294967296) (mv : Value) (m : List Int) (w : World) (hm : RdB w mv m) (hmb : Bytes m) (hgl : GlobW w) :
    Calls Tryd.prog 11 #[.int .u32 (a : Int), mv] w fun e w' => e = .returned (.bool true) ∧ Below w.heap.size w w' := by
  obtain ⟨ma, mc, rfl⟩ := hm.slice
  have hS := Lib.hid (Since.start hgl)
  have hal := Lib.hid (fun wi (o : Since w wi) => alive3 wi o.gl)
  have hM := Lib.hid (fun wi (o : Since w wi) => hm.mono o.1)
  clear hgl hm
  by_cases sa : 1 ≤ a ∧ a < 500000003
  · have kA := Lib.hid (rcheck_ok a sa)
    by_cases hl : m.length ≤ 1000
    · obtain ⟨p⟩ := sigOf a sa m hmb (by omega)
      clear sa hmb
      obtain ⟨n, hn⟩ : ∃ n, n = m.length := ⟨_, rfl⟩
      rw [← hn] at hM hl ⊢
      clear hn
      go_enter Tryd.func11, Tryd.ntmps11
      go_wp2_with (first | (go_at_call 43; with_reducible refine (kA.out _).mono ?_; rintro e w' ⟨rfl, rfl⟩) | (go_at_call 32; ((with_reducible refine (p.pub _).mono ?_)); rintro e w1 ⟨rfl, g⟩; have hS := Lib.hid (hS.out.step g); clear g) | (go_at_call 33; ((with_reducible refine (p.nonce _ _ (hM.out _ hS.out) hS.out.gl).mono ?_)); rintro e w2 ⟨rfl, g⟩; have hS := Lib.hid (hS.out.step g); clear g) | (go_at_call 35; ((with_reducible refine (p.sign _ _ (hM.out _ hS.out) hS.out.gl).mono ?_)); rintro e w2 ⟨rfl, g⟩; have hS := Lib.hid (hS.out.step g); clear g) | (refine storeNew w2 rfl 60 _ _ rfl #[.int .u32 (p.E : Int), .int .u32 (p.S : Int)] 60 rfl rfl (sig_info2 _ _) rfl (two_one _ _) ?_; intro wx hr hb2; refine Stop.go' _ ?_))
      have hS := Lib.hid (hS.out.step hb2)
      have h7 := Lib.hid (show Has wx w2.heap.size #[.int .u32 (p.E : Int), .int .u32 (p.S : Int)] 60 from hr)
      clear hr hb2
      generalize w2.heap.size = g7 at *
      have hE := p.hE; have hSS := p.hS; have hK1 := p.hK1; have hK2 := p.hK2; have hX := p.hX; have hR := p.hR
      have hbA := Lib.hid p.baseA; have hbK := Lib.hid p.baseK; have hbS := Lib.hid p.baseS; have hpo := Lib.hid p.pow; have hmu := Lib.hid p.mul; have hch := Lib.hid p.chal
      generalize p.E = E at *
      generalize p.S = S at *
      generalize p.K = K at *
      generalize p.R * p.P % grp.GP = M at *
      generalize p.P = P at *
      generalize p.R = R at *
      generalize p.X = X at *
      clear p
      obtain ⟨k0, k1⟩ := h7.out.two
      have hKi : (K : Int) < 500000003 := by omega
      refine Stop.go ?_
      go_upto_region 10 with (first | (go_at_call 46; (first | (with_reducible refine (hbK.out _).mono ?_) | (with_reducible refine (hbS.out _).mono ?_) | (with_reducible refine (hbA.out _).mono ?_)); rintro e w3 ⟨rfl, g⟩; have hS := Lib.hid (hS.out.step g); have h7 := Lib.hid (h7.out.step g); clear g; obtain ⟨k0, k1⟩ := h7.out.two) | (go_at_call 47; ((with_reducible refine (hpo.out _).mono ?_)); rintro e w4 ⟨rfl, g⟩; have hS := Lib.hid (hS.out.step g); have h7 := Lib.hid (h7.out.step g); clear g; obtain ⟨k0, k1⟩ := h7.out.two) | (go_at_call 48; ((with_reducible refine (hmu.out _).mono ?_)); rintro e w5 ⟨rfl, g⟩; have hS := Lib.hid (hS.out.step g); have h7 := Lib.hid (h7.out.step g); clear g; obtain ⟨k0, k1⟩ := h7.out.two) | (go_at_call 34; ((with_reducible refine (hch.out _ _ (hM.out _ hS.out) hS.out.gl).mono ?_)); rintro e w6 ⟨rfl, g⟩; have hS := Lib.hid (hS.out.step g); have h7 := Lib.hid (h7.out.step g); clear g; obtain ⟨k0, k1⟩ := h7.out.two) | (go_at_call 38; ((with_reducible refine (hal.out _ hS.out).mono ?_)); rintro e w' ⟨rfl, g⟩; have hS := Lib.hid (hS.out.step g); clear g))
      have hK1i : (1 : Int) ≤ (K : Int) := by omega
      have hK3 : K < 4294967296 := by omega
      have hS3 : S < 4294967296 := by omega
      clear hE hSS hK1 hK2 k0 k1
      obtain ⟨k0, k1⟩ := h7.out.two
      generalize hq : (500000003 : Int) = q at hKi ⊢
      clear hq
      go_wp2_with (first | (go_at_call 46; (first | (with_reducible refine (hbK.out _).mono ?_) | (with_reducible refine (hbS.out _).mono ?_) | (with_reducible refine (hbA.out _).mono ?_)); rintro e w3 ⟨rfl, g⟩; have hS := Lib.hid (hS.out.step g); have h7 := Lib.hid (h7.out.step g); clear g; obtain ⟨k0, k1⟩ := h7.out.two) | (go_at_call 47; ((with_reducible refine (hpo.out _).mono ?_)); rintro e w4 ⟨rfl, g⟩; have hS := Lib.hid (hS.out.step g); have h7 := Lib.hid (h7.out.step g); clear g; obtain ⟨k0, k1⟩ := h7.out.two) | (go_at_call 48; ((with_reducible refine (hmu.out _).mono ?_)); rintro e w5 ⟨rfl, g⟩; have hS := Lib.hid (hS.out.step g); have h7 := Lib.hid (h7.out.step g); clear g; obtain ⟨k0, k1⟩ := h7.out.two) | (go_at_call 34; ((with_reducible refine (hch.out _ _ (hM.out _ hS.out) hS.out.gl).mono ?_)); rintro e w6 ⟨rfl, g⟩; have hS := Lib.hid (hS.out.step g); have h7 := Lib.hid (h7.out.step g); clear g; obtain ⟨k0, k1⟩ := h7.out.two) | (go_at_call 38; ((with_reducible refine (hal.out _ hS.out).mono ?_)); rintro e w' ⟨rfl, g⟩; have hS := Lib.hid (hS.out.step g); clear g))
      go_ret
      exact ⟨rfl, hS.out.1⟩
    · have hl2 : 1000 < m.length := by omega
      clear sa ha hmb hl
      go_enter Tryd.func11, Tryd.ntmps11
      go_wp2_with (first | (go_at_call 43; with_reducible refine (kA.out _).mono ?_; rintro e w' ⟨rfl, rfl⟩) | (go_at_call 38; ((with_reducible refine (hal.out _ hS.out).mono ?_)); rintro e w' ⟨rfl, g⟩; have hS := Lib.hid (hS.out.step g); clear g))
      go_ret
      exact ⟨rfl, hS.out.1⟩
  · have kA := Lib.hid (rcheck_bad a ha sa)
    clear sa ha hmb
    go_enter Tryd.func11, Tryd.ntmps11
    go_wp2_with (first | (go_at_call 43; with_reducible refine (kA.out _).mono ?_; rintro e w' ⟨rfl, rfl⟩) | (go_at_call 38; ((with_reducible refine (hal.out _ hS.out).mono ?_)); rintro e w' ⟨rfl, g⟩; have hS := Lib.hid (hS.out.step g); clear g))
    go_ret
    exact ⟨rfl, hS.out.1⟩
end Go.Proofs.YtfncepfjnljhlaaDoor

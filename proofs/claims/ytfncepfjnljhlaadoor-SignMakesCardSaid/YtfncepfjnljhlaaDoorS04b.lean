/- Contracts of the reference's Public, Nonce, Challenge and Sign (layer 3). -/
import Derived.Test.YtfncepfjnljhlaaDoorS03x
namespace Go.Proofs.YtfncepfjnljhlaaDoor
open Go.RowKit Go.YtfncepfjnljhlaaDoor
set_option linter.unusedVariables false
theorem rpublic_ok (a : Nat) (h : 1 ≤ a ∧ a < 500000003) (w : World) : Calls Tryd.prog 39 #[.int .u32 (a : Int)] w fun e w' => e = .returned (.tuple #[.int .u32 (grp.pw 4 a : Int), .int .i64 0]) ∧ w' = w := by
  have hc := Lib.hid (rcheck_ok a h); have hk := Lib.hid (rkey_any a (by omega))
  clear h
  go_enter Tryd.func39, Tryd.ntmps39
  go_wp2_with (first | (go_at_call 43; (with_reducible refine (hc.out _).mono ?_); rintro e w' ⟨rfl, rfl⟩) | (go_at_call 67; (with_reducible refine (hk.out _).mono ?_); rintro e w' ⟨rfl, rfl⟩))
  go_ret2
  exact ⟨rfl, rfl⟩
theorem rpublic_bad (a : Nat) (ha : a < 4294967296) (h : ¬ (1 ≤ a ∧ a < 500000003)) (w : World) : Calls Tryd.prog 39 #[.int .u32 (a : Int)] w fun e w' => e = .returned (.tuple #[.int .u32 0, .int .i64 2]) ∧ w' = w := by
  have hc := Lib.hid (rcheck_bad a ha h)
  clear h ha
  go_enter Tryd.func39, Tryd.ntmps39
  go_wp2_with (go_at_call 43; (with_reducible refine (hc.out _).mono ?_); rintro e w' ⟨rfl, rfl⟩)
  go_ret2
  exact ⟨rfl, rfl⟩
theorem rnonce_bad (a : Nat) (ha : a < 4294967296) (h : ¬ (1 ≤ a ∧ a < 500000003)) (mv : Value) (w : World) : Calls Tryd.prog 40 #[.int .u32 (a : Int), mv] w fun e w' => e = .returned (.tuple #[.int .u32 0, .int .i64 2]) ∧ w' = w := by
  have hc := Lib.hid (rcheck_bad a ha h)
  clear h ha
  go_enter Tryd.func40, Tryd.ntmps40
  go_wp2_with (go_at_call 43; (with_reducible refine (hc.out _).mono ?_); rintro e w' ⟨rfl, rfl⟩)
  go_ret2
  exact ⟨rfl, rfl⟩
theorem rnonce_long (a : Nat) (h : 1 ≤ a ∧ a < 500000003) (ma : Option Addr) (n c : Nat) (hn : 9991 < n) (w : World) : Calls Tryd.prog 40 #[.int .u32 (a : Int), .slice ma n c] w fun e w' => e = .returned (.tuple #[.int .u32 0, .int .i64 4]) ∧ w' = w := by
  have hc := Lib.hid (rcheck_ok a h)
  clear h
  go_enter Tryd.func40, Tryd.ntmps40
  go_wp2_with (go_at_call 43; (with_reducible refine (hc.out _).mono ?_); rintro e w' ⟨rfl, rfl⟩)
  go_ret2
  exact ⟨rfl, rfl⟩
theorem rnonce_ok (a : Nat) (h : 1 ≤ a ∧ a < 500000003) (mv : Value) (m : List Int) (w : World) (hm : RdB w mv m) (hmb : Bytes m) (hml : m.length ≤ 9991) :
    Calls Tryd.prog 40 #[.int .u32 (a : Int), mv] w fun e w' => e = .returned (.tuple #[.int .u32 (nonceN a m : Int), .int .i64 0]) ∧ Below w.heap.size w w' := by
  have hc := Lib.hid (rcheck_ok a h)
  obtain ⟨ma, mc, rfl⟩ := hm.slice
  have hn := Lib.hid (rnonce_any a (by omega) _ m w hm hmb hml)
  generalize nonceN a m = K at *
  generalize m.length = n at *
  clear h hm hmb
  go_enter Tryd.func40, Tryd.ntmps40
  go_wp2_with (first | (go_at_call 43; (with_reducible refine (hc.out _).mono ?_); rintro e w' ⟨rfl, rfl⟩) | (go_at_call 68; (with_reducible refine (hn.out).mono ?_); rintro e w' ⟨rfl, hb⟩; have hb' := Lib.hid hb; clear hb))
  go_ret2
  exact ⟨rfl, hb'.out⟩
theorem rchal_long (r y : Int) (ma : Option Addr) (n c : Nat) (hn : 9991 < n) (w : World) : Calls Tryd.prog 41 #[.int .u32 r, .int .u32 y, .slice ma n c] w fun e w' => e = .returned (.tuple #[.int .u32 0, .int .i64 4]) ∧ w' = w := by
  go_enter Tryd.func41, Tryd.ntmps41
  go_wp2
  go_ret2
  exact ⟨rfl, rfl⟩
theorem rchal_ok (r y : Nat) (hr : r < 4294967296) (hy : y < 4294967296) (mv : Value) (m : List Int) (w : World) (hm : RdB w mv m) (hmb : Bytes m) (hml : m.length ≤ 9991) :
    Calls Tryd.prog 41 #[.int .u32 (r : Int), .int .u32 (y : Int), mv] w fun e w' => e = .returned (.tuple #[.int .u32 (chalN r y m : Int), .int .i64 0]) ∧ Below w.heap.size w w' := by
  obtain ⟨ma, mc, rfl⟩ := hm.slice
  have hn := Lib.hid (rchal_any r y hr hy _ m w hm hmb hml)
  generalize chalN r y m = K at *
  generalize m.length = n at *
  clear hm hmb hr hy
  go_enter Tryd.func41, Tryd.ntmps41
  go_wp2_with (go_at_call 69; (with_reducible refine (hn.out).mono ?_); rintro e w' ⟨rfl, hb⟩; have hb' := Lib.hid hb; clear hb)
  go_ret2
  exact ⟨rfl, hb'.out⟩
theorem set2_world {w : World} {g : Nat} {a b x y : Value} {T : TypeId} (hg : w.heap[g]? = some (.cells #[a, b] T (0, 0))) : (w.setCell ⟨g, 0, none⟩ x).setCell ⟨g, 1, none⟩ y = w.setRow g #[x, y] := by
  have h := fun c => setRow_heap w g #[a, b] c T (0, 0) hg
  rw [setCell_eq hg, setCell_eq (h _), setRow2 hg]
  simp only [List.setIfInBounds_toArray, List.set_cons_succ, List.set_cons_zero]
set_option maxHeartbeats 1000000 in
theorem rsigned_any (a : Nat) (h : 1 ≤ a ∧ a < 500000003) (mv : Value) (m : List Int) (w : World) (hm : RdB w mv m) (hmb : Bytes m) (hml : m.length ≤ 9991) :
    Calls Tryd.prog 70 #[.int .u32 (a : Int), mv] w fun e w' => e = .returned (.agg #[.int .u32 (eN a m : Int), .int .u32 (sN a m : Int)]) ∧ Below w.heap.size w w' := by
  obtain ⟨ma, mc, rfl⟩ := hm.slice
  have hn := Lib.hid (fun wi (o : Below w.heap.size w wi) => rnonce_any a (by omega) _ m wi (hm.mono o) hmb hml)
  have hK := nonceN_lt a m
  have hk1 := Lib.hid (rkey_any (nonceN a m) (by omega)); have hk2 := Lib.hid (rkey_any a (by omega))
  have hc := Lib.hid (fun wi (o : Below w.heap.size w wi) => rchal_any (grp.pw 4 (nonceN a m)) (grp.pw 4 a) (pw_u32 _ _) (pw_u32 _ _) _ m wi (hm.mono o) hmb hml)
  have hE := eN_lt a m
  have hsc := Lib.hid (grp.scaled_any (eN a m) a hE (by omega))
  have hsu := Lib.hid (grp.sum_any (nonceN a m) (eN a m * a % 500000003) hK.2 (Nat.mod_lt _ (by decide)))
  have hSd : sN a m = (nonceN a m + eN a m * a % 500000003) % 500000003 := rfl
  have hEd : eN a m = chalN (grp.pw 4 (nonceN a m)) (grp.pw 4 a) m := rfl
  rw [← hSd] at hsu
  rw [← hEd] at hc
  generalize eN a m = E at *
  generalize sN a m = S at *
  generalize grp.pw 4 (nonceN a m) = X1 at *
  generalize grp.pw 4 a = X2 at *
  generalize nonceN a m = K at *
  generalize E * a % 500000003 = PP at *
  generalize m.length = n at *
  have hrow := Lib.hid (heap_alloc_new w (.cells #[.int .u32 0, .int .u32 0] 60))
  have hBa := Lib.hid (below_a w (.cells #[.int .u32 0, .int .u32 0] 60))
  clear h hm hmb hK hE hSd hEd
  go_enter Tryd.func70, Tryd.ntmps70
  go_wp2_with (go_at_call 68; (with_reducible refine (hn.out _ hBa.out).mono ?_); rintro e w1 ⟨rfl, hb1⟩; have hb1' := Lib.hid hb1; clear hb1; refine Stop.go'' _ ?_)
  refine StopP.go ?_
  have hz1 := hb1'.out.size
  have hB1 := Lib.hid (hBa.out.trans (hb1'.out.mono (by simp)))
  have r1 := Lib.hid ((hb1'.out.block w.heap.size (by simp)).trans hrow.out)
  have hz := (Array.getElem?_eq_some_iff.1 r1.out).1
  clear hb1' hrow hz1
  go_wp2_with (first | (go_at_call 67; (first | (with_reducible refine (hk1.out _).mono ?_) | (with_reducible refine (hk2.out _).mono ?_)); rintro e w' ⟨rfl, rfl⟩) | (go_at_call 69; (with_reducible refine (hc.out _ hB1.out).mono ?_); rintro e w2 ⟨rfl, hb2⟩; have hb2' := Lib.hid hb2; clear hb2; refine Stop.go'' _ ?_))
  refine StopP.go ?_
  have hB2 := Lib.hid (hB1.out.trans (hb2'.out.mono (by omega)))
  have r2 := Lib.hid ((hb2'.out.block w.heap.size hz).trans r1.out)
  clear hb2' r1 hB1 hz
  go_wp2_with (first | (go_at_call 87; (with_reducible refine (hsc.out _).mono ?_); rintro e w' ⟨rfl, rfl⟩) | (go_at_call 86; (with_reducible refine (hsu.out _).mono ?_); rintro e w' ⟨rfl, rfl⟩) | (refine wpList_store_row rfl 60 _ _ rfl w.heap.size #[.int .u32 (E : Int), .int .u32 (S : Int)] rfl rfl 60 _ r2.out (sig_info2 _ _) rfl (two_one _ _) ?_))
  try simp only [Exit.inBlock, Exit.then]
  exact bodyPost_ret (results_cell_row rfl _ _ w.heap.size 60 _ _ _ rfl (setRow_heap _ _ _ _ _ _ r2.out) Tryd.underlying60 rfl (sig_info2 _ _)) rfl ⟨rfl, below_setRow' hB2.out (Nat.le_refl _) _⟩
theorem rsign_ok (a : Nat) (h : 1 ≤ a ∧ a < 500000003) (mv : Value) (m : List Int) (w : World) (hm : RdB w mv m) (hmb : Bytes m) (hml : m.length ≤ 9991) :
    Calls Tryd.prog 42 #[.int .u32 (a : Int), mv] w fun e w' => e = .returned (.tuple #[.agg #[.int .u32 (eN a m : Int), .int .u32 (sN a m : Int)], .int .i64 0]) ∧ Below w.heap.size w w' := by
  have hc := Lib.hid (rcheck_ok a h)
  obtain ⟨ma, mc, rfl⟩ := hm.slice
  have hn := Lib.hid (fun wi (o : Below w.heap.size w wi) => rsigned_any a h _ m wi (hm.mono o) hmb hml)
  generalize eN a m = E at *
  generalize sN a m = S at *
  generalize m.length = n at *
  have hrow := Lib.hid (heap_alloc_new w (.cells #[.int .u32 0, .int .u32 0] 60))
  have hBa := Lib.hid (below_a w (.cells #[.int .u32 0, .int .u32 0] 60))
  clear h hm hmb
  go_enter Tryd.func42, Tryd.ntmps42
  go_wp2_with (first | (go_at_call 43; (with_reducible refine (hc.out _).mono ?_); rintro e w' ⟨rfl, rfl⟩) | (go_at_call 70; (with_reducible refine (hn.out _ hBa.out).mono ?_); rintro e w1 ⟨rfl, hb1⟩; have r1 := Lib.hid ((hb1.block w.heap.size (by simp)).trans hrow.out); have hB1 := Lib.hid (hBa.out.trans (hb1.mono (by simp))); clear hb1) | (refine wpList_store_row rfl 60 _ _ rfl w.heap.size #[.int .u32 (E : Int), .int .u32 (S : Int)] rfl rfl 60 _ r1.out (sig_info2 _ _) rfl (two_one _ _) ?_))
  try simp only [Exit.inBlock, Exit.then]
  exact bodyPost_ret (results_row_tmp rfl _ _ w.heap.size 60 _ _ _ rfl (setRow_heap _ _ _ _ _ _ r1.out) Tryd.underlying60 rfl (sig_info2 _ _)) rfl ⟨rfl, below_setRow' hB1.out (Nat.le_refl _) _⟩
theorem rsign_bad (a : Nat) (ha : a < 4294967296) (h : ¬ (1 ≤ a ∧ a < 500000003)) (mv : Value) (w : World) :
    Calls Tryd.prog 42 #[.int .u32 (a : Int), mv] w fun e w' => e = .returned (.tuple #[.agg #[.int .u32 0, .int .u32 0], .int .i64 2]) ∧ Below w.heap.size w w' := by
  have hc := Lib.hid (rcheck_bad a ha h)
  have hrow := Lib.hid (heap_alloc_new w (.cells #[.int .u32 0, .int .u32 0] 60))
  have hBa := Lib.hid (below_a w (.cells #[.int .u32 0, .int .u32 0] 60))
  clear h ha
  go_enter Tryd.func42, Tryd.ntmps42
  go_wp2_with (first | (go_at_call 43; (with_reducible refine (hc.out _).mono ?_); rintro e w' ⟨rfl, rfl⟩) | (refine wpList_store_row rfl 60 _ _ rfl w.heap.size #[.int .u32 0, .int .u32 0] rfl rfl 60 _ hrow.out (sig_info2 _ _) rfl (two_one _ _) ?_))
  try simp only [Exit.inBlock, Exit.then]
  exact bodyPost_ret (results_row_tmp rfl _ _ w.heap.size 60 _ _ _ rfl (setRow_heap _ _ _ _ _ _ hrow.out) Tryd.underlying60 rfl (sig_info2 _ _)) rfl ⟨rfl, below_setRow' hBa.out (Nat.le_refl _) _⟩
theorem rsign_long (a : Nat) (h : 1 ≤ a ∧ a < 500000003) (ma : Option Addr) (n c : Nat) (hn : 9991 < n) (w : World) :
    Calls Tryd.prog 42 #[.int .u32 (a : Int), .slice ma n c] w fun e w' => e = .returned (.tuple #[.agg #[.int .u32 0, .int .u32 0], .int .i64 4]) ∧ Below w.heap.size w w' := by
  have hc := Lib.hid (rcheck_ok a h)
  have hrow := Lib.hid (heap_alloc_new w (.cells #[.int .u32 0, .int .u32 0] 60))
  have hBa := Lib.hid (below_a w (.cells #[.int .u32 0, .int .u32 0] 60))
  clear h
  go_enter Tryd.func42, Tryd.ntmps42
  go_wp2_with (first | (go_at_call 43; (with_reducible refine (hc.out _).mono ?_); rintro e w' ⟨rfl, rfl⟩) | (refine wpList_store_row rfl 60 _ _ rfl w.heap.size #[.int .u32 0, .int .u32 0] rfl rfl 60 _ hrow.out (sig_info2 _ _) rfl (two_one _ _) ?_))
  try simp only [Exit.inBlock, Exit.then]
  exact bodyPost_ret (results_row_tmp rfl _ _ w.heap.size 60 _ _ _ rfl (setRow_heap _ _ _ _ _ _ hrow.out) Tryd.underlying60 rfl (sig_info2 _ _)) rfl ⟨rfl, below_setRow' hBa.out (Nat.le_refl _) _⟩
/-- What both programs answer to a secret, two numbers and a message. -/
structure BothM (w : World) (a r y : Nat) (mv : Value) where
  (A A' K K' C C' E S F T : Int)
  pub1 : ∀ wi, Calls Tryd.prog 32 #[.int .u32 (a : Int)] wi fun e w' => e = .returned (.tuple #[.int .u32 A, .int .i64 A']) ∧ Below wi.heap.size wi w'
  pub2 : ∀ wi, Calls Tryd.prog 39 #[.int .u32 (a : Int)] wi fun e w' => e = .returned (.tuple #[.int .u32 A, .int .i64 A']) ∧ Below wi.heap.size wi w'
  non1 : ∀ wi, Below w.heap.size w wi → Calls Tryd.prog 33 #[.int .u32 (a : Int), mv] wi fun e w' => e = .returned (.tuple #[.int .u32 K, .int .i64 K']) ∧ Below wi.heap.size wi w'
  non2 : ∀ wi, Below w.heap.size w wi → Calls Tryd.prog 40 #[.int .u32 (a : Int), mv] wi fun e w' => e = .returned (.tuple #[.int .u32 K, .int .i64 K']) ∧ Below wi.heap.size wi w'
  cha1 : ∀ wi, Below w.heap.size w wi → Calls Tryd.prog 34 #[.int .u32 (r : Int), .int .u32 (y : Int), mv] wi fun e w' => e = .returned (.tuple #[.int .u32 C, .int .i64 C']) ∧ Below wi.heap.size wi w'
  cha2 : ∀ wi, Below w.heap.size w wi → Calls Tryd.prog 41 #[.int .u32 (r : Int), .int .u32 (y : Int), mv] wi fun e w' => e = .returned (.tuple #[.int .u32 C, .int .i64 C']) ∧ Below wi.heap.size wi w'
  sig1 : ∀ wi, Below w.heap.size w wi → Calls Tryd.prog 35 #[.int .u32 (a : Int), mv] wi fun e w' => e = .returned (.tuple #[.agg #[.int .u32 E, .int .u32 S], .int .i64 F]) ∧ Below wi.heap.size wi w'
  sig2 : ∀ wi, Below w.heap.size w wi → Calls Tryd.prog 42 #[.int .u32 (a : Int), mv] wi fun e w' => e = .returned (.tuple #[.agg #[.int .u32 E, .int .u32 S], .int .i64 F]) ∧ Below wi.heap.size wi w'
  che1 : ∀ wi, Calls Tryd.prog 37 #[.int .u32 (a : Int)] wi fun e w' => e = .returned (.int .i64 T) ∧ Below wi.heap.size wi w'
  che2 : ∀ wi, Calls Tryd.prog 43 #[.int .u32 (a : Int)] wi fun e w' => e = .returned (.int .i64 T) ∧ Below wi.heap.size wi w'
theorem same_below {w w' : World} (h : w' = w) : Below w.heap.size w w' := by subst h; exact Below.refl _ _
theorem toB {f : FuncId} {args : Array Value} {w : World} {v : Value} (h : Calls Tryd.prog f args w fun e w' => e = .returned v ∧ w' = w) : Calls Tryd.prog f args w fun e w' => e = .returned v ∧ Below w.heap.size w w' := h.mono fun _ _ ⟨h1, h2⟩ => ⟨h1, same_below h2⟩
theorem bothM (a r y : Nat) (ha : a < 4294967296) (hr : r < 4294967296) (hy : y < 4294967296) (mv : Value) (m : List Int) (w : World) (hm : RdB w mv m) (hmb : Bytes m) (hgl : GlobW w) : Nonempty (BothM w a r y mv) := by
  obtain ⟨ma, mc, rfl⟩ := hm.slice
  by_cases h : 1 ≤ a ∧ a < 500000003
  · by_cases hl : m.length ≤ 9991
    · exact ⟨{ A := _, A' := 0, K := _, K' := 0, C := _, C' := 0, E := _, S := _, F := 0, T := 0
               pub1 := public_ok a h
               pub2 := fun wi => toB (rpublic_ok a h wi)
               non1 := fun wi o => nonce_ok a h _ m wi (hm.mono o) hmb hl (hgl.mono o)
               non2 := fun wi o => rnonce_ok a h _ m wi (hm.mono o) hmb hl
               cha1 := fun wi o => chal_ok r y hr hy _ m wi (hm.mono o) hmb hl (hgl.mono o)
               cha2 := fun wi o => rchal_ok r y hr hy _ m wi (hm.mono o) hmb hl
               sig1 := fun wi o => sign_ok a h _ m wi (hm.mono o) hmb hl (hgl.mono o)
               sig2 := fun wi o => rsign_ok a h _ m wi (hm.mono o) hmb hl
               che1 := fun wi => toB (check_ok a h wi)
               che2 := fun wi => toB (rcheck_ok a h wi) }⟩
    · have hl2 : 9991 < m.length := by omega
      exact ⟨{ A := _, A' := 0, K := 0, K' := 4, C := 0, C' := 4, E := 0, S := 0, F := 4, T := 0
               pub1 := public_ok a h
               pub2 := fun wi => toB (rpublic_ok a h wi)
               non1 := fun wi o => toB (nonce_long a h ma _ mc hl2 wi)
               non2 := fun wi o => toB (rnonce_long a h ma _ mc hl2 wi)
               cha1 := fun wi o => toB (chal_long r y ma _ mc hl2 wi)
               cha2 := fun wi o => toB (rchal_long r y ma _ mc hl2 wi)
               sig1 := fun wi o => sign_long a h ma _ mc hl2 wi
               sig2 := fun wi o => rsign_long a h ma _ mc hl2 wi
               che1 := fun wi => toB (check_ok a h wi)
               che2 := fun wi => toB (rcheck_ok a h wi) }⟩
  · by_cases hl : m.length ≤ 9991
    · exact ⟨{ A := 0, A' := 2, K := 0, K' := 2, C := _, C' := 0, E := 0, S := 0, F := 2, T := 2
               pub1 := fun wi => toB (public_bad a h wi)
               pub2 := fun wi => toB (rpublic_bad a ha h wi)
               non1 := fun wi o => toB (nonce_bad a h _ wi)
               non2 := fun wi o => toB (rnonce_bad a ha h _ wi)
               cha1 := fun wi o => chal_ok r y hr hy _ m wi (hm.mono o) hmb hl (hgl.mono o)
               cha2 := fun wi o => rchal_ok r y hr hy _ m wi (hm.mono o) hmb hl
               sig1 := fun wi o => sign_bad a h ma _ mc wi
               sig2 := fun wi o => rsign_bad a ha h _ wi
               che1 := fun wi => toB (check_bad a h wi)
               che2 := fun wi => toB (rcheck_bad a ha h wi) }⟩
    · have hl2 : 9991 < m.length := by omega
      exact ⟨{ A := 0, A' := 2, K := 0, K' := 2, C := 0, C' := 4, E := 0, S := 0, F := 2, T := 2
               pub1 := fun wi => toB (public_bad a h wi)
               pub2 := fun wi => toB (rpublic_bad a ha h wi)
               non1 := fun wi o => toB (nonce_bad a h _ wi)
               non2 := fun wi o => toB (rnonce_bad a ha h _ wi)
               cha1 := fun wi o => toB (chal_long r y ma _ mc hl2 wi)
               cha2 := fun wi o => toB (rchal_long r y ma _ mc hl2 wi)
               sig1 := fun wi o => sign_bad a h ma _ mc wi
               sig2 := fun wi o => rsign_bad a ha h _ wi
               che1 := fun wi => toB (check_bad a h wi)
               che2 := fun wi => toB (rcheck_bad a ha h wi) }⟩
end Go.Proofs.YtfncepfjnljhlaaDoor

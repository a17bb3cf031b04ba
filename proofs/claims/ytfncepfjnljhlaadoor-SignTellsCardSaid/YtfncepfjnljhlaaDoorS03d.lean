/- Contracts of sign.Sign, right and Verify. -/
import Derived.Test.YtfncepfjnljhlaaDoorS03c
namespace Go.Proofs.YtfncepfjnljhlaaDoor
open Go.RowKit Go.YtfncepfjnljhlaaDoor
set_option linter.unusedVariables false
/-- The world 'wi' has what 'w' had, and a row of its own. -/
def Row1 (w wi : World) (cs : Array Value) (T : TypeId) : Prop := Below w.heap.size w wi ∧ wi.heap[w.heap.size]? = some (.cells cs T (0, 0))
theorem Row1.start (w : World) (cs : Array Value) (T : TypeId) : Row1 w (w.alloc (.cells cs T)) cs T := ⟨(Below.refl _ _).alloc (Nat.le_refl _) _, heap_alloc_new w _⟩
theorem Row1.step {w wi wj : World} {cs : Array Value} {T : TypeId} (h : Row1 w wi cs T) (hb : Below wi.heap.size wi wj) : Row1 w wj cs T :=
  ⟨h.1.trans (hb.mono h.1.size), (hb.block _ (Array.getElem?_eq_some_iff.1 h.2).1).trans h.2⟩
theorem Row1.set {w wi : World} {cs : Array Value} {T : TypeId} (h : Row1 w wi cs T) (ds : Array Value) : Row1 w (wi.setRow w.heap.size ds) ds T :=
  ⟨below_setRow' (g := w.heap.size) h.1 (Nat.le_refl _) _, setRow_heap _ _ _ _ _ _ h.2⟩
def eN (a : Nat) (m : List Int) : Nat := chalN (grp.pw 4 (nonceN a m)) (grp.pw 4 a) m
def sN (a : Nat) (m : List Int) : Nat := (nonceN a m + eN a m * a % 500000003) % 500000003
theorem nonceN_lt (a : Nat) (m : List Int) : 1 ≤ nonceN a m ∧ nonceN a m < 500000003 := by unfold nonceN; omega
theorem chalN_lt (r y : Nat) (m : List Int) : chalN r y m < 500000003 := Nat.mod_lt _ (by decide)
theorem pw_u32 (a n : Nat) : grp.pw a n < 4294967296 := grp.GP_u32 (grp.pw_lt a n)
theorem two_one (a b : Int) : (#[Value.int .u32 a, Value.int .u32 b] : Array Value).all (·.oneCell') = true := u32s_one [a, b]
theorem sig_info : (Tryd.prog.info? 60).map (·.size) = some 2 := by kernel_rfl
set_option maxHeartbeats 1000000 in
theorem sign_ok (a : Nat) (h : 1 ≤ a ∧ a < 500000003) (mv : Value) (m : List Int) (w : World) (hm : RdB w mv m) (hmb : Bytes m) (hml : m.length ≤ 9991) (hgl : GlobW w) :
    Calls Tryd.prog 35 #[.int .u32 (a : Int), mv] w fun e w' => e = .returned (.tuple #[.agg #[.int .u32 (eN a m : Int), .int .u32 (sN a m : Int)], .int .i64 0]) ∧ Below w.heap.size w w' := by
  obtain ⟨ma, mc, rfl⟩ := hm.slice
  unfold sN
  have hk := nonceN_lt a m
  have hN := Lib.hid (fun wi (o : Row1 w wi #[.int .u32 0, .int .u32 0] 60) => nonce_ok a h _ m wi (hm.mono o.1) hmb hml (hgl.mono o.1))
  have hC := Lib.hid (fun wi (o : Row1 w wi #[.int .u32 0, .int .u32 0] 60) => chal_ok (grp.pw 4 (nonceN a m)) (grp.pw 4 a) (pw_u32 _ _) (pw_u32 _ _) _ m wi (hm.mono o.1) hmb hml (hgl.mono o.1))
  have hE : chalN (grp.pw 4 (nonceN a m)) (grp.pw 4 a) m = eN a m := rfl
  rw [hE] at hC
  have he := chalN_lt (grp.pw 4 (nonceN a m)) (grp.pw 4 a) m
  rw [hE] at he
  clear hE
  generalize eN a m = E at *
  generalize nonceN a m = K at *
  have hK := Lib.hid (grp.base_any K (by omega)); have hA := Lib.hid (grp.base_any a (by omega))
  generalize grp.pw 4 K = R at *
  generalize grp.pw 4 a = Y at *
  have hT := Lib.hid (grp.times_ok E a he h.2)
  have hP := Lib.hid (grp.plus_ok K (E * a % 500000003) hk.2 (Nat.mod_lt _ (by decide)))
  generalize E * a % 500000003 = P at *
  generalize (K + P) % 500000003 = S at *
  have hR := Lib.hid (Row1.start w #[.int .u32 0, .int .u32 0] 60)
  generalize m.length = n at *
  have ha := h.1; have hk1 := hk.1; have hk2 := hk.2
  have ha2 := h.2
  clear hm hmb hgl h hk
  go_enter Tryd.func35, Tryd.ntmps35
  go_wp2_with (first | (go_at_call 33; refine (hN.out _ hR.out).mono ?_; rintro e w' ⟨rfl, g⟩; have hR := Lib.hid (hR.out.step g); clear g) | (go_at_call 46; (first | (with_reducible refine (hK.out _).mono ?_) | (with_reducible refine (hA.out _).mono ?_)); rintro e w' ⟨rfl, g⟩; have hR := Lib.hid (hR.out.step g); clear g) | (go_at_call 34; refine (hC.out _ hR.out).mono ?_; rintro e w' ⟨rfl, g⟩; have hR := Lib.hid (hR.out.step g); clear g) | (go_at_call 64; refine (hT.out _).mono ?_; rintro e w' ⟨rfl, g⟩; have hR := Lib.hid (hR.out.step g); clear g) | (go_at_call 65; refine (hP.out _).mono ?_; rintro e w' ⟨rfl, g⟩; have hR := Lib.hid (hR.out.step g); clear g) | (refine wpList_store_row rfl 60 _ _ rfl w.heap.size #[.int .u32 (E : Int), .int .u32 (S : Int)] rfl rfl 60 _ hR.out.2 sig_info rfl (two_one _ _) ?_; have hR := Lib.hid (hR.out.set #[.int .u32 (E : Int), .int .u32 (S : Int)])))
  try simp only [Exit.inBlock, Exit.then]
  exact bodyPost_ret (results_row_tmp rfl _ _ w.heap.size 60 _ _ _ rfl hR.out.2 Tryd.underlying60 rfl sig_info) rfl ⟨rfl, hR.out.1⟩
theorem sign_bad (a : Nat) (h : ¬ (1 ≤ a ∧ a < 500000003)) (ma : Option Addr) (n c : Nat) (w : World) :
    Calls Tryd.prog 35 #[.int .u32 (a : Int), .slice ma n c] w fun e w' => e = .returned (.tuple #[.agg #[.int .u32 0, .int .u32 0], .int .i64 2]) ∧ Below w.heap.size w w' := by
  have hN := Lib.hid (fun wi => nonce_bad a h (.slice ma n c) wi)
  have hR := Lib.hid (Row1.start w #[.int .u32 0, .int .u32 0] 60)
  clear h
  go_enter Tryd.func35, Tryd.ntmps35
  go_wp2_with (first | (go_at_call 33; refine (hN.out _).mono ?_; rintro e w' ⟨rfl, rfl⟩) | (refine wpList_store_row rfl 60 _ _ rfl w.heap.size #[.int .u32 0, .int .u32 0] rfl rfl 60 _ hR.out.2 sig_info rfl (two_one _ _) ?_; have hR := Lib.hid (hR.out.set #[.int .u32 0, .int .u32 0])))
  try simp only [Exit.inBlock, Exit.then]
  exact bodyPost_ret (results_row_tmp rfl _ _ w.heap.size 60 _ _ _ rfl hR.out.2 Tryd.underlying60 rfl sig_info) rfl ⟨rfl, hR.out.1⟩
theorem sign_long (a : Nat) (h : 1 ≤ a ∧ a < 500000003) (ma : Option Addr) (n c : Nat) (hn : 9991 < n) (w : World) :
    Calls Tryd.prog 35 #[.int .u32 (a : Int), .slice ma n c] w fun e w' => e = .returned (.tuple #[.agg #[.int .u32 0, .int .u32 0], .int .i64 4]) ∧ Below w.heap.size w w' := by
  have hN := Lib.hid (fun wi => nonce_long a h ma n c hn wi)
  have hR := Lib.hid (Row1.start w #[.int .u32 0, .int .u32 0] 60)
  clear h hn
  go_enter Tryd.func35, Tryd.ntmps35
  go_wp2_with (first | (go_at_call 33; refine (hN.out _).mono ?_; rintro e w' ⟨rfl, rfl⟩) | (refine wpList_store_row rfl 60 _ _ rfl w.heap.size #[.int .u32 0, .int .u32 0] rfl rfl 60 _ hR.out.2 sig_info rfl (two_one _ _) ?_; have hR := Lib.hid (hR.out.set #[.int .u32 0, .int .u32 0])))
  try simp only [Exit.inBlock, Exit.then]
  exact bodyPost_ret (results_row_tmp rfl _ _ w.heap.size 60 _ _ _ rfl hR.out.2 Tryd.underlying60 rfl sig_info) rfl ⟨rfl, hR.out.1⟩
end Go.Proofs.YtfncepfjnljhlaaDoor

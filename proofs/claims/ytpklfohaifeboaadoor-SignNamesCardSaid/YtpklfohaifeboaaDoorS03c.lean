/- Contracts of sign.Public, Nonce, Challenge. Contracts of sign.Sign, right and Verify. Contracts of sign.right and Verify. -/
import Derived.Test.YtpklfohaifeboaaDoorS03a
import Derived.Test.YtpklfohaifeboaaDoorG
namespace Go.Proofs.YtpklfohaifeboaaDoor
open Go.RowKit Go.YtpklfohaifeboaaDoor
set_option linter.unusedVariables false
/-- The listed variables as they are laid. -/
def GlobW (w : World) : Prop := ∃ Tg Tf : TypeId, w.heap[2]? = some (.cells (u32s constW) Tg (0, 0)) ∧ w.heap[0]? = some (.cells firstW.cells Tf (0, 0))
theorem GlobW.mono {w w' : World} (h : GlobW w) (hb : Below w.heap.size w w') : GlobW w' := by
  obtain ⟨Tg, Tf, h1, h2⟩ := h
  exact ⟨Tg, Tf, (hb.block _ (Array.getElem?_eq_some_iff.1 h1).1).trans h1, (hb.block _ (Array.getElem?_eq_some_iff.1 h2).1).trans h2⟩
def hN (mark : Int) (nums m : List Int) : Nat := (hashF mark nums m).toNat
theorem hN_eq (mark : Int) (nums m : List Int) : hashF mark nums m = (hN mark nums m : Int) := by
  have h := numN_in (shaF (headF mark nums nums.length ++ m)) (shaF_bytes _) 8
  exact (Int.toNat_of_nonneg h.1).symm
def nonceN (a : Nat) (m : List Int) : Nat := hN 110 [(a : Int)] m % 500000002 + 1
def chalN (r y : Nat) (m : List Int) : Nat := hN 99 [(r : Int), (y : Int)] m % 500000003
theorem all32_1 (a : Nat) (ha : a < 4294967296) : All32 [(a : Int)] := all32_snoc [] _ (fun i => by simp [ith, In32]) ⟨by omega, by omega⟩
theorem all32_2 (a b : Nat) (ha : a < 4294967296) (hb : b < 4294967296) : All32 [(a : Int), (b : Int)] := all32_snoc [(a : Int)] _ (all32_1 a ha) ⟨by omega, by omega⟩
theorem hash1 (mark : Int) (hmk : 0 ≤ mark ∧ mark < 256) (a : Nat) (ha : a < 4294967296) (mv : Value) (m : List Int) (w : World) (hm : RdB w mv m) (hmb : Bytes m) (hml : m.length ≤ 9991) (hgl : GlobW w) :
    Calls Tryd.prog 44 #[.int .u8 mark, mv, .slice (some ⟨w.heap.size, 0, none⟩) 1 1] (w.alloc (.cells #[.int .u32 (a : Int)] 38)) fun e w' => e = .returned (.int .u64 (hN mark [(a : Int)] m : Int)) ∧ Below w.heap.size w w' := by
  have hB : Below w.heap.size w (w.alloc (.cells #[.int .u32 (a : Int)] 38)) := (Below.refl _ _).alloc (Nat.le_refl _) _
  obtain ⟨Tg, Tf, h1, h2⟩ := hgl.mono hB
  rw [← hN_eq]
  exact (hash_any (Tg := Tg) (Tf := Tf) mark [(a : Int)] m w.heap.size _ mv _ (hm.mono hB) hmb hml hmk (by simp) (all32_1 a ha) (heap_alloc_new w _) h1 h2).mono fun e w' ⟨he, hb⟩ => ⟨he, hB.trans (hb.mono (by simp))⟩
theorem hash2 (mark : Int) (hmk : 0 ≤ mark ∧ mark < 256) (a b : Nat) (ha : a < 4294967296) (hb : b < 4294967296) (mv : Value) (m : List Int) (w : World) (hm : RdB w mv m) (hmb : Bytes m) (hml : m.length ≤ 9991) (hgl : GlobW w) :
    Calls Tryd.prog 44 #[.int .u8 mark, mv, .slice (some ⟨w.heap.size, 0, none⟩) 2 2] (w.alloc (.cells #[.int .u32 (a : Int), .int .u32 (b : Int)] 38)) fun e w' => e = .returned (.int .u64 (hN mark [(a : Int), (b : Int)] m : Int)) ∧ Below w.heap.size w w' := by
  have hB : Below w.heap.size w (w.alloc (.cells #[.int .u32 (a : Int), .int .u32 (b : Int)] 38)) := (Below.refl _ _).alloc (Nat.le_refl _) _
  obtain ⟨Tg, Tf, h1, h2⟩ := hgl.mono hB
  rw [← hN_eq]
  exact (hash_any (Tg := Tg) (Tf := Tf) mark [(a : Int), (b : Int)] m w.heap.size _ mv _ (hm.mono hB) hmb hml hmk (by simp) (all32_2 a b ha hb) (heap_alloc_new w _) h1 h2).mono fun e w' ⟨he, hb⟩ => ⟨he, hB.trans (hb.mono (by simp))⟩
theorem ret_pair {a b c : Int} (h : a = b) : Ending.returned (.tuple #[.int .u32 a, .int .i64 c]) = .returned (.tuple #[.int .u32 b, .int .i64 c]) := by rw [h]
theorem check_ok (a : Nat) (h : 1 ≤ a ∧ a < 500000003) (w : World) : Calls Tryd.prog 29 #[.int .u32 (a : Int)] w fun e w' => e = .returned (.int .i64 0) ∧ w' = w := by
  have := check_any a w; rw [if_pos h] at this; exact this
theorem check_bad (a : Nat) (h : ¬ (1 ≤ a ∧ a < 500000003)) (w : World) : Calls Tryd.prog 29 #[.int .u32 (a : Int)] w fun e w' => e = .returned (.int .i64 2) ∧ w' = w := by
  have := check_any a w; rw [if_neg h] at this; exact this
theorem public_ok (a : Nat) (h : 1 ≤ a ∧ a < 500000003) (w : World) : Calls Tryd.prog 24 #[.int .u32 (a : Int)] w fun e w' => e = .returned (.tuple #[.int .u32 (grp.pw 4 a : Int), .int .i64 0]) ∧ Below w.heap.size w w' := by
  have hc := Lib.hid (check_ok a h); have hp := Lib.hid (grp.base_any a (by omega))
  have h0 : 1 ≤ a := h.1; have h1 : a < 4294967296 := by omega
  clear h
  go_enter Tryd.func24, Tryd.ntmps24
  go_wp2_with (first | (go_at_call 29; refine (hc.out _).mono ?_; rintro e w' ⟨rfl, rfl⟩) | (go_at_call 42; refine (hp.out _).mono ?_; rintro e w' ⟨rfl, g1⟩; have g1' := Lib.hid g1; clear g1))
  go_ret2
  exact ⟨rfl, g1'.out⟩
theorem public_bad (a : Nat) (h : ¬ (1 ≤ a ∧ a < 500000003)) (w : World) : Calls Tryd.prog 24 #[.int .u32 (a : Int)] w fun e w' => e = .returned (.tuple #[.int .u32 0, .int .i64 2]) ∧ w' = w := by
  have hc := Lib.hid (check_bad a h)
  clear h
  go_enter Tryd.func24, Tryd.ntmps24
  go_wp2_with (first | (go_at_call 29; refine (hc.out _).mono ?_; rintro e w' ⟨rfl, rfl⟩))
  go_ret2
  exact ⟨rfl, rfl⟩
theorem nonce_bad (a : Nat) (h : ¬ (1 ≤ a ∧ a < 500000003)) (mv : Value) (w : World) : Calls Tryd.prog 25 #[.int .u32 (a : Int), mv] w fun e w' => e = .returned (.tuple #[.int .u32 0, .int .i64 2]) ∧ w' = w := by
  have hc := Lib.hid (check_bad a h)
  clear h
  go_enter Tryd.func25, Tryd.ntmps25
  go_wp2_with (first | (go_at_call 29; refine (hc.out _).mono ?_; rintro e w' ⟨rfl, rfl⟩))
  go_ret2
  exact ⟨rfl, rfl⟩
theorem nonce_long (a : Nat) (h : 1 ≤ a ∧ a < 500000003) (ma : Option Addr) (n c : Nat) (hn : 9991 < n) (w : World) : Calls Tryd.prog 25 #[.int .u32 (a : Int), .slice ma n c] w fun e w' => e = .returned (.tuple #[.int .u32 0, .int .i64 4]) ∧ w' = w := by
  have hc := Lib.hid (check_ok a h)
  have hl0 := tooLong_any ma n c
  rw [decide_eq_true hn] at hl0
  have hl := Lib.hid hl0
  clear h hl0 hn
  go_enter Tryd.func25, Tryd.ntmps25
  go_wp2_with (first | (go_at_call 29; refine (hc.out _).mono ?_; rintro e w' ⟨rfl, rfl⟩) | (go_at_call 43; refine (hl.out _).mono ?_; rintro e w' ⟨rfl, rfl⟩))
  go_ret2
  exact ⟨rfl, rfl⟩
theorem nonce_ok (a : Nat) (h : 1 ≤ a ∧ a < 500000003) (mv : Value) (m : List Int) (w : World) (hm : RdB w mv m) (hmb : Bytes m) (hml : m.length ≤ 9991) (hgl : GlobW w) :
    Calls Tryd.prog 25 #[.int .u32 (a : Int), mv] w fun e w' => e = .returned (.tuple #[.int .u32 (nonceN a m : Int), .int .i64 0]) ∧ Below w.heap.size w w' := by
  obtain ⟨ma, mc, rfl⟩ := hm.slice
  have hc := Lib.hid (check_ok a h)
  have hl0 := tooLong_any ma m.length mc
  rw [decide_eq_false (by omega)] at hl0
  have hl := Lib.hid hl0
  have hh := Lib.hid (hash1 110 (by decide) a (by omega) _ m w hm hmb hml hgl)
  unfold nonceN
  clear h hl0 hm hmb hml hgl
  generalize hN 110 [(a : Int)] m = H at *
  generalize m.length = n at *
  go_enter Tryd.func25, Tryd.ntmps25
  go_wp2_with (first | (go_at_call 29; refine (hc.out _).mono ?_; rintro e w' ⟨rfl, rfl⟩) | (go_at_call 43; refine (hl.out _).mono ?_; rintro e w' ⟨rfl, rfl⟩) | (go_at_call 44; refine (hh.out).mono ?_; rintro e w' ⟨rfl, g1⟩; have g1' := Lib.hid g1; clear g1))
  go_ret2
  exact ⟨ret_pair (by omega), g1'.out⟩
theorem chal_long (r y : Int) (ma : Option Addr) (n c : Nat) (hn : 9991 < n) (w : World) : Calls Tryd.prog 26 #[.int .u32 r, .int .u32 y, .slice ma n c] w fun e w' => e = .returned (.tuple #[.int .u32 0, .int .i64 4]) ∧ w' = w := by
  have hl0 := tooLong_any ma n c
  rw [decide_eq_true hn] at hl0
  have hl := Lib.hid hl0
  clear hl0 hn
  go_enter Tryd.func26, Tryd.ntmps26
  go_wp2_with (first | (go_at_call 43; refine (hl.out _).mono ?_; rintro e w' ⟨rfl, rfl⟩))
  go_ret2
  exact ⟨rfl, rfl⟩
theorem chal_ok (r y : Nat) (hr : r < 4294967296) (hy : y < 4294967296) (mv : Value) (m : List Int) (w : World) (hm : RdB w mv m) (hmb : Bytes m) (hml : m.length ≤ 9991) (hgl : GlobW w) :
    Calls Tryd.prog 26 #[.int .u32 (r : Int), .int .u32 (y : Int), mv] w fun e w' => e = .returned (.tuple #[.int .u32 (chalN r y m : Int), .int .i64 0]) ∧ Below w.heap.size w w' := by
  obtain ⟨ma, mc, rfl⟩ := hm.slice
  have hl0 := tooLong_any ma m.length mc
  rw [decide_eq_false (by omega)] at hl0
  have hl := Lib.hid hl0
  have hh := Lib.hid (hash2 99 (by decide) r y hr hy _ m w hm hmb hml hgl)
  unfold chalN
  clear hr hy hl0 hm hmb hml hgl
  generalize hN 99 [(r : Int), (y : Int)] m = H at *
  generalize m.length = n at *
  go_enter Tryd.func26, Tryd.ntmps26
  go_wp2_with (first | (go_at_call 43; refine (hl.out _).mono ?_; rintro e w' ⟨rfl, rfl⟩) | (go_at_call 44; refine (hh.out).mono ?_; rintro e w' ⟨rfl, g1⟩; have g1' := Lib.hid g1; clear g1))
  go_ret2
  exact ⟨ret_pair (by omega), g1'.out⟩
end Go.Proofs.YtpklfohaifeboaaDoor
namespace Go.Proofs.YtpklfohaifeboaaDoor
open Go.RowKit Go.YtpklfohaifeboaaDoor
set_option linter.unusedVariables false
/-- The world 'wi' has what 'w' had, and a row of its own. -/
def Row1 (w wi : World) (cs : Array Value) (T : TypeId) : Prop := Below w.heap.size w wi ∧ wi.heap[w.heap.size]? = some (.cells cs T (0, 0))
theorem Row1.start (w : World) (cs : Array Value) (T : TypeId) : Row1 w (w.alloc (.cells cs T)) cs T := ⟨(Below.refl _ _).alloc (Nat.le_refl _) _, heap_alloc_new w _⟩
theorem Row1.step {w wi wj : World} {cs : Array Value} {T : TypeId} (h : Row1 w wi cs T) (hb : Below wi.heap.size wi wj) : Row1 w wj cs T :=
  ⟨h.1.trans (hb.mono h.1.size), (hb.block _ (Array.getElem?_eq_some_iff.1 h.2).1).trans h.2⟩
theorem Row1.set {w wi : World} {cs : Array Value} {T : TypeId} (h : Row1 w wi cs T) (ds : Array Value) : Row1 w (wi.setRow w.heap.size ds) ds T :=
  ⟨below_setRow' (g := w.heap.size) h.1 (Nat.le_refl _) _, setRow_heap _ _ _ _ _ _ h.2⟩
def eN (a : Nat) (m : List Int) : Nat := chalN (grp.pw 4 (nonceN a m)) (grp.pw 4 a) m
def sN (a : Nat) (m : List Int) : Nat := (nonceN a m + eN a m * a % 500000003) % 500000003
theorem nonceN_lt (a : Nat) (m : List Int) : 1 ≤ nonceN a m ∧ nonceN a m < 500000003 := by unfold nonceN; omega
theorem chalN_lt (r y : Nat) (m : List Int) : chalN r y m < 500000003 := Nat.mod_lt _ (by decide)
theorem pw_u32 (a n : Nat) : grp.pw a n < 4294967296 := grp.GP_u32 (grp.pw_lt a n)
theorem two_one (a b : Int) : (#[Value.int .u32 a, Value.int .u32 b] : Array Value).all (·.oneCell') = true := u32s_one [a, b]
theorem sig_info : (Tryd.prog.info? 58).map (·.size) = some 2 := by kernel_rfl
set_option maxHeartbeats 1000000 in
theorem sign_ok (a : Nat) (h : 1 ≤ a ∧ a < 500000003) (mv : Value) (m : List Int) (w : World) (hm : RdB w mv m) (hmb : Bytes m) (hml : m.length ≤ 9991) (hgl : GlobW w) :
    Calls Tryd.prog 27 #[.int .u32 (a : Int), mv] w fun e w' => e = .returned (.tuple #[.agg #[.int .u32 (eN a m : Int), .int .u32 (sN a m : Int)], .int .i64 0]) ∧ Below w.heap.size w w' := by
  obtain ⟨ma, mc, rfl⟩ := hm.slice
  unfold sN
  have hk := nonceN_lt a m
  have hN := Lib.hid (fun wi (o : Row1 w wi #[.int .u32 0, .int .u32 0] 58) => nonce_ok a h _ m wi (hm.mono o.1) hmb hml (hgl.mono o.1))
  have hC := Lib.hid (fun wi (o : Row1 w wi #[.int .u32 0, .int .u32 0] 58) => chal_ok (grp.pw 4 (nonceN a m)) (grp.pw 4 a) (pw_u32 _ _) (pw_u32 _ _) _ m wi (hm.mono o.1) hmb hml (hgl.mono o.1))
  have hE : chalN (grp.pw 4 (nonceN a m)) (grp.pw 4 a) m = eN a m := rfl
  rw [hE] at hC
  have he := chalN_lt (grp.pw 4 (nonceN a m)) (grp.pw 4 a) m
  rw [hE] at he
  clear hE
  generalize eN a m = E at *
  generalize nonceN a m = K at *
  have hK := Lib.hid (grp.base_any K (by omega)); have hA := Lib.hid (grp.base_any a (by omega))
  generalize grp.pw 4 K = R at *
  generalize grp.pw 4 a = Y at *
  have hT := Lib.hid (grp.times_ok E a he h.2)
  have hP := Lib.hid (grp.plus_ok K (E * a % 500000003) hk.2 (Nat.mod_lt _ (by decide)))
  generalize E * a % 500000003 = P at *
  generalize (K + P) % 500000003 = S at *
  have hR := Lib.hid (Row1.start w #[.int .u32 0, .int .u32 0] 58)
  generalize m.length = n at *
  have ha := h.1; have hk1 := hk.1; have hk2 := hk.2
  have ha2 := h.2
  clear hm hmb hgl h hk
  go_enter Tryd.func27, Tryd.ntmps27
  go_wp2_with (first | (go_at_call 25; refine (hN.out _ hR.out).mono ?_; rintro e w' ⟨rfl, g⟩; have hR := Lib.hid (hR.out.step g); clear g) | (go_at_call 42; (first | (with_reducible refine (hK.out _).mono ?_) | (with_reducible refine (hA.out _).mono ?_)); rintro e w' ⟨rfl, g⟩; have hR := Lib.hid (hR.out.step g); clear g) | (go_at_call 26; refine (hC.out _ hR.out).mono ?_; rintro e w' ⟨rfl, g⟩; have hR := Lib.hid (hR.out.step g); clear g) | (go_at_call 45; refine (hT.out _).mono ?_; rintro e w' ⟨rfl, g⟩; have hR := Lib.hid (hR.out.step g); clear g) | (go_at_call 46; refine (hP.out _).mono ?_; rintro e w' ⟨rfl, g⟩; have hR := Lib.hid (hR.out.step g); clear g) | (refine wpList_store_row rfl 58 _ _ rfl w.heap.size #[.int .u32 (E : Int), .int .u32 (S : Int)] rfl rfl 58 _ hR.out.2 sig_info rfl (two_one _ _) ?_; have hR := Lib.hid (hR.out.set #[.int .u32 (E : Int), .int .u32 (S : Int)])))
  try simp only [Exit.inBlock, Exit.then]
  exact bodyPost_ret (results_row_tmp rfl _ _ w.heap.size 58 _ _ _ rfl hR.out.2 Tryd.underlying58 rfl sig_info) rfl ⟨rfl, hR.out.1⟩
theorem sign_bad (a : Nat) (h : ¬ (1 ≤ a ∧ a < 500000003)) (ma : Option Addr) (n c : Nat) (w : World) :
    Calls Tryd.prog 27 #[.int .u32 (a : Int), .slice ma n c] w fun e w' => e = .returned (.tuple #[.agg #[.int .u32 0, .int .u32 0], .int .i64 2]) ∧ Below w.heap.size w w' := by
  have hN := Lib.hid (fun wi => nonce_bad a h (.slice ma n c) wi)
  have hR := Lib.hid (Row1.start w #[.int .u32 0, .int .u32 0] 58)
  clear h
  go_enter Tryd.func27, Tryd.ntmps27
  go_wp2_with (first | (go_at_call 25; refine (hN.out _).mono ?_; rintro e w' ⟨rfl, rfl⟩) | (refine wpList_store_row rfl 58 _ _ rfl w.heap.size #[.int .u32 0, .int .u32 0] rfl rfl 58 _ hR.out.2 sig_info rfl (two_one _ _) ?_; have hR := Lib.hid (hR.out.set #[.int .u32 0, .int .u32 0])))
  try simp only [Exit.inBlock, Exit.then]
  exact bodyPost_ret (results_row_tmp rfl _ _ w.heap.size 58 _ _ _ rfl hR.out.2 Tryd.underlying58 rfl sig_info) rfl ⟨rfl, hR.out.1⟩
theorem sign_long (a : Nat) (h : 1 ≤ a ∧ a < 500000003) (ma : Option Addr) (n c : Nat) (hn : 9991 < n) (w : World) :
    Calls Tryd.prog 27 #[.int .u32 (a : Int), .slice ma n c] w fun e w' => e = .returned (.tuple #[.agg #[.int .u32 0, .int .u32 0], .int .i64 4]) ∧ Below w.heap.size w w' := by
  have hN := Lib.hid (fun wi => nonce_long a h ma n c hn wi)
  have hR := Lib.hid (Row1.start w #[.int .u32 0, .int .u32 0] 58)
  clear h hn
  go_enter Tryd.func27, Tryd.ntmps27
  go_wp2_with (first | (go_at_call 25; refine (hN.out _).mono ?_; rintro e w' ⟨rfl, rfl⟩) | (refine wpList_store_row rfl 58 _ _ rfl w.heap.size #[.int .u32 0, .int .u32 0] rfl rfl 58 _ hR.out.2 sig_info rfl (two_one _ _) ?_; have hR := Lib.hid (hR.out.set #[.int .u32 0, .int .u32 0])))
  try simp only [Exit.inBlock, Exit.then]
  exact bodyPost_ret (results_row_tmp rfl _ _ w.heap.size 58 _ _ _ rfl hR.out.2 Tryd.underlying58 rfl sig_info) rfl ⟨rfl, hR.out.1⟩
end Go.Proofs.YtpklfohaifeboaaDoor
namespace Go.Proofs.YtpklfohaifeboaaDoor
open Go.RowKit Go.YtpklfohaifeboaaDoor
set_option linter.unusedVariables false
/-- The number that S and E give for a public key. -/
def rN (y S E : Nat) : Nat := grp.pw 4 S * grp.pw (grp.pw y E) 500000002 % grp.GP
def rightB (y : Nat) (m : List Int) (S E : Nat) : Bool := decide (E < 500000003) && (decide (S < 500000003) && decide (chalN (rN y S E) y m = E))
theorem dec_eq (a b : Nat) : ((a : Int) == (b : Int)) = decide (a = b) := by
  rw [Bool.eq_iff_iff, beq_iff_eq, decide_eq_true_iff]; omega
theorem dec_eq' (a b : Nat) : decide ((a : Int) = (b : Int)) = decide (a = b) := decide_eq_decide.2 (by omega)
theorem sig_load (w : World) (E S : Int) (T : TypeId) : (w.alloc (.cells #[.int .u32 E, .int .u32 S] T)).heap[w.heap.size]? = some (.cells #[.int .u32 E, .int .u32 S] T (0, 0)) := heap_alloc_new w _
set_option maxHeartbeats 1000000 in
theorem right_any (y : Nat) (hy : grp.inG y = true) (S E : Nat) (hS : S < 4294967296) (hE : E < 4294967296) (mv : Value) (m : List Int) (w : World) (hm : RdB w mv m) (hmb : Bytes m) (hml : m.length ≤ 9991) (hgl : GlobW w) :
    Calls Tryd.prog 48 #[.int .u32 (y : Int), mv, .agg #[.int .u32 (E : Int), .int .u32 (S : Int)]] w fun e w' => e = .returned (.bool (rightB y m S E)) ∧ Below w.heap.size w w' := by
  by_cases h1 : E < 500000003
  · by_cases h2 : S < 500000003
    · have hr : rightB y m S E = decide (chalN (rN y S E) y m = E) := by simp [rightB, h1, h2]
      rw [hr]
      obtain ⟨ma, mc, rfl⟩ := hm.slice
      have hPo := Lib.hid (grp.pow_ok y E hy (by omega))
      have gP := grp.inG_pw y E hy
      have hC := Lib.hid (fun wi (o : Row1 w wi #[.int .u32 (E : Int), .int .u32 (S : Int)] 58) => chal_ok (rN y S E) y (grp.GP_u32 (Nat.mod_lt _ grp.GP_pos)) (grp.inG_u32 hy) _ m wi (hm.mono o.1) hmb hml (hgl.mono o.1))
      unfold rN at hC ⊢
      generalize grp.pw y E = P at *
      have hIn := Lib.hid (grp.inv_ok P gP)
      have gI := grp.inG_pw P 500000002 gP
      generalize grp.pw P 500000002 = I at *
      have hBa := Lib.hid (grp.base_any S (by omega))
      have gB := grp.inG_pw 4 S grp.in4
      generalize grp.pw 4 S = B at *
      have hMu := Lib.hid (grp.mul_ok B I gB gI)
      generalize B * I % grp.GP = R at *
      generalize chalN R y m = C at *
      have hR := Lib.hid (Row1.start w #[.int .u32 (E : Int), .int .u32 (S : Int)] 58)
      have hc0 : ∀ wi, Row1 w wi #[.int .u32 (E : Int), .int .u32 (S : Int)] 58 → wi.cell? ⟨w.heap.size, 0, none⟩ = some (.int .u32 (E : Int)) ∧ wi.cell? ⟨w.heap.size, 1, none⟩ = some (.int .u32 (S : Int)) := fun wi o => ⟨cell_of_row _ _ _ _ _ _ o.2, cell_of_row _ _ _ _ _ _ o.2⟩
      have hc := Lib.hid hc0
      have d1 : ¬ (500000003 : Int) ≤ (E : Int) := by omega
      have d2 : ¬ (500000003 : Int) ≤ (S : Int) := by omega
      generalize m.length = n at *
      clear hm hmb hgl hy gP gI gB hr hc0
      go_enter Tryd.func48, Tryd.ntmps48
      generalize hq : (500000003 : Int) = q at d1 d2 ⊢
      clear hq
      go_wp2_with (first | (go_at_call 59; refine (hPo.out _).mono ?_; rintro e w' ⟨rfl, g⟩; have hR := Lib.hid (hR.out.step g); clear g; obtain ⟨k0, k1⟩ := hc.out _ hR.out) | (go_at_call 60; refine (hIn.out _).mono ?_; rintro e w' ⟨rfl, g⟩; have hR := Lib.hid (hR.out.step g); clear g; obtain ⟨k0, k1⟩ := hc.out _ hR.out) | (go_at_call 42; refine (hBa.out _).mono ?_; rintro e w' ⟨rfl, g⟩; have hR := Lib.hid (hR.out.step g); clear g; obtain ⟨k0, k1⟩ := hc.out _ hR.out) | (go_at_call 61; refine (hMu.out _).mono ?_; rintro e w' ⟨rfl, g⟩; have hR := Lib.hid (hR.out.step g); clear g; obtain ⟨k0, k1⟩ := hc.out _ hR.out) | (go_at_call 26; refine (hC.out _ hR.out).mono ?_; rintro e w' ⟨rfl, g⟩; have hR := Lib.hid (hR.out.step g); clear g; obtain ⟨k0, k1⟩ := hc.out _ hR.out))
      go_ret
      first | exact ⟨ret_bool (dec_eq C E), hR.out.1⟩ | exact ⟨ret_bool (dec_eq' C E), hR.out.1⟩
    · have hr : rightB y m S E = false := by simp [rightB, h2]
      rw [hr]
      obtain ⟨ma, mc, rfl⟩ := hm.slice
      have hR := Lib.hid (Row1.start w #[.int .u32 (E : Int), .int .u32 (S : Int)] 58)
      have d1 : ¬ (500000003 : Int) ≤ (E : Int) := by omega
      have d2 : (500000003 : Int) ≤ (S : Int) := by omega
      clear hm hmb hgl hy hr
      go_enter Tryd.func48, Tryd.ntmps48
      generalize hq : (500000003 : Int) = q at d1 d2 ⊢
      clear hq
      go_wp2
      go_ret
      exact ⟨rfl, hR.out.1⟩
  · have hr : rightB y m S E = false := by simp [rightB, h1]
    rw [hr]
    obtain ⟨ma, mc, rfl⟩ := hm.slice
    have hR := Lib.hid (Row1.start w #[.int .u32 (E : Int), .int .u32 (S : Int)] 58)
    have d1 : (500000003 : Int) ≤ (E : Int) := by omega
    clear hm hmb hgl hy hr
    go_enter Tryd.func48, Tryd.ntmps48
    generalize hq : (500000003 : Int) = q at d1 ⊢
    clear hq
    go_wp2
    go_ret
    exact ⟨rfl, hR.out.1⟩
theorem verify_arg (y : Nat) (hyu : y < 4294967296) (hy : grp.inG y = false) (ma : Option Addr) (n c : Nat) (E S : Int) (w : World) :
    Calls Tryd.prog 28 #[.int .u32 (y : Int), .slice ma n c, .agg #[.int .u32 E, .int .u32 S]] w fun e w' => e = .returned (.int .i64 2) ∧ Below w.heap.size w w' := by
  have hI0 := grp.is_any y hyu
  rw [hy] at hI0
  have hI := Lib.hid hI0
  have hR := Lib.hid (Row1.start w #[.int .u32 E, .int .u32 S] 58)
  clear hI0 hy hyu
  go_enter Tryd.func28, Tryd.ntmps28
  go_wp2_with (go_at_call 47; refine (hI.out _).mono ?_; rintro e w' ⟨rfl, g⟩; have hR := Lib.hid (hR.out.step g); clear g)
  go_ret
  exact ⟨rfl, hR.out.1⟩
theorem verify_long (y : Nat) (hy : grp.inG y = true) (ma : Option Addr) (n c : Nat) (hn : 9991 < n) (E S : Int) (w : World) :
    Calls Tryd.prog 28 #[.int .u32 (y : Int), .slice ma n c, .agg #[.int .u32 E, .int .u32 S]] w fun e w' => e = .returned (.int .i64 4) ∧ Below w.heap.size w w' := by
  have hI0 := grp.is_any y (grp.inG_u32 hy)
  rw [hy] at hI0
  have hI := Lib.hid hI0
  have hl0 := tooLong_any ma n c
  rw [decide_eq_true hn] at hl0
  have hl := Lib.hid hl0
  have hR := Lib.hid (Row1.start w #[.int .u32 E, .int .u32 S] 58)
  clear hI0 hy hl0 hn
  go_enter Tryd.func28, Tryd.ntmps28
  go_wp2_with (first | (go_at_call 47; refine (hI.out _).mono ?_; rintro e w' ⟨rfl, g⟩; have hR := Lib.hid (hR.out.step g); clear g) | (go_at_call 43; refine (hl.out _).mono ?_; rintro e w' ⟨rfl, rfl⟩))
  go_ret
  exact ⟨rfl, hR.out.1⟩
theorem verify_any (y : Nat) (hy : grp.inG y = true) (S E : Nat) (hS : S < 4294967296) (hE : E < 4294967296) (mv : Value) (m : List Int) (w : World) (hm : RdB w mv m) (hmb : Bytes m) (hml : m.length ≤ 9991) (hgl : GlobW w) :
    Calls Tryd.prog 28 #[.int .u32 (y : Int), mv, .agg #[.int .u32 (E : Int), .int .u32 (S : Int)]] w fun e w' => e = .returned (.int .i64 (if rightB y m S E then 0 else 22)) ∧ Below w.heap.size w w' := by
  have hI0 := grp.is_any y (grp.inG_u32 hy)
  rw [hy] at hI0
  have hI := Lib.hid hI0
  obtain ⟨ma, mc, rfl⟩ := hm.slice
  have hl0 := tooLong_any ma m.length mc
  rw [decide_eq_false (by omega)] at hl0
  have hl := Lib.hid hl0
  have hR := Lib.hid (Row1.start w #[.int .u32 (E : Int), .int .u32 (S : Int)] 58)
  have hV := Lib.hid (fun wi (o : Row1 w wi #[.int .u32 (E : Int), .int .u32 (S : Int)] 58) => right_any y hy S E hS hE _ m wi (hm.mono o.1) hmb hml (hgl.mono o.1))
  generalize rightB y m S E = b at *
  generalize m.length = n at *
  clear hI0 hy hl0 hm hmb hgl hS hE
  cases b
  · go_enter Tryd.func28, Tryd.ntmps28
    go_wp2_with (first | (go_at_call 47; refine (hI.out _).mono ?_; rintro e w' ⟨rfl, g⟩; have hR := Lib.hid (hR.out.step g); clear g) | (go_at_call 43; refine (hl.out _).mono ?_; rintro e w' ⟨rfl, rfl⟩) | (refine wpList_load_row rfl 58 _ rfl w.heap.size rfl 58 _ (0, 0) _ hR.out.2 Tryd.underlying58 rfl sig_info ?_) | (go_at_call 48; refine (hV.out _ hR.out).mono ?_; rintro e w' ⟨rfl, g⟩; have hR := Lib.hid (hR.out.step g); clear g))
    go_ret
    exact ⟨rfl, hR.out.1⟩
  · go_enter Tryd.func28, Tryd.ntmps28
    go_wp2_with (first | (go_at_call 47; refine (hI.out _).mono ?_; rintro e w' ⟨rfl, g⟩; have hR := Lib.hid (hR.out.step g); clear g) | (go_at_call 43; refine (hl.out _).mono ?_; rintro e w' ⟨rfl, rfl⟩) | (refine wpList_load_row rfl 58 _ rfl w.heap.size rfl 58 _ (0, 0) _ hR.out.2 Tryd.underlying58 rfl sig_info ?_) | (go_at_call 48; refine (hV.out _ hR.out).mono ?_; rintro e w' ⟨rfl, g⟩; have hR := Lib.hid (hR.out.step g); clear g))
    go_ret
    exact ⟨rfl, hR.out.1⟩
end Go.Proofs.YtpklfohaifeboaaDoor

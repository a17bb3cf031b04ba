/- Contracts of sign.Public, Nonce, Challenge. -/
import Derived.Test.YtfncepfjnljhlaaDoorS03b
import Derived.Test.YtfncepfjnljhlaaDoorG
namespace Go.Proofs.YtfncepfjnljhlaaDoor
open Go.RowKit Go.YtfncepfjnljhlaaDoor
set_option linter.unusedVariables false
/-- The listed variables as they are laid. -/
def GlobW (w : World) : Prop := ∃ Tg Tf : TypeId, w.heap[2]? = some (.cells (u32s constW) Tg (0, 0)) ∧ w.heap[0]? = some (.cells firstW.cells Tf (0, 0))
theorem GlobW.mono {w w' : World} (h : GlobW w) (hb : Below w.heap.size w w') : GlobW w' := by
  obtain ⟨Tg, Tf, h1, h2⟩ := h
  exact ⟨Tg, Tf, (hb.block _ (Array.getElem?_eq_some_iff.1 h1).1).trans h1, (hb.block _ (Array.getElem?_eq_some_iff.1 h2).1).trans h2⟩
def hN (mark : Int) (nums m : List Int) : Nat := (hashF mark nums m).toNat
theorem hN_eq (mark : Int) (nums m : List Int) : hashF mark nums m = (hN mark nums m : Int) := by
  have h := numN_in (shaF (headF mark nums nums.length ++ m)) (shaF_bytes _) 8
  exact (Int.toNat_of_nonneg h.1).symm
def nonceN (a : Nat) (m : List Int) : Nat := hN 110 [(a : Int)] m % 500000002 + 1
def chalN (r y : Nat) (m : List Int) : Nat := hN 99 [(r : Int), (y : Int)] m % 500000003
theorem all32_1 (a : Nat) (ha : a < 4294967296) : All32 [(a : Int)] := all32_snoc [] _ (fun i => by simp [ith, In32]) ⟨by omega, by omega⟩
theorem all32_2 (a b : Nat) (ha : a < 4294967296) (hb : b < 4294967296) : All32 [(a : Int), (b : Int)] := all32_snoc [(a : Int)] _ (all32_1 a ha) ⟨by omega, by omega⟩
theorem hash1 (mark : Int) (hmk : 0 ≤ mark ∧ mark < 256) (a : Nat) (ha : a < 4294967296) (mv : Value) (m : List Int) (w : World) (hm : RdB w mv m) (hmb : Bytes m) (hml : m.length ≤ 9991) (hgl : GlobW w) :
    Calls Tryd.prog 63 #[.int .u8 mark, mv, .slice (some ⟨w.heap.size, 0, none⟩) 1 1] (w.alloc (.cells #[.int .u32 (a : Int)] 32)) fun e w' => e = .returned (.int .u64 (hN mark [(a : Int)] m : Int)) ∧ Below w.heap.size w w' := by
  have hB : Below w.heap.size w (w.alloc (.cells #[.int .u32 (a : Int)] 32)) := (Below.refl _ _).alloc (Nat.le_refl _) _
  obtain ⟨Tg, Tf, h1, h2⟩ := hgl.mono hB
  rw [← hN_eq]
  exact (hash_any (Tg := Tg) (Tf := Tf) mark [(a : Int)] m w.heap.size _ mv _ (hm.mono hB) hmb hml hmk (by simp) (all32_1 a ha) (heap_alloc_new w _) h1 h2).mono fun e w' ⟨he, hb⟩ => ⟨he, hB.trans (hb.mono (by simp))⟩
theorem hash2 (mark : Int) (hmk : 0 ≤ mark ∧ mark < 256) (a b : Nat) (ha : a < 4294967296) (hb : b < 4294967296) (mv : Value) (m : List Int) (w : World) (hm : RdB w mv m) (hmb : Bytes m) (hml : m.length ≤ 9991) (hgl : GlobW w) :
    Calls Tryd.prog 63 #[.int .u8 mark, mv, .slice (some ⟨w.heap.size, 0, none⟩) 2 2] (w.alloc (.cells #[.int .u32 (a : Int), .int .u32 (b : Int)] 32)) fun e w' => e = .returned (.int .u64 (hN mark [(a : Int), (b : Int)] m : Int)) ∧ Below w.heap.size w w' := by
  have hB : Below w.heap.size w (w.alloc (.cells #[.int .u32 (a : Int), .int .u32 (b : Int)] 32)) := (Below.refl _ _).alloc (Nat.le_refl _) _
  obtain ⟨Tg, Tf, h1, h2⟩ := hgl.mono hB
  rw [← hN_eq]
  exact (hash_any (Tg := Tg) (Tf := Tf) mark [(a : Int), (b : Int)] m w.heap.size _ mv _ (hm.mono hB) hmb hml hmk (by simp) (all32_2 a b ha hb) (heap_alloc_new w _) h1 h2).mono fun e w' ⟨he, hb⟩ => ⟨he, hB.trans (hb.mono (by simp))⟩
theorem ret_pair {a b c : Int} (h : a = b) : Ending.returned (.tuple #[.int .u32 a, .int .i64 c]) = .returned (.tuple #[.int .u32 b, .int .i64 c]) := by rw [h]
theorem check_ok (a : Nat) (h : 1 ≤ a ∧ a < 500000003) (w : World) : Calls Tryd.prog 37 #[.int .u32 (a : Int)] w fun e w' => e = .returned (.int .i64 0) ∧ w' = w := by
  have := check_any a w; rw [if_pos h] at this; exact this
theorem check_bad (a : Nat) (h : ¬ (1 ≤ a ∧ a < 500000003)) (w : World) : Calls Tryd.prog 37 #[.int .u32 (a : Int)] w fun e w' => e = .returned (.int .i64 2) ∧ w' = w := by
  have := check_any a w; rw [if_neg h] at this; exact this
theorem public_ok (a : Nat) (h : 1 ≤ a ∧ a < 500000003) (w : World) : Calls Tryd.prog 32 #[.int .u32 (a : Int)] w fun e w' => e = .returned (.tuple #[.int .u32 (grp.pw 4 a : Int), .int .i64 0]) ∧ Below w.heap.size w w' := by
  have hc := Lib.hid (check_ok a h); have hp := Lib.hid (grp.base_any a (by omega))
  have h0 : 1 ≤ a := h.1; have h1 : a < 4294967296 := by omega
  clear h
  go_enter Tryd.func32, Tryd.ntmps32
  go_wp2_with (first | (go_at_call 37; refine (hc.out _).mono ?_; rintro e w' ⟨rfl, rfl⟩) | (go_at_call 46; refine (hp.out _).mono ?_; rintro e w' ⟨rfl, g1⟩; have g1' := Lib.hid g1; clear g1))
  go_ret2
  exact ⟨rfl, g1'.out⟩
theorem public_bad (a : Nat) (h : ¬ (1 ≤ a ∧ a < 500000003)) (w : World) : Calls Tryd.prog 32 #[.int .u32 (a : Int)] w fun e w' => e = .returned (.tuple #[.int .u32 0, .int .i64 2]) ∧ w' = w := by
  have hc := Lib.hid (check_bad a h)
  clear h
  go_enter Tryd.func32, Tryd.ntmps32
  go_wp2_with (first | (go_at_call 37; refine (hc.out _).mono ?_; rintro e w' ⟨rfl, rfl⟩))
  go_ret2
  exact ⟨rfl, rfl⟩
theorem nonce_bad (a : Nat) (h : ¬ (1 ≤ a ∧ a < 500000003)) (mv : Value) (w : World) : Calls Tryd.prog 33 #[.int .u32 (a : Int), mv] w fun e w' => e = .returned (.tuple #[.int .u32 0, .int .i64 2]) ∧ w' = w := by
  have hc := Lib.hid (check_bad a h)
  clear h
  go_enter Tryd.func33, Tryd.ntmps33
  go_wp2_with (first | (go_at_call 37; refine (hc.out _).mono ?_; rintro e w' ⟨rfl, rfl⟩))
  go_ret2
  exact ⟨rfl, rfl⟩
theorem nonce_long (a : Nat) (h : 1 ≤ a ∧ a < 500000003) (ma : Option Addr) (n c : Nat) (hn : 9991 < n) (w : World) : Calls Tryd.prog 33 #[.int .u32 (a : Int), .slice ma n c] w fun e w' => e = .returned (.tuple #[.int .u32 0, .int .i64 4]) ∧ w' = w := by
  have hc := Lib.hid (check_ok a h)
  have hl0 := tooLong_any ma n c
  rw [decide_eq_true hn] at hl0
  have hl := Lib.hid hl0
  clear h hl0 hn
  go_enter Tryd.func33, Tryd.ntmps33
  go_wp2_with (first | (go_at_call 37; refine (hc.out _).mono ?_; rintro e w' ⟨rfl, rfl⟩) | (go_at_call 62; refine (hl.out _).mono ?_; rintro e w' ⟨rfl, rfl⟩))
  go_ret2
  exact ⟨rfl, rfl⟩
theorem nonce_ok (a : Nat) (h : 1 ≤ a ∧ a < 500000003) (mv : Value) (m : List Int) (w : World) (hm : RdB w mv m) (hmb : Bytes m) (hml : m.length ≤ 9991) (hgl : GlobW w) :
    Calls Tryd.prog 33 #[.int .u32 (a : Int), mv] w fun e w' => e = .returned (.tuple #[.int .u32 (nonceN a m : Int), .int .i64 0]) ∧ Below w.heap.size w w' := by
  obtain ⟨ma, mc, rfl⟩ := hm.slice
  have hc := Lib.hid (check_ok a h)
  have hl0 := tooLong_any ma m.length mc
  rw [decide_eq_false (by omega)] at hl0
  have hl := Lib.hid hl0
  have hh := Lib.hid (hash1 110 (by decide) a (by omega) _ m w hm hmb hml hgl)
  unfold nonceN
  clear h hl0 hm hmb hml hgl
  generalize hN 110 [(a : Int)] m = H at *
  generalize m.length = n at *
  go_enter Tryd.func33, Tryd.ntmps33
  go_wp2_with (first | (go_at_call 37; refine (hc.out _).mono ?_; rintro e w' ⟨rfl, rfl⟩) | (go_at_call 62; refine (hl.out _).mono ?_; rintro e w' ⟨rfl, rfl⟩) | (go_at_call 63; refine (hh.out).mono ?_; rintro e w' ⟨rfl, g1⟩; have g1' := Lib.hid g1; clear g1))
  go_ret2
  exact ⟨ret_pair (by omega), g1'.out⟩
theorem chal_long (r y : Int) (ma : Option Addr) (n c : Nat) (hn : 9991 < n) (w : World) : Calls Tryd.prog 34 #[.int .u32 r, .int .u32 y, .slice ma n c] w fun e w' => e = .returned (.tuple #[.int .u32 0, .int .i64 4]) ∧ w' = w := by
  have hl0 := tooLong_any ma n c
  rw [decide_eq_true hn] at hl0
  have hl := Lib.hid hl0
  clear hl0 hn
  go_enter Tryd.func34, Tryd.ntmps34
  go_wp2_with (first | (go_at_call 62; refine (hl.out _).mono ?_; rintro e w' ⟨rfl, rfl⟩))
  go_ret2
  exact ⟨rfl, rfl⟩
theorem chal_ok (r y : Nat) (hr : r < 4294967296) (hy : y < 4294967296) (mv : Value) (m : List Int) (w : World) (hm : RdB w mv m) (hmb : Bytes m) (hml : m.length ≤ 9991) (hgl : GlobW w) :
    Calls Tryd.prog 34 #[.int .u32 (r : Int), .int .u32 (y : Int), mv] w fun e w' => e = .returned (.tuple #[.int .u32 (chalN r y m : Int), .int .i64 0]) ∧ Below w.heap.size w w' := by
  obtain ⟨ma, mc, rfl⟩ := hm.slice
  have hl0 := tooLong_any ma m.length mc
  rw [decide_eq_false (by omega)] at hl0
  have hl := Lib.hid hl0
  have hh := Lib.hid (hash2 99 (by decide) r y hr hy _ m w hm hmb hml hgl)
  unfold chalN
  clear hr hy hl0 hm hmb hml hgl
  generalize hN 99 [(r : Int), (y : Int)] m = H at *
  generalize m.length = n at *
  go_enter Tryd.func34, Tryd.ntmps34
  go_wp2_with (first | (go_at_call 62; refine (hl.out _).mono ?_; rintro e w' ⟨rfl, rfl⟩) | (go_at_call 63; refine (hh.out).mono ?_; rintro e w' ⟨rfl, g1⟩; have g1' := Lib.hid g1; clear g1))
  go_ret2
  exact ⟨ret_pair (by omega), g1'.out⟩
end Go.Proofs.YtfncepfjnljhlaaDoor

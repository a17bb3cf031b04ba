/- Contracts of digest.turn, digest.wordOf and digest.grind: what each call returns, and that it changes nothing that was there. -/
import Derived.Test.YtegffpjhdodldaaDoorProg
import Derived.Test.YtegffpjhdodldaaDoorLib
import Derived.Deep.QuietTactic
import Derived.BigQuiet
import Derived.Handy
namespace Go.Proofs.YtegffpjhdodldaaDoor
open Go.RowKit Go.YtegffpjhdodldaaDoor
set_option linter.unusedVariables false
variable {Tg Tf : TypeId}
theorem and31 (n : Nat) (h : 1 ≤ n) (h2 : n ≤ 31) : bits BinOp.and IntKind.u64 (IntKind.u64.wrap (-(n : Int))) 31 = 32 - (n:Int) := by
  have : ∀ m : Fin 32, 1 ≤ m.val → bits BinOp.and IntKind.u64 (IntKind.u64.wrap (-((m.val : Nat) : Int))) 31 = 32 - ((m.val : Nat):Int) := by decide +kernel
  exact this ⟨n, by omega⟩ h
theorem rot_any (x : Int) (n : Int) (w : World) (_hx : 0 ≤ x) (_hx2 : x < 4294967296) (h : 1 ≤ n) (h2 : n ≤ 31) :
    Calls Tryd.prog 101 #[.int .u32 x, .int .i64 (-n)] w fun e w' => e = .returned (.int .u32 (rotr x n)) ∧ w = w' := by
  obtain ⟨n, rfl⟩ := Int.eq_ofNat_of_zero_le (show 0 ≤ n by omega)
  have h3 := and31 n (by omega) (by omega)
  go_enter Tryd.func101, Tryd.ntmps101
  go_wp2
  go_ret
  exact ⟨by simp [rotr]; rw [Nat.sub_sub_self (by omega)], rfl⟩
theorem turn_any (x : Int) (n : Int) (w : World) (hx : 0 ≤ x) (hx2 : x < 4294967296) (h : 1 ≤ n) (h2 : n ≤ 31) :
    Calls Tryd.prog 95 #[.int .u32 x, .int .i64 n] w fun e w' => e = .returned (.int .u32 (rotr x n)) ∧ w = w' := by
  go_enter Tryd.func95, Tryd.ntmps95
  go_wp2_with (go_at_call 101; refine (rot_any _ n _ hx hx2 h h2).mono ?_; rintro e w' ⟨rfl, rfl⟩)
  go_ret
  exact ⟨rfl, rfl⟩
theorem word_or (a b c d : Int) (ha : 0 ≤ a ∧ a < 256) (hb : 0 ≤ b ∧ b < 256) (hc : 0 ≤ c ∧ c < 256) (hd : 0 ≤ d ∧ d < 256) :
    bits BinOp.or IntKind.u32 (bits BinOp.or IntKind.u32 (bits BinOp.or IntKind.u32 (a * 16777216) (b * 65536)) (c * 256)) d = word4 a b c d := by
  unfold word4
  go_bits2
theorem wordOf_any (b o n c : Nat) (w : World) (z0 z1 z2 z3 : Int) (hn : 4 ≤ n) (b0 : 0 ≤ z0 ∧ z0 < 256) (b1 : 0 ≤ z1 ∧ z1 < 256) (b2 : 0 ≤ z2 ∧ z2 < 256) (b3 : 0 ≤ z3 ∧ z3 < 256)
    (h0 : w.cell? ⟨b, o, none⟩ = some (.int .u8 z0)) (h1 : w.cell? ⟨b, o + 1, none⟩ = some (.int .u8 z1)) (h2 : w.cell? ⟨b, o + 2, none⟩ = some (.int .u8 z2)) (h3 : w.cell? ⟨b, o + 3, none⟩ = some (.int .u8 z3)) :
    Calls Tryd.prog 96 #[.slice (some ⟨b, o, none⟩) n c] w fun e w' => e = .returned (.int .u32 (word4 z0 z1 z2 z3)) ∧ Draws w w' := by
  go_enter Tryd.func96, Tryd.ntmps96
  go_wp2
  go_quiet (fail)
  go_wp2
  go_ret
  exact ⟨by simp; exact word_or _ _ _ _ b0 b1 b2 b3, (Draws.refl _).drewN _⟩
theorem idx8_0 (a b c d e f g h : Int) (w : World) : (Instr.index 49 (.agg #[.int .u32 a, .int .u32 b, .int .u32 c, .int .u32 d, .int .u32 e, .int .u32 f, .int .u32 g, .int .u32 h]) (.int .i64 0)).run Tryd.prog w = .ok (.int .u32 a) w := by kernel_rfl
theorem idx8_1 (a b c d e f g h : Int) (w : World) : (Instr.index 49 (.agg #[.int .u32 a, .int .u32 b, .int .u32 c, .int .u32 d, .int .u32 e, .int .u32 f, .int .u32 g, .int .u32 h]) (.int .i64 1)).run Tryd.prog w = .ok (.int .u32 b) w := by kernel_rfl
theorem idx8_2 (a b c d e f g h : Int) (w : World) : (Instr.index 49 (.agg #[.int .u32 a, .int .u32 b, .int .u32 c, .int .u32 d, .int .u32 e, .int .u32 f, .int .u32 g, .int .u32 h]) (.int .i64 2)).run Tryd.prog w = .ok (.int .u32 c) w := by kernel_rfl
theorem idx8_3 (a b c d e f g h : Int) (w : World) : (Instr.index 49 (.agg #[.int .u32 a, .int .u32 b, .int .u32 c, .int .u32 d, .int .u32 e, .int .u32 f, .int .u32 g, .int .u32 h]) (.int .i64 3)).run Tryd.prog w = .ok (.int .u32 d) w := by kernel_rfl
theorem idx8_4 (a b c d e f g h : Int) (w : World) : (Instr.index 49 (.agg #[.int .u32 a, .int .u32 b, .int .u32 c, .int .u32 d, .int .u32 e, .int .u32 f, .int .u32 g, .int .u32 h]) (.int .i64 4)).run Tryd.prog w = .ok (.int .u32 e) w := by kernel_rfl
theorem idx8_5 (a b c d e f g h : Int) (w : World) : (Instr.index 49 (.agg #[.int .u32 a, .int .u32 b, .int .u32 c, .int .u32 d, .int .u32 e, .int .u32 f, .int .u32 g, .int .u32 h]) (.int .i64 5)).run Tryd.prog w = .ok (.int .u32 f) w := by kernel_rfl
theorem idx8_6 (a b c d e f g h : Int) (w : World) : (Instr.index 49 (.agg #[.int .u32 a, .int .u32 b, .int .u32 c, .int .u32 d, .int .u32 e, .int .u32 f, .int .u32 g, .int .u32 h]) (.int .i64 6)).run Tryd.prog w = .ok (.int .u32 g) w := by kernel_rfl
theorem idx8_7 (a b c d e f g h : Int) (w : World) : (Instr.index 49 (.agg #[.int .u32 a, .int .u32 b, .int .u32 c, .int .u32 d, .int .u32 e, .int .u32 f, .int .u32 g, .int .u32 h]) (.int .i64 7)).run Tryd.prog w = .ok (.int .u32 h) w := by kernel_rfl
set_option maxRecDepth 100000 in
set_option maxHeartbeats 1000000 in
theorem grind_any (v : V8) (w : World) (hv : v.ok) (ws : List Int) (hw : ws.length = 64)
   (hg : w.heap[1]? = some (.cells (u32s constW) Tg (0, 0))) :
    Calls Tryd.prog 83 #[.agg v.cells, .agg (u32s ws)] w
     fun e w' => e = .returned (.agg (v.add (rounds constW ws v 64)).cells) ∧ Below w.heap.size w w' := by
  have hc : constW.length = 64 := by rfl
  generalize constW = cs at *
  have hsz : (u32s cs).size = 64 := by simp [u32s, hc]
  have hlt : 1 < w.heap.size := (Array.getElem?_eq_some_iff.1 hg).1
  have hg2 : ∀ o1 o2 o3 k, ((((w.alloc o1).alloc o2).alloc o3).drewN k).heap[1]? = some (.cells (u32s cs) Tg (0, 0)) := by
    intro o1 o2 o3 k; exact (hp3 w o1 o2 o3 _ hlt).trans hg
  unfold V8.cells
  go_enter Tryd.func83, Tryd.ntmps83
  go_wp2
  go_quiet (fail)
  go_wp2_with (refine wpList_load_row rfl 117 _ rfl 1 rfl Tg _ _ _ (hg2 _ _ _ _) Tryd.underlying117 rfl (by rw [hsz]; kernel_rfl) ?_)
  clear hg2 hsz
  generalize hR : (fun k => rounds cs ws v k) = R
  generalize hW : ((w.alloc (Obj.cells #[Value.int IntKind.u32 v.a, Value.int IntKind.u32 v.b, Value.int IntKind.u32 v.c, Value.int IntKind.u32 v.d, Value.int IntKind.u32 v.e, Value.int IntKind.u32 v.f, Value.int IntKind.u32 v.g, Value.int IntKind.u32 v.h] 49)).alloc (Obj.cells (u32s ws) 117)).alloc (Obj.cells #[Value.int IntKind.u32 0, Value.int IntKind.u32 0, Value.int IntKind.u32 0, Value.int IntKind.u32 0, Value.int IntKind.u32 0, Value.int IntKind.u32 0, Value.int IntKind.u32 0, Value.int IntKind.u32 0] 49) = W0
  have hh1 : W0.heap[w.heap.size + 1]? = some (Obj.cells (u32s ws) 117) := by
    rw [← hW, hp1 _ _ _ (by simp)]; exact hn2 w _ _
  have hW' := Lib.hid hW; clear hW
  go_loopw [5, 6, 7, 8, 9, 10, 11, 12, 38] (fun a b c d e f g h i wr => ∃ k : Nat, k ≤ 64 ∧ i = .int .i64 k ∧ a = .int .u32 (R k).a ∧ b = .int .u32 (R k).b ∧ c = .int .u32 (R k).c ∧ d = .int .u32 (R k).d ∧ e = .int .u32 (R k).e ∧ f = .int .u32 (R k).f ∧ g = .int .u32 (R k).g ∧ h = .int .u32 (R k).h ∧ Draws W0 wr) (fun _ _ _ _ _ _ _ _ i _ => 64 - (intOf i).toNat)
  case atStart => subst hR; exact ⟨0, Nat.zero_le _, rfl, rfl, rfl, rfl, rfl, rfl, rfl, rfl, rfl, (Draws.refl _).drewN _⟩
  case round =>
    obtain ⟨k, hk, rfl, rfl, rfl, rfl, rfl, rfl, rfl, rfl, rfl, hdr⟩ := hrel
    have hok : (R k).ok := by subst hR; exact rounds_ok _ _ _ _ hv
    obtain ⟨⟨_, _⟩, ⟨_, _⟩, ⟨_, _⟩, ⟨_, _⟩, ⟨_, _⟩, ⟨_, _⟩, ⟨_, _⟩, ⟨_, _⟩⟩ := hok
    by_cases hlt : k < 64
    · have hS : R (k + 1) = shaStep (R k) (ith cs k) (ith ws k) := by subst hR; rfl
      have hS' := Lib.hid hS; clear hS
      have hck := u32s_get cs k (by omega)
      have hwk : wr.cell? ⟨w.heap.size + 1, k, none⟩ = some (.int .u32 (ith ws k)) := by
        rw [hdr.cell, cell_of_row _ _ _ _ _ _ hh1]; exact u32s_get ws k (by omega)
      have hix := run_index_arr (P := Tryd.prog) Tryd.underlying117 Tryd.underlying22 (by kernel_rfl) (u32s cs) k _ hlt hck
      go_wp2
      go_quiet (((go_at_call 95; exact Calls.quiet_of_same ((turn_any _ _ _ (by assumption) (by assumption) (by decide) (by decide)).mono fun _ _ h => ⟨h.1, h.2.symm⟩))))
      go_wp2_with (go_at_call 95; refine (turn_any _ _ _ (by assumption) (by assumption) (by decide) (by decide)).mono ?_; rintro e w' ⟨rfl, rfl⟩)
      go_roundw
      case rel =>
        exact ⟨k + 1, by omega, by go_num, by rw [hS'.out]; rfl, by rw [hS'.out]; rfl, by rw [hS'.out]; rfl, by rw [hS'.out]; rfl, by rw [hS'.out]; rfl, by rw [hS'.out]; rfl, by rw [hS'.out]; rfl, by rw [hS'.out]; rfl, hdr.drewN _⟩
      case measure => simp [intOf]; omega
    · have hW := hW'.out
      clear hh1 hW'
      subst hW
      obtain ⟨n, rfl⟩ := hdr
      have hk64 : k = 64 := by omega
      subst hk64
      have hix : ∀ (k : Nat), k < 8 → ∀ wx, (Instr.index 49 (.agg #[Value.int IntKind.u32 (R 64).a, Value.int IntKind.u32 (R 64).b, Value.int IntKind.u32 (R 64).c, Value.int IntKind.u32 (R 64).d, Value.int IntKind.u32 (R 64).e, Value.int IntKind.u32 (R 64).f, Value.int IntKind.u32 (R 64).g, Value.int IntKind.u32 (R 64).h]) (.int .i64 (k : Int))).run Tryd.prog wx = .ok (.int .u32 (ith (R 64).list k)) wx := by
        intro k hk wx
        exact run_index_arr (P := Tryd.prog) Tryd.underlying49 Tryd.underlying22 (by kernel_rfl) (u32s (R 64).list) k _ hk (u32s_get _ k hk) wx
      have hix' := Lib.hid hix; clear hix
      go_wp2
      generalize hW1 : (((w.alloc (Obj.cells #[Value.int IntKind.u32 v.a, Value.int IntKind.u32 v.b, Value.int IntKind.u32 v.c, Value.int IntKind.u32 v.d, Value.int IntKind.u32 v.e, Value.int IntKind.u32 v.f, Value.int IntKind.u32 v.g, Value.int IntKind.u32 v.h] 49)).alloc (Obj.cells (u32s ws) 117)).alloc (Obj.cells #[Value.int IntKind.u32 0, Value.int IntKind.u32 0, Value.int IntKind.u32 0, Value.int IntKind.u32 0, Value.int IntKind.u32 0, Value.int IntKind.u32 0, Value.int IntKind.u32 0, Value.int IntKind.u32 0] 49)).drewN n = W1
      have hb1 : Below w.heap.size w W1 ∧ W1.heap[w.heap.size]? = some (.cells (u32s v.list) 49 (0, 0)) ∧ W1.heap[w.heap.size + 1 + 1]? = some (.cells (u32s [0, 0, 0, 0, 0, 0, 0, 0]) 49 (0, 0)) := by
        subst hW1
        refine ⟨(Draws.refl _ |>.drewN n).below ((((Below.refl _ _).alloc (Nat.le_refl _) _).alloc (by simp) _).alloc (by simp; omega) _), (hp2 _ _ _ _ (by simp)).trans (heap_alloc_new w _), ?_⟩
        exact hn3 w _ _ _
      obtain ⟨hb1, hB0, hB2⟩ := hb1
      clear hW1 hg
      have hV' : Hid (rounds cs ws v 64 = R 64) := Lib.hid (by rw [← hR])
      clear hR
      generalize R 64 = V at *
      go_loopw [111] (fun i wr => ∃ k : Nat, k ≤ 8 ∧ i = .int .i64 k ∧ Below w.heap.size w wr ∧ wr.heap[w.heap.size]? = some (.cells (u32s (addN v.list V.list k)) 49 (0, 0)) ∧ wr.heap[w.heap.size + 1 + 1]? = some (.cells (u32s [0, 0, 0, 0, 0, 0, 0, 0]) 49 (0, 0))) (fun i _ => 8 - (intOf i).toNat)
      case atStart => exact ⟨0, by omega, rfl, hb1, hB0, hB2⟩
      case round =>
        obtain ⟨k, hk, rfl, hb, h0, h2⟩ := hrel
        clear hB0 hB2 hb1
        by_cases hlt : k < 8
        · have hix := hix'.out k hlt
          have hc : wr.cell? ⟨w.heap.size, k, none⟩ = some (.int .u32 (ith (addN v.list V.list k) k)) := by
            rw [cell_of_row _ _ _ _ _ _ h0]; exact u32s_get _ k (by rw [addN_length]; exact hlt)
          have hf : wr.frozen? ⟨w.heap.size, k, none⟩ = false := frozen_of_row _ _ _ _ _ h0
          have hn := setCell_row h0 k (.int .u32 ((ith (addN v.list V.list k) k + ith V.list k) % 4294967296))
          rw [u32s_set] at hn
          have hn2 := (setCell_rows (w := wr) w.heap.size k (.int .u32 ((ith (addN v.list V.list k) k + ith V.list k) % 4294967296)) (w.heap.size + 1 + 1) (by omega)).trans h2
          have hn' := Lib.hid hn; have hn2' := Lib.hid hn2
          clear hn hn2 h0 h2
          go_wp2
          go_roundw
          case rel => exact ⟨k + 1, by omega, by go_num, hb.setCell (Nat.le_refl _) _, hn'.out, hn2'.out⟩
          case measure => simp [intOf]; omega
        · have hk8 : k = 8 := by omega
          subst hk8
          rw [addN_eight] at h0
          have h0' := Lib.hid h0; have h2' := Lib.hid h2
          clear h0 h2
          go_wp2_with (first | (refine wpList_load_row rfl 49 _ rfl w.heap.size rfl 49 _ _ _ h0'.out Tryd.underlying49 rfl (by kernel_rfl) ?_) | (refine storeRow rfl 49 _ _ rfl (w.heap.size + 1 + 1) rfl _ rfl 49 _ h2'.out (by kernel_rfl) (by simp [u32s, V8.list]) (u32s_one _) ?_))
          try simp only [Exit.inBlock, Exit.then]
          refine bodyPost_ret (v := .agg (v.add V).cells) (results_cell_row rfl _ _ (w.heap.size + 1 + 1) 49 _ _ _ rfl (setRow_heap _ _ _ _ _ _ h2'.out) Tryd.underlying49 rfl (by kernel_rfl)) rfl ⟨by rw [hV'.out]; rfl, below_setRow' hb (by omega) _⟩
end Go.Proofs.YtegffpjhdodldaaDoor

/- Texts that the row stands on, part 2. -/
import Derived.Test.YtlbgffhipondiaaGreatDoorRClosedGq01
import Derived.Handy
import Derived.StillTailTactics
namespace Go.Proofs.YtlbgffhipondiaaGreatDoor
open Go.RowKit Go.YtlbgffhipondiaaGreatDoor
set_option linter.unusedVariables false
variable {Tg Tf : TypeId}
theorem and31 (n : Nat) (h : 1 ≤ n) (h2 : n ≤ 31) : bits BinOp.and IntKind.u64 (IntKind.u64.wrap (-(n : Int))) 31 = 32 - (n:Int) := by
  have : ∀ m : Fin 32, 1 ≤ m.val → bits BinOp.and IntKind.u64 (IntKind.u64.wrap (-((m.val : Nat) : Int))) 31 = 32 - ((m.val : Nat):Int) := by decide +kernel
  exact this ⟨n, by omega⟩ h
theorem rot_any (x : Int) (n : Int) (w : World) (_hx : 0 ≤ x) (_hx2 : x < 4294967296) (h : 1 ≤ n) (h2 : n ≤ 31) :
    Calls Tryz.prog 252 #[.int .u32 x, .int .i64 (-n)] w fun e w' => e = .returned (.int .u32 (rotr x n)) ∧ w = w' := by
  obtain ⟨n, rfl⟩ := Int.eq_ofNat_of_zero_le (show 0 ≤ n by omega)
  have h3 := and31 n (by omega) (by omega)
  go_enter Tryz.func252, Tryz.ntmps252
  go_wp2
  go_ret
  exact ⟨by simp [rotr]; rw [Nat.sub_sub_self (by omega)], rfl⟩
theorem turn_any (x : Int) (n : Int) (w : World) (hx : 0 ≤ x) (hx2 : x < 4294967296) (h : 1 ≤ n) (h2 : n ≤ 31) :
    Calls Tryz.prog 247 #[.int .u32 x, .int .i64 n] w fun e w' => e = .returned (.int .u32 (rotr x n)) ∧ w = w' := by
  go_enter Tryz.func247, Tryz.ntmps247
  go_wp2_with (go_at_call 252; refine (rot_any _ n _ hx hx2 h h2).mono ?_; rintro e w' ⟨rfl, rfl⟩)
  go_ret
  exact ⟨rfl, rfl⟩
theorem word_or (a b c d : Int) (ha : 0 ≤ a ∧ a < 256) (hb : 0 ≤ b ∧ b < 256) (hc : 0 ≤ c ∧ c < 256) (hd : 0 ≤ d ∧ d < 256) :
    bits BinOp.or IntKind.u32 (bits BinOp.or IntKind.u32 (bits BinOp.or IntKind.u32 (a * 16777216) (b * 65536)) (c * 256)) d = word4 a b c d := by
  unfold word4
  go_bits2
theorem wordOf_any (b o n c : Nat) (w : World) (z0 z1 z2 z3 : Int) (hn : 4 ≤ n) (b0 : 0 ≤ z0 ∧ z0 < 256) (b1 : 0 ≤ z1 ∧ z1 < 256) (b2 : 0 ≤ z2 ∧ z2 < 256) (b3 : 0 ≤ z3 ∧ z3 < 256)
    (h0 : w.cell? ⟨b, o, none⟩ = some (.int .u8 z0)) (h1 : w.cell? ⟨b, o + 1, none⟩ = some (.int .u8 z1)) (h2 : w.cell? ⟨b, o + 2, none⟩ = some (.int .u8 z2)) (h3 : w.cell? ⟨b, o + 3, none⟩ = some (.int .u8 z3)) :
    Calls Tryz.prog 248 #[.slice (some ⟨b, o, none⟩) n c] w fun e w' => e = .returned (.int .u32 (word4 z0 z1 z2 z3)) ∧ Draws w w' := by
  go_enter Tryz.func248, Tryz.ntmps248
  go_wp2
  go_quiet (fail)
  go_wp2
  go_ret
  exact ⟨by simp; exact word_or _ _ _ _ b0 b1 b2 b3, (Draws.refl _).drewN _⟩
set_option maxRecDepth 100000 in
set_option maxHeartbeats 1000000 in
theorem grind_any (v : V8) (w : World) (hv : v.ok) (ws : List Int) (hw : ws.length = 64)
   (hg : w.heap[2]? = some (.cells (u32s constW) Tg (0, 0))) :
    Calls Tryz.prog 228 #[.agg v.cells, .agg (u32s ws)] w
     fun e w' => e = .returned (.agg (v.add (rounds constW ws v 64)).cells) ∧ Below w.heap.size w w' := by
  have hc : constW.length = 64 := by rfl
  generalize constW = cs at *
  have hsz : (u32s cs).size = 64 := by simp [u32s, hc]
  have hlt : 2 < w.heap.size := (Array.getElem?_eq_some_iff.1 hg).1
  have hg2 : ∀ o1 o2 o3 k, ((((w.alloc o1).alloc o2).alloc o3).drewN k).heap[2]? = some (.cells (u32s cs) Tg (0, 0)) := by
    intro o1 o2 o3 k; exact (hp3 w o1 o2 o3 _ hlt).trans hg
  unfold V8.cells
  go_enter Tryz.func228, Tryz.ntmps228
  go_wp2
  go_quiet (fail)
  go_wp2_with (refine wpList_load_row rfl 242 _ rfl 2 rfl Tg _ _ _ (hg2 _ _ _ _) Tryz.underlying242 rfl (by rw [hsz]; kernel_rfl) ?_)
  clear hg2 hsz
  generalize hR : (fun k => rounds cs ws v k) = R
  generalize hW : ((w.alloc (Obj.cells #[Value.int IntKind.u32 v.a, Value.int IntKind.u32 v.b, Value.int IntKind.u32 v.c, Value.int IntKind.u32 v.d, Value.int IntKind.u32 v.e, Value.int IntKind.u32 v.f, Value.int IntKind.u32 v.g, Value.int IntKind.u32 v.h] 178)).alloc (Obj.cells (u32s ws) 242)).alloc (Obj.cells #[Value.int IntKind.u32 0, Value.int IntKind.u32 0, Value.int IntKind.u32 0, Value.int IntKind.u32 0, Value.int IntKind.u32 0, Value.int IntKind.u32 0, Value.int IntKind.u32 0, Value.int IntKind.u32 0] 178) = W0
  have hh1 : W0.heap[w.heap.size + 1]? = some (Obj.cells (u32s ws) 242) := by
    rw [← hW, hp1 _ _ _ (by simp)]; exact hn2 w _ _
  have hW' := Lib.hid hW; clear hW
  go_loopw [5, 6, 7, 8, 9, 10, 11, 12, 38] (fun a b c d e f g h i wr => ∃ k : Nat, k ≤ 64 ∧ i = .int .i64 k ∧ a = .int .u32 (R k).a ∧ b = .int .u32 (R k).b ∧ c = .int .u32 (R k).c ∧ d = .int .u32 (R k).d ∧ e = .int .u32 (R k).e ∧ f = .int .u32 (R k).f ∧ g = .int .u32 (R k).g ∧ h = .int .u32 (R k).h ∧ Draws W0 wr) (fun _ _ _ _ _ _ _ _ i _ => 64 - (intOf i).toNat)
  case atStart => subst hR; exact ⟨0, Nat.zero_le _, rfl, rfl, rfl, rfl, rfl, rfl, rfl, rfl, rfl, (Draws.refl _).drewN _⟩
  case round =>
    obtain ⟨k, hk, rfl, rfl, rfl, rfl, rfl, rfl, rfl, rfl, rfl, hdr⟩ := hrel
    have hok : (R k).ok := by subst hR; exact rounds_ok _ _ _ _ hv
    obtain ⟨⟨_, _⟩, ⟨_, _⟩, ⟨_, _⟩, ⟨_, _⟩, ⟨_, _⟩, ⟨_, _⟩, ⟨_, _⟩, ⟨_, _⟩⟩ := hok
    by_cases hlt : k < 64
    · have hS : R (k + 1) = shaStep (R k) (ith cs k) (ith ws k) := by subst hR; rfl
      have hS' := Lib.hid hS; clear hS
      have hck := u32s_get cs k (by omega)
      have hwk : wr.cell? ⟨w.heap.size + 1, k, none⟩ = some (.int .u32 (ith ws k)) := by
        rw [hdr.cell, cell_of_row _ _ _ _ _ _ hh1]; exact u32s_get ws k (by omega)
      have hix := run_index_arr (P := Tryz.prog) Tryz.underlying242 Tryz.underlying25 (by kernel_rfl) (u32s cs) k _ hlt hck
      go_wp2
      go_quiet (((go_at_call 247; exact Calls.quiet_of_same ((turn_any _ _ _ (by assumption) (by assumption) (by decide) (by decide)).mono fun _ _ h => ⟨h.1, h.2.symm⟩))))
      go_wp2_with (go_at_call 247; refine (turn_any _ _ _ (by assumption) (by assumption) (by decide) (by decide)).mono ?_; rintro e w' ⟨rfl, rfl⟩)
      go_roundw
      case rel =>
        exact ⟨k + 1, by omega, by go_num, by rw [hS'.out]; rfl, by rw [hS'.out]; rfl, by rw [hS'.out]; rfl, by rw [hS'.out]; rfl, by rw [hS'.out]; rfl, by rw [hS'.out]; rfl, by rw [hS'.out]; rfl, by rw [hS'.out]; rfl, hdr.drewN _⟩
      case measure => simp [intOf]; omega
    · have hW := hW'.out
      clear hh1 hW'
      subst hW
      obtain ⟨n, rfl⟩ := hdr
      have hk64 : k = 64 := by omega
      subst hk64
      have hix : ∀ (k : Nat), k < 8 → ∀ wx, (Instr.index 178 (.agg #[Value.int IntKind.u32 (R 64).a, Value.int IntKind.u32 (R 64).b, Value.int IntKind.u32 (R 64).c, Value.int IntKind.u32 (R 64).d, Value.int IntKind.u32 (R 64).e, Value.int IntKind.u32 (R 64).f, Value.int IntKind.u32 (R 64).g, Value.int IntKind.u32 (R 64).h]) (.int .i64 (k : Int))).run Tryz.prog wx = .ok (.int .u32 (ith (R 64).list k)) wx := by
        intro k hk wx
        exact run_index_arr (P := Tryz.prog) Tryz.underlying178 Tryz.underlying25 (by kernel_rfl) (u32s (R 64).list) k _ hk (u32s_get _ k hk) wx
      have hix' := Lib.hid hix; clear hix
      go_wp2
      generalize hW1 : (((w.alloc (Obj.cells #[Value.int IntKind.u32 v.a, Value.int IntKind.u32 v.b, Value.int IntKind.u32 v.c, Value.int IntKind.u32 v.d, Value.int IntKind.u32 v.e, Value.int IntKind.u32 v.f, Value.int IntKind.u32 v.g, Value.int IntKind.u32 v.h] 178)).alloc (Obj.cells (u32s ws) 242)).alloc (Obj.cells #[Value.int IntKind.u32 0, Value.int IntKind.u32 0, Value.int IntKind.u32 0, Value.int IntKind.u32 0, Value.int IntKind.u32 0, Value.int IntKind.u32 0, Value.int IntKind.u32 0, Value.int IntKind.u32 0] 178)).drewN n = W1
      have hb1 : Below w.heap.size w W1 ∧ W1.heap[w.heap.size]? = some (.cells (u32s v.list) 178 (0, 0)) ∧ W1.heap[w.heap.size + 1 + 1]? = some (.cells (u32s [0, 0, 0, 0, 0, 0, 0, 0]) 178 (0, 0)) := by
        subst hW1
        refine ⟨(Draws.refl _ |>.drewN n).below ((((Below.refl _ _).alloc (Nat.le_refl _) _).alloc (by simp) _).alloc (by simp; omega) _), (hp2 _ _ _ _ (by simp)).trans (heap_alloc_new w _), ?_⟩
        exact hn3 w _ _ _
      obtain ⟨hb1, hB0, hB2⟩ := hb1
      clear hW1 hg
      have hV' : Hid (rounds cs ws v 64 = R 64) := Lib.hid (by rw [← hR])
      clear hR
      generalize R 64 = V at *
      go_loopw [111] (fun i wr => ∃ k : Nat, k ≤ 8 ∧ i = .int .i64 k ∧ Below w.heap.size w wr ∧ wr.heap[w.heap.size]? = some (.cells (u32s (addN v.list V.list k)) 178 (0, 0)) ∧ wr.heap[w.heap.size + 1 + 1]? = some (.cells (u32s [0, 0, 0, 0, 0, 0, 0, 0]) 178 (0, 0))) (fun i _ => 8 - (intOf i).toNat)
      case atStart => exact ⟨0, by omega, rfl, hb1, hB0, hB2⟩
      case round =>
        obtain ⟨k, hk, rfl, hb, h0, h2⟩ := hrel
        clear hB0 hB2 hb1
        by_cases hlt : k < 8
        · have hix := hix'.out k hlt
          have hc : wr.cell? ⟨w.heap.size, k, none⟩ = some (.int .u32 (ith (addN v.list V.list k) k)) := by
            rw [cell_of_row _ _ _ _ _ _ h0]; exact u32s_get _ k (by rw [addN_length]; exact hlt)
          have hf : wr.frozen? ⟨w.heap.size, k, none⟩ = false := frozen_of_row _ _ _ _ _ h0
          have hn := setCell_row h0 k (.int .u32 ((ith (addN v.list V.list k) k + ith V.list k) % 4294967296))
          rw [u32s_set] at hn
          have hn2 := (setCell_rows (w := wr) w.heap.size k (.int .u32 ((ith (addN v.list V.list k) k + ith V.list k) % 4294967296)) (w.heap.size + 1 + 1) (by omega)).trans h2
          have hn' := Lib.hid hn; have hn2' := Lib.hid hn2
          clear hn hn2 h0 h2
          go_wp2
          go_roundw
          case rel => exact ⟨k + 1, by omega, by go_num, hb.setCell (Nat.le_refl _) _, hn'.out, hn2'.out⟩
          case measure => simp [intOf]; omega
        · have hk8 : k = 8 := by omega
          subst hk8
          rw [addN_eight] at h0
          have h0' := Lib.hid h0; have h2' := Lib.hid h2
          clear h0 h2
          go_wp2_with (first | (refine wpList_load_row rfl 178 _ rfl w.heap.size rfl 178 _ _ _ h0'.out Tryz.underlying178 rfl (by kernel_rfl) ?_) | (refine storeRow rfl 178 _ _ rfl (w.heap.size + 1 + 1) rfl _ rfl 178 _ h2'.out (by kernel_rfl) (by simp [u32s, V8.list]) (u32s_one _) ?_))
          try simp only [Exit.inBlock, Exit.then]
          refine bodyPost_ret (v := .agg (v.add V).cells) (results_cell_row rfl _ _ (w.heap.size + 1 + 1) 178 _ _ _ rfl (setRow_heap _ _ _ _ _ _ h2'.out) Tryz.underlying178 rfl (by kernel_rfl)) rfl ⟨by rw [hV'.out]; rfl, below_setRow' hb (by omega) _⟩
end Go.Proofs.YtlbgffhipondiaaGreatDoor
namespace Go.Proofs.YtlbgffhipondiaaGreatDoor
open Go.RowKit Go.YtlbgffhipondiaaGreatDoor
set_option linter.unusedVariables false
def padW (l : List Int) : List Int := l ++ List.replicate (64 - l.length) 0
theorem padW_length (l : List Int) (h : l.length ≤ 64) : (padW l).length = 64 := by simp [padW]; omega
theorem padW_ith (l : List Int) (i : Nat) (h : i < l.length) : ith (padW l) i = ith l i := by unfold padW; rw [ith_append, if_pos h]
theorem padW_set (l : List Int) (x : Int) (h : l.length < 64) : (padW l).set l.length x = padW (l ++ [x]) := by
  unfold padW
  rw [List.set_append_right _ _ (Nat.le_refl _), Nat.sub_self]
  obtain ⟨m, hm⟩ : ∃ m, 64 - l.length = m + 1 := ⟨64 - l.length - 1, by omega⟩
  rw [hm, List.replicate_succ, List.set_cons_zero, List.append_assoc]
  congr 2
  simp; omega
set_option maxRecDepth 100000 in
set_option maxHeartbeats 1000000 in
theorem spread_any (b o n c : Nat) (l : List Int) (w : World) (hn : 64 ≤ n) (hnc : n ≤ c) (hcm : c ≤ maxLen) (hl : Bytes l)
    (hcell : ∀ i, i < 64 → w.cell? ⟨b, o + i, none⟩ = some (.int .u8 (ith l i))) :
    Calls Tryz.prog 229 #[.slice (some ⟨b, o, none⟩) n c] w fun e w' => e = .returned (.agg (u32s (spreadF l))) ∧ Below w.heap.size w w' := by
  have hbl : b < w.heap.size := World.block_lt_of_cell? _ _ (hcell 0 (by omega))
  unfold maxLen at hcm
  have hcell' := Lib.hid hcell; clear hcell
  have hl' := Lib.hid hl; clear hl
  go_enter Tryz.func229, Tryz.ntmps229
  go_wp2
  go_loopw [4, 10] (fun _ i wr => ∃ k : Nat, k ≤ 16 ∧ i = .int .i64 k ∧ Below w.heap.size w wr ∧ wr.heap[w.heap.size]? = some (.cells (u32s (padW [])) 242 (0, 0)) ∧ wr.heap[w.heap.size + 1]? = some (.cells (u32s (padW (wordsOf l k))) 242 (0, 0))) (fun _ i _ => 16 - (intOf i).toNat)
  case atStart => exact ⟨0, by omega, rfl, ((Below.refl _ _).alloc (Nat.le_refl _) _).alloc (by simp) _, (hp1 _ _ _ (by simp)).trans (heap_alloc_new w _), hn2 w _ _⟩
  case round =>
    obtain ⟨k, hk, rfl, hb, h0, h1⟩ := hrel
    by_cases hlt : k < 16
    · have hlen := wordsOf_length l k
      have hc : ∃ u, wr.cell? ⟨w.heap.size + 1, k, none⟩ = some (.int .u32 u) := ⟨_, by rw [cell_of_row _ _ _ _ _ _ h1]; exact u32s_get _ k (by rw [padW_length _ (by omega)]; omega)⟩
      obtain ⟨u, hc⟩ := hc
      have hlen' := Lib.hid hlen
      have hf : wr.frozen? ⟨w.heap.size + 1, k, none⟩ = false := frozen_of_row _ _ _ _ _ h1
      have hq : ∀ j, j < 4 → wr.cell? ⟨b, o + 4 * k + j, none⟩ = some (.int .u8 (ith l (4 * k + j))) := fun j hj => by
        rw [hb.cell (p := ⟨b, o + 4 * k + j, none⟩) hbl, Nat.add_assoc]; exact hcell'.out _ (by omega)
      have hw4 := wordOf_any b (o + 4 * k) (n - 4 * k) (c - 4 * k) wr _ _ _ _ (by omega) (hl'.out _) (hl'.out _) (hl'.out _) (hl'.out _) (hq 0 (by omega)) (hq 1 (by omega)) (hq 2 (by omega)) (hq 3 (by omega))
      have hw4' := Lib.hid hw4
      have h0' := Lib.hid h0; have h1' := Lib.hid h1
      clear hw4 hq h1 h0 hlen
      go_wp2_with (go_at_call 248; refine (hw4'.out).mono ?_; rintro e w' ⟨rfl, hd⟩; have hc := (hd.cell _).trans hc; have hf := (hd.frozen _).trans hf)
      go_roundw
      case rel =>
        refine ⟨k + 1, by omega, by go_num, (hd.below hb).setCell (by simp) _, ?_, ?_⟩
        · rw [setCell_rows _ _ _ _ (by omega), hd.heap]; exact h0'.out
        · have hh := setCell_row ((congrArg (·[w.heap.size + 1]?) hd.heap).trans h1'.out) k (.int .u32 (word4 (ith l (4 * k)) (ith l (4 * k + 1)) (ith l (4 * k + 2)) (ith l (4 * k + 3))))
          rw [u32s_set] at hh
          have hlen := hlen'.out
          rw [hh, wordsOf, ← padW_set _ _ (by omega), hlen]
      case measure => simp [intOf]; omega
    · have hk16 : k = 16 := by omega
      subst hk16
      generalize hm : wordsOf l 16 = m at *
      have hml : m.length = 16 := by rw [← hm]; exact wordsOf_length l 16
      have hm32 : All32 m := by rw [← hm]; exact wordsOf_in l hl'.out 16
      have hml' := Lib.hid hml; have hm' := Lib.hid hm; clear hml hm
      have h0' := Lib.hid h0; have h1' := Lib.hid h1; clear h0 h1
      have hm32' := Lib.hid hm32; clear hm32
      rw [show (((16 : Nat) : Int)) = 16 from rfl]
      go_wp2
      go_loopw [5, 6, 7, 8, 9] (fun i _ _ _ _ wr => ∃ k : Nat, k ≤ 48 ∧ i = .int .i64 (k + 16 : Nat) ∧ Below w.heap.size w wr ∧ wr.heap[w.heap.size]? = some (.cells (u32s (padW [])) 242 (0, 0)) ∧ wr.heap[w.heap.size + 1]? = some (.cells (u32s (padW (extW m k))) 242 (0, 0))) (fun i _ _ _ _ _ => 64 - (intOf i).toNat)
      case atStart => exact ⟨0, by omega, rfl, hb, h0'.out, h1'.out⟩
      case round =>
        clear h0' h1' hb
        obtain ⟨k, hk, rfl, hb, h0, h1⟩ := hrel
        have hml := hml'.out
        have hm32 := hm32'.out
        by_cases hlt : k < 48
        · have hlen := extW_length m k
          generalize hx : extW m k = x at *
          have hx32 : All32 x := by rw [← hx]; exact extW_in m hm32 k
          have hxl : x.length = k + 16 := by omega
          have hcg : ∀ j, j < 16 → wr.cell? ⟨w.heap.size + 1, k + j, none⟩ = some (.int .u32 (ith x (k + j))) := fun j hj => by
            rw [cell_of_row _ _ _ _ _ _ h1, u32s_get _ _ (by rw [padW_length _ (by omega)]; omega), padW_ith _ _ (by omega)]
          have c0 := hcg 0 (by omega); have c1 := hcg 1 (by omega); have c9 := hcg 9 (by omega); have c14 := hcg 14 (by omega)
          obtain ⟨u, hc⟩ : ∃ u, wr.cell? ⟨w.heap.size + 1, k + 16, none⟩ = some (.int .u32 u) := ⟨_, by rw [cell_of_row _ _ _ _ _ _ h1]; exact u32s_get _ _ (by rw [padW_length _ (by omega)]; omega)⟩
          have hf : wr.frozen? ⟨w.heap.size + 1, k + 16, none⟩ = false := frozen_of_row _ _ _ _ _ h1
          have b1 := hx32 (k + 1); have b14 := hx32 (k + 14)
          obtain ⟨b11, b12⟩ := b1; obtain ⟨b141, b142⟩ := b14
          have hh := setCell_row h1 (k + 16) (.int .u32 ((ith x k + ith x (k + 9) + sig0 (ith x (k + 1)) + sig1 (ith x (k + 14))) % 4294967296))
          have hn : nextW x = (ith x k + ith x (k + 9) + sig0 (ith x (k + 1)) + sig1 (ith x (k + 14))) % 4294967296 := by
            unfold nextW; rw [hxl, show k + 16 - 16 = k by omega, show k + 16 - 7 = k + 9 by omega, show k + 16 - 15 = k + 1 by omega, show k + 16 - 2 = k + 14 by omega]
          rw [← hn, u32s_set, show k + 16 = x.length from hxl.symm, padW_set _ _ (by omega), show x ++ [nextW x] = extW m (k + 1) by rw [extW, hx]] at hh
          rw [show x.length = k + 16 from hxl, hn] at hh
          have hh' := Lib.hid hh; have h0' := Lib.hid h0
          clear hh h0 h1 hcg hn hlen hml hm32 hx32 hxl hx
          simp only [Nat.add_zero] at c0
          go_wp2
          go_quiet (fail)
          go_wp2_with (go_at_call 247; refine (turn_any _ _ _ (by assumption) (by assumption) (by decide) (by decide)).mono ?_; rintro e w' ⟨rfl, rfl⟩)
          go_region
          go_wp2
          have hB := Below.setCell hb (p := (⟨w.heap.size + 1, k + 16, none⟩ : Addr)) (by simp) (.int .u32 ((ith x k + ith x (k + 9) + sig0 (ith x (k + 1)) + sig1 (ith x (k + 14))) % 4294967296))
          have hB0 := (setCell_rows (w := wr) (w.heap.size + 1) (k + 16) (.int .u32 ((ith x k + ith x (k + 9) + sig0 (ith x (k + 1)) + sig1 (ith x (k + 14))) % 4294967296)) w.heap.size (by omega)).trans h0'.out
          go_roundw
          case rel => exact ⟨k + 1, by omega, by go_num, ⟨hB.os, hB.tape, hB.output, hB.size, hB.block⟩, hB0, hh'.out⟩
          case measure => simp [intOf]; omega
        · have hk48 : k = 48 := by omega
          subst hk48
          have hfin : extW m 48 = spreadF l := by rw [← hm'.out]; rfl
          have hpad : padW (spreadF l) = spreadF l := by
            have := spreadF_length l
            unfold padW; rw [this]; simp
          rw [hfin, hpad] at h1
          clear hfin hpad hml hm32
          have hsz : (u32s (spreadF l)).size = 64 := by rw [u32s_size]; exact spreadF_length l
          generalize hy : spreadF l = y at *
          have hy' := Lib.hid hy; clear hy
          have h0' := Lib.hid h0; have h1' := Lib.hid h1; clear h0 h1
          have hi : (Tryz.prog.info? 242).map (·.size) = some (u32s y).size := by rw [hsz]; kernel_rfl
          have hp64 : (u32s (padW [])).size = (u32s y).size := by rw [hsz, u32s_size, padW_length _ (by simp)]
          have hi' := Lib.hid hi; have hp' := Lib.hid hp64; clear hsz hi hp64
          go_wp2_with (first | (refine wpList_load_row rfl 242 _ rfl (w.heap.size + 1) rfl 242 _ _ _ h1'.out Tryz.underlying242 rfl hi'.out ?_) | (refine wpList_store_row rfl 242 _ _ rfl w.heap.size _ rfl rfl 242 _ h0'.out hi'.out hp'.out (u32s_one _) ?_))
          try simp only [Exit.inBlock, Exit.then]
          refine bodyPost_ret (v := .agg (u32s y)) (results_cell_row rfl _ _ w.heap.size 242 _ _ _ rfl (setRow_heap _ _ _ _ _ _ h0'.out) Tryz.underlying242 rfl hi'.out) rfl ⟨by rw [hy'.out], below_setRow' hb (by omega) _⟩
end Go.Proofs.YtlbgffhipondiaaGreatDoor
namespace Go.Proofs.YtlbgffhipondiaaGreatDoor
open Go.RowKit Go.YtlbgffhipondiaaGreatDoor
set_option linter.unusedVariables false
variable {Tg Tf : TypeId}
def put4 (cs : List Int) (o : Nat) (x : Int) : List Int := (((cs.set o (x / 16777216)).set (o + 1) (x / 65536 % 256)).set (o + 2) (x / 256 % 256)).set (o + 3) (x % 256)
theorem put4_world (g o : Nat) (cs : List Int) (T : TypeId) (w : World) {x0 x1 x2 x3 : Int} (hg : w.heap[g]? = some (.cells (u8s cs) T (0, 0))) :
    (((w.setCell ⟨g, o, none⟩ (.int .u8 x0)).setCell ⟨g, o + 1, none⟩ (.int .u8 x1)).setCell ⟨g, o + 2, none⟩ (.int .u8 x2)).setCell ⟨g, o + 3, none⟩ (.int .u8 x3) = w.setRow g (u8s ((((cs.set o x0).set (o + 1) x1).set (o + 2) x2).set (o + 3) x3)) := by
  have h := fun l => setRow_heap w g (u8s cs) (u8s l) T (0, 0) hg
  rw [setCell_eq hg, u8s_set, setCell_eq (h _), u8s_set, setRow2 hg, setCell_eq (h _), u8s_set, setRow2 hg, setCell_eq (h _), u8s_set, setRow2 hg]
set_option maxHeartbeats 400000 in
theorem putWord_any (g o n c : Nat) (cs : List Int) (T : TypeId) (x : Int) (w : World) (hn : 4 ≤ n) (hx : In32 x) (hg : w.heap[g]? = some (.cells (u8s cs) T (0, 0))) (ho : o + 4 ≤ cs.length) :
    Calls Tryz.prog 196 #[.slice (some ⟨g, o, none⟩) n c, .int .u32 x] w fun e w' => e = .returned (.tuple #[]) ∧ w' = w.setRow g (u8s (put4 cs o x)) := by
  obtain ⟨hx, hx2⟩ := hx
  have hc : ∀ j, j < 4 → w.cell? ⟨g, o + j, none⟩ = some (.int .u8 (ith cs (o + j))) := fun j hj => by
    rw [cell_of_row _ _ _ _ _ _ hg]; exact u8s_get _ _ (by omega)
  have hf : ∀ j, w.frozen? ⟨g, o + j, none⟩ = false := fun j => frozen_of_row _ _ _ _ _ hg
  have c0 := hc 0 (by omega); have c1 := hc 1 (by omega); have c2 := hc 2 (by omega); have c3 := hc 3 (by omega)
  have f0 := hf 0; have f1 := hf 1; have f2 := hf 2; have f3 := hf 3
  simp only [Nat.add_zero] at c0 f0
  have hg' := Lib.hid hg
  clear hc hf hg
  go_enter Tryz.func196, Tryz.ntmps196
  go_wp2
  go_end0
  exact ⟨rfl, by unfold put4; exact put4_world _ _ _ _ _ hg'.out⟩
set_option maxHeartbeats 400000 in
theorem start_any (w : World) (hg : w.heap[0]? = some (.cells firstW.cells Tf (0, 0))) :
    Calls Tryz.prog 155 #[] w
      fun e w' => e = .returned (.agg #[.int .u32 firstW.a, .int .u32 firstW.b, .int .u32 firstW.c, .int .u32 firstW.d, .int .u32 firstW.e, .int .u32 firstW.f, .int .u32 firstW.g, .int .u32 firstW.h, .slice none 0 0, .int .i64 0]) ∧ Below w.heap.size w w' := by
  have hlt : 0 < w.heap.size := (Array.getElem?_eq_some_iff.1 hg).1
  have hg2 : ∀ o1, (w.alloc o1).heap[0]? = some (.cells firstW.cells Tf (0, 0)) := fun o1 => (hp1 w o1 _ hlt).trans hg
  simp only [firstW, V8.cells] at hg2 ⊢
  have hg' := Lib.hid hg2; clear hg hg2
  go_enter Tryz.func155, Tryz.ntmps155
  go_wp2_with (refine wpList_load_row rfl 178 _ rfl 0 rfl Tf _ _ _ (hg'.out _) Tryz.underlying178 rfl (by kernel_rfl) ?_)
  try simp only [Exit.inBlock, Exit.then]
  exact bodyPost_ret (results_cell_row rfl _ _ w.heap.size 180 _ _ _ rfl (heap_alloc_new w _) Tryz.underlying180 rfl (by kernel_rfl)) rfl ⟨rfl, (Below.refl _ _).alloc (Nat.le_refl _) _⟩
end Go.Proofs.YtlbgffhipondiaaGreatDoor
namespace Go.Proofs.YtlbgffhipondiaaGreatDoor
open Go.RowKit Go.YtlbgffhipondiaaGreatDoor
set_option linter.unusedVariables false
variable {Tg Tf : TypeId}
theorem grind_lit (v G : V8) (bl : List Int) (w : World) (hv : v.ok) (hG : groundF v bl = G) (hg : w.heap[2]? = some (.cells (u32s constW) Tg (0, 0))) :
    Calls Tryz.prog 228 #[.agg #[.int .u32 v.a, .int .u32 v.b, .int .u32 v.c, .int .u32 v.d, .int .u32 v.e, .int .u32 v.f, .int .u32 v.g, .int .u32 v.h], .agg (u32s (spreadF bl))] w fun e w' => e = .returned (.agg #[.int .u32 G.a, .int .u32 G.b, .int .u32 G.c, .int .u32 G.d, .int .u32 G.e, .int .u32 G.f, .int .u32 G.g, .int .u32 G.h]) ∧ Below w.heap.size w w' := by
  subst hG
  exact grind_any (Tg := Tg) v w hv (spreadF bl) (spreadF_length _) hg
set_option maxRecDepth 100000 in
set_option maxHeartbeats 1000000 in
theorem grindAll_some (v : V8) (b o c : Nat) (l : List Int) (w : World) (hv : v.ok) (hlc : l.length ≤ c) (hcm : c ≤ maxLen) (hl : Bytes l) (hbw : b < w.heap.size)
   (hcell : ∀ i, i < l.length → w.cell? ⟨b, o + i, none⟩ = some (.int .u8 (ith l i)))
   (hg : w.heap[2]? = some (.cells (u32s constW) Tg (0, 0))) :
    Calls Tryz.prog 194 #[.agg #[.int .u32 v.a, .int .u32 v.b, .int .u32 v.c, .int .u32 v.d, .int .u32 v.e, .int .u32 v.f, .int .u32 v.g, .int .u32 v.h], .slice (some ⟨b, o, none⟩) l.length c] w
     fun e w' => ∃ r, e = .returned (.tuple #[.agg (blocksF v l).cells, r]) ∧ RdB w' r (restF l) ∧ Below w.heap.size w w' := by
  have hcell' := Lib.hid hcell; have hg' := Lib.hid hg; have hl' := Lib.hid hl
  clear hcell hg hl
  have hgl : 2 < w.heap.size := (Array.getElem?_eq_some_iff.1 hg'.out).1
  unfold maxLen at hcm
  generalize hn : l.length = n at *
  have hn' := Lib.hid hn; clear hn
  generalize hR : (fun k => grindN v l k) = R
  have hRok : ∀ k, (R k).ok := by subst hR; exact fun k => grindN_ok v l k hv
  have hR0 : R 0 = v := by subst hR; rfl
  have hRs : ∀ k, R (k + 1) = groundF (R k) (l.drop (64 * k)) := by subst hR; intro k; rfl
  have hRok' := Lib.hid hRok; have hR0' := Lib.hid hR0; have hRs' := Lib.hid hRs; have hR' := Lib.hid hR
  clear hRok hR0 hRs hR
  go_enter Tryz.func194, Tryz.ntmps194
  go_wp2
  go_loopw [1] (fun s wr => ∃ k o' : Nat, 64 * k ≤ n ∧ s = .slice (some ⟨b, o', none⟩) (n - 64 * k) (c - 64 * k) ∧ (0 < c - 64 * k → o' = o + 64 * k) ∧ Below w.heap.size w wr ∧ wr.heap[w.heap.size]? = some (.cells (u32s (R k).list) 178 (0, 0)) ∧ wr.heap[w.heap.size + 1]? = some (.cells (u32s [0, 0, 0, 0, 0, 0, 0, 0]) 178 (0, 0))) (fun s _ => lenS s)
  case atStart =>
    refine ⟨0, o, by omega, rfl, fun _ => rfl, ((Below.refl _ _).alloc (Nat.le_refl _) _).alloc (by simp) _, ?_, hn2 w _ _⟩
    rw [hR0'.out]; exact (hp1 _ _ _ (by simp)).trans (heap_alloc_new w _)
  case round =>
    obtain ⟨k, o', hk, rfl, ho', hb, h0, h1⟩ := hrel
    have h0' := Lib.hid h0; have h1' := Lib.hid h1; have ho'' := Lib.hid ho'; clear h0 h1 ho'
    by_cases hlt : 64 ≤ n - 64 * k
    · have hsp : ∀ i, i < 64 → wr.cell? ⟨b, o' + i, none⟩ = some (.int .u8 (ith (l.drop (64 * k)) i)) := fun i hi => by
        rw [hb.cell (p := (⟨b, o' + i, none⟩ : Addr)) hbw, ho''.out (by omega), ith_drop, Nat.add_assoc]; exact hcell'.out _ (by omega)
      have hsp' := Lib.hid hsp; clear hsp
      have hgr : wr.heap[2]? = some (.cells (u32s constW) Tg (0, 0)) := (hb.block _ hgl).trans hg'.out
      have hgr' := Lib.hid hgr; clear hgr
      obtain ⟨c0, c1, c2, c3, c4, c5, c6, c7⟩ := cells8 h0'.out
      have hsz : w.heap.size + 1 < wr.heap.size := (Array.getElem?_eq_some_iff.1 h1'.out).1
      go_wp2
      go_region_with (first | (go_at_call 229; refine (spread_any b o' 64 (c - 64 * k) (l.drop (64 * k)) _ (Nat.le_refl _) ?_ ?_ (bytes_drop _ _ hl'.out) ?_).mono ?_; (omega); (unfold maxLen; omega); (exact hsp'.out); rintro e w1 ⟨rfl, hb1⟩; have hz1 : w.heap.size + 1 < w1.heap.size := Nat.lt_of_lt_of_le hsz hb1.size; have hx0 := (hb1.block w.heap.size (by simp; omega)).trans h0'.out; have hx1 := (hb1.block (w.heap.size + 1) (by simp; omega)).trans h1'.out; have hxg := (hb1.block 2 (by simp; omega)).trans hgr'.out; obtain ⟨d0, d1, d2, d3, d4, d5, d6, d7⟩ := cells8 hx0; have hx0' := Lib.hid hx0; have hx1' := Lib.hid hx1; have hxg' := Lib.hid hxg; clear hx0 hx1 hxg) | (go_at_call 228; refine (grind_lit (Tg := Tg) (R k) (R (k + 1)) (l.drop (64 * k)) _ (hRok'.out k) (hRs'.out k).symm ?_).mono ?_; (exact hxg'.out); rintro e w2 ⟨rfl, hb2⟩; have hy0 := (hb2.block w.heap.size (by omega)).trans hx0'.out; have hy1 := (hb2.block (w.heap.size + 1) (by omega)).trans hx1'.out; obtain ⟨e0, e1, e2, e3, e4, e5, e6, e7⟩ := cells8 hy0; obtain ⟨f0, f1, f2, f3, f4, f5, f6, f7⟩ := frozen8 hy0; have hy0' := Lib.hid hy0; have hy1' := Lib.hid hy1; clear hy0 hy1))
      all_goals
        go_wp2
        go_roundw
        case rel =>
          rw [set8_world hy0'.out]
          have hB : Below w.heap.size w w2 := (hb.drew.trans (hb1.mono (show w.heap.size ≤ wr.heap.size by omega))).trans (hb2.mono (by omega))
          have hB1 := below_setRow' hB (Nat.le_refl _) (u32s (R (k + 1)).list)
          have hB2 := setRow_heap w2 w.heap.size (u32s (R k).list) (u32s (R (k + 1)).list) 178 (0, 0) hy0'.out
          have hB3 := (setRow_other w2 w.heap.size (w.heap.size + 1) (u32s (R (k + 1)).list) (by omega)).trans hy1'.out
          by_cases hcc : c - 64 * k = 64
          · exact ⟨k + 1, o', by omega, by rw [if_pos hcc]; exact slice_eq rfl (by omega) (by omega), fun h => by omega, hB1, hB2, hB3⟩
          · exact ⟨k + 1, o' + 64, by omega, by rw [if_neg hcc]; exact slice_eq rfl (by omega) (by omega), fun h => by have := ho''.out (by omega); omega, hB1, hB2, hB3⟩
        case measure => simp [lenS]; omega
    · have hk' : k = n / 64 := by omega
      subst hk'
      have hRk : R (n / 64) = blocksF v l := by rw [← hR'.out, ← hn'.out]; rfl
      have hrest : RdB w (.slice (some ⟨b, o', none⟩) (n - 64 * (n / 64)) (c - 64 * (n / 64))) (restF l) := by
        have hlen : (restF l).length = n - 64 * (n / 64) := by rw [restF_length, hn'.out]; omega
        refine .inr ⟨b, o', c - 64 * (n / 64), by rw [hlen], by omega, by unfold maxLen; omega, hbw, fun i hi => ?_⟩
        unfold restF
        rw [ith_drop, hn'.out]
        by_cases hc0 : 0 < c - 64 * (n / 64)
        · rw [ho''.out hc0, Nat.add_assoc]; exact hcell'.out _ (by omega)
        · omega
      rw [hRk] at h0'
      have hrest' := Lib.hid hrest; clear hrest hRk
      go_wp2_with (first | (refine wpList_load_row rfl 178 _ rfl w.heap.size rfl 178 _ _ _ h0'.out Tryz.underlying178 rfl (by kernel_rfl) ?_) | (refine wpList_store_row rfl 178 _ _ rfl (w.heap.size + 1) _ rfl rfl 178 _ h1'.out (by kernel_rfl) (by simp [u32s, V8.list]) (u32s_one _) ?_))
      try simp only [Exit.inBlock, Exit.then]
      refine bodyPost_ret (results_row_tmp rfl _ _ (w.heap.size + 1) 178 _ _ _ rfl (setRow_heap _ _ _ _ _ _ h1'.out) Tryz.underlying178 rfl (by kernel_rfl)) rfl ⟨_, rfl, ?_, below_setRow' hb (by omega) _⟩
      exact hrest'.out.mono (below_setRow' (g := w.heap.size + 1) hb (by omega) _)
set_option maxRecDepth 100000 in
set_option maxHeartbeats 1000000 in
theorem grindAll_none (v : V8) (a : Option Addr) (c : Nat) (w : World) :
    Calls Tryz.prog 194 #[.agg #[.int .u32 v.a, .int .u32 v.b, .int .u32 v.c, .int .u32 v.d, .int .u32 v.e, .int .u32 v.f, .int .u32 v.g, .int .u32 v.h], .slice a 0 c] w
     fun e w' => e = .returned (.tuple #[.agg v.cells, .slice a 0 c]) ∧ Below w.heap.size w w' := by
  go_enter Tryz.func194, Tryz.ntmps194
  go_wp2
  go_rounds 2
  try simp only [Exit.inBlock, Exit.then]
  exact bodyPost_ret (results_row_tmp rfl _ _ (w.heap.size + 1) 178 _ _ _ rfl (hn2 w _ _) Tryz.underlying178 rfl (by kernel_rfl)) rfl ⟨rfl, ((Below.refl _ _).alloc (Nat.le_refl _) _).alloc (by simp) _⟩
theorem grindAll_any (v : V8) (bv : Value) (l : List Int) (w : World) (hv : v.ok) (hl : Bytes l) (hr : RdB w bv l)
   (hg : w.heap[2]? = some (.cells (u32s constW) Tg (0, 0))) :
    Calls Tryz.prog 194 #[.agg #[.int .u32 v.a, .int .u32 v.b, .int .u32 v.c, .int .u32 v.d, .int .u32 v.e, .int .u32 v.f, .int .u32 v.g, .int .u32 v.h], bv] w
     fun e w' => ∃ r, e = .returned (.tuple #[.agg (blocksF v l).cells, r]) ∧ RdB w' r (restF l) ∧ Below w.heap.size w w' := by
  rcases hr with ⟨a, c, rfl, hn, rfl⟩ | ⟨b, o, c, rfl, h1, h2, h3, h4⟩
  · exact (grindAll_none v a c w).mono fun e w' ⟨he, hb⟩ => ⟨_, he, .inl ⟨a, c, rfl, hn, rfl⟩, hb⟩
  · exact grindAll_some (Tg := Tg) v b o c l w hv h1 h2 hl h3 h4 hg
end Go.Proofs.YtlbgffhipondiaaGreatDoor
namespace Go.Proofs.YtlbgffhipondiaaGreatDoor
open Go.RowKit Go.YtlbgffhipondiaaGreatDoor
set_option linter.unusedVariables false
theorem put4_at (L S : List Int) (a b c d x : Int) : put4 (L ++ a :: b :: c :: d :: S) L.length x = L ++ (be4 x ++ S) := by
  unfold put4 be4
  rw [List.set_append_right _ _ (Nat.le_refl _), List.set_append_right _ _ (by omega), List.set_append_right _ _ (by omega), List.set_append_right _ _ (by omega)]
  simp
theorem put4_append (L : List Int) (a b c d x : Int) : put4 (L ++ [a, b, c, d]) L.length x = L ++ be4 x := by
  rw [put4_at]; simp
theorem overlay_ending (r : List Int) (sz : Nat) (N : Nat) (h : r.length + 5 ≤ sz) (hsz : endSize r.length = sz) :
    put4 ((overlay (zerosB sz) 0 r).set r.length 128) (sz - 4) (8 * (N : Int)) = endingF r N := by
  have e1 : (overlay (zerosB sz) 0 r).set r.length 128 = (r ++ [128] ++ List.replicate (sz - 4 - (r.length + 1)) 0) ++ [0, 0, 0, 0] := by
    have e2 : List.replicate (sz - r.length) (0 : Int) = 0 :: (List.replicate (sz - 4 - (r.length + 1)) 0 ++ [0, 0, 0, 0]) := by
      have : sz - r.length = (sz - 4 - (r.length + 1)) + 4 + 1 := by omega
      rw [this, List.replicate_succ]
      congr 1
      rw [← List.replicate_append_replicate]
      rfl
    have e3 : overlay (zerosB sz) 0 r = r ++ List.replicate (sz - r.length) 0 := by simp [overlay, zerosB]
    rw [e3, List.set_append_right _ _ (Nat.le_refl _), Nat.sub_self, e2, List.set_cons_zero]
    simp
  have e4 : (r ++ [128] ++ List.replicate (sz - 4 - (r.length + 1)) (0 : Int)).length = sz - 4 := by simp; omega
  have e5 := put4_append (r ++ [128] ++ List.replicate (sz - 4 - (r.length + 1)) (0 : Int)) 0 0 0 0 (8 * (N : Int))
  rw [e4] at e5
  rw [e1, e5]
  unfold endingF
  rw [hsz]
theorem rd_row {w : World} {g : Nat} {cs : List Int} {E : TypeId} (hg : w.heap[g]? = some (.cells (u8s cs) E (0, 0))) (n c : Nat) (hn : cs.length = n) (hc : n ≤ c) (hm : c ≤ maxLen) :
    RdB w (.slice (some ⟨g, 0, none⟩) n c) cs :=
  .inr ⟨g, 0, c, by rw [hn], by omega, hm, (Array.getElem?_eq_some_iff.1 hg).1, fun i hi => by rw [Nat.zero_add, cell_of_row _ _ _ _ _ _ hg]; exact u8s_get _ _ hi⟩
set_option maxRecDepth 100000 in
set_option maxHeartbeats 1000000 in
theorem ending_any (v : V8) (rv : Value) (r : List Int) (N : Nat) (w : World) (hN : N ≤ 200000) (hr : RdB w rv r) (hrl : r.length < 64) :
    Calls Tryz.prog 195 #[.agg #[.int .u32 v.a, .int .u32 v.b, .int .u32 v.c, .int .u32 v.d, .int .u32 v.e, .int .u32 v.f, .int .u32 v.g, .int .u32 v.h, rv, .int .i64 N]] w fun e w' => ∃ b', e = .returned b' ∧ RdB w' b' (endingF r N) ∧ Below w.heap.size w w' := by
  obtain ⟨ra, rc, rfl⟩ := hr.slice
  have hrW : ∀ o1 o2, RdB ((w.alloc o1).alloc o2) (.slice ra r.length rc) r := fun o1 o2 => hr.mono (((Below.refl _ _).alloc (Nat.le_refl _) _).alloc (by simp) _)
  have hrW' := Lib.hid hrW; clear hrW hr
  have hmk : ∀ wx, (Instr.makeSlice 101 (.int .i64 64) (.int .i64 64)).run Tryz.prog wx = .ok (.slice (some ⟨wx.heap.size, 0, none⟩) 64 64) (wx.alloc (.cells (u8s (zerosB 64)) 5)) := fun wx => run_makeB wx _ _ Tryz.underlying101 (by kernel_rfl) 64 64 (by omega) (by omega)
  have hmk2 : ∀ wx, (Instr.makeSlice 101 (.int .i64 128) (.int .i64 128)).run Tryz.prog wx = .ok (.slice (some ⟨wx.heap.size, 0, none⟩) 128 128) (wx.alloc (.cells (u8s (zerosB 128)) 5)) := fun wx => run_makeB wx _ _ Tryz.underlying101 (by kernel_rfl) 128 128 (by omega) (by omega)
  go_enter Tryz.func195, Tryz.ntmps195
  by_cases hc : 64 < r.length + 9
  · have hend : endSize r.length = 128 := by unfold endSize; first | rw [if_pos (by omega)] | rw [if_neg (by omega)]
    have hend' := Lib.hid hend; clear hend
    have hp1' : r.length < 128 := by omega
    have hp2' : r.length + 5 ≤ 128 := by omega
    go_wp2_with (refine copyB rfl _ _ 101 101 rfl 5 Tryz.underlying101 (by kernel_rfl) (w.heap.size + 1) 0 128 128 rfl (.slice ra r.length rc) rfl r (hrW'.out _ _) (zerosB 128) 5 (hn2 w _ _) (by omega) (by rw [zerosB_length]; omega) ?_)
    intro W1 hW1
    have hq1 : W1.heap[w.heap.size + 1]? = some (.cells (u8s (overlay (zerosB 128) 0 r)) 5 (0, 0)) := by rw [hW1.out]; exact setRow_heap _ _ _ _ _ _ (hn2 w _ _)
    have hq0 : W1.heap[w.heap.size]? = some (.cells #[.int .u32 v.a, .int .u32 v.b, .int .u32 v.c, .int .u32 v.d, .int .u32 v.e, .int .u32 v.f, .int .u32 v.g, .int .u32 v.h, .slice ra r.length rc, .int .i64 N] 180 (0, 0)) := by rw [hW1.out, setRow_other _ _ _ _ (by omega)]; exact (hp1 _ _ _ (by simp)).trans (heap_alloc_new w _)
    have c8 : W1.cell? ⟨w.heap.size, 8, none⟩ = some (.slice ra r.length rc) := by rw [cell_of_row _ _ _ _ _ _ hq0]; rfl
    have c9 : W1.cell? ⟨w.heap.size, 9, none⟩ = some (.int .i64 N) := by rw [cell_of_row _ _ _ _ _ _ hq0]; rfl
    have hB1 : Below w.heap.size w W1 := by rw [hW1.out]; exact below_setRow' (((Below.refl _ _).alloc (Nat.le_refl _) _).alloc (by simp) _) (by omega) _
    have hlen : (overlay (zerosB 128) 0 r).length = 128 := by simp [overlay, zerosB_length]; omega
    have hfz := frozen_of_row _ _ r.length _ _ hq1
    have hcz := (cell_of_row _ _ r.length _ _ _ hq1).trans (u8s_get _ _ (by omega))
    have hq2 := setCell_row hq1 r.length (.int .u8 128)
    rw [u8s_set] at hq2
    have hq2' := Lib.hid hq2; have hlen' := Lib.hid hlen
    clear hq1 hq0 hW1 hq2 hlen hmk hmk2
    have hB2 := Below.setCell hB1 (p := (⟨w.heap.size + 1, r.length, none⟩ : Addr)) (by simp) (.int .u8 128)
    refine Stop.go ?_
    go_wp2
    have hA2 : In32 (8 * (N : Int)) := ⟨by omega, by omega⟩
    have hA3 : Hid (124 + 4 ≤ ((overlay (zerosB 128) 0 r).set r.length 128).length) := Lib.hid (by rw [List.length_set, hlen'.out]; omega)
    have hwr1 : IntKind.i64.wrap (8 * (N : Int)) = 8 * (N : Int) := IntWalk.i64_in _ (by omega)
    have hwr2 : IntKind.u32.wrap (8 * (N : Int)) = 8 * (N : Int) := IntWalk.u32_in _ (by omega)
    go_region_with (go_at_call 196; refine (putWord_any (w.heap.size + 1) 124 4 4 _ 5 (8 * (N : Int)) _ (Nat.le_refl _) hA2 ?_ hA3.out).mono ?_; (exact hq2'.out); rintro e w' ⟨rfl, hw'⟩; have hw'' := Lib.hid hw'; clear hw' hwr1 hwr2)
    all_goals
      go_wp2
      go_ret
      refine ⟨_, rfl, ?_, ?_⟩
      · refine rd_row (E := 5) (by rw [hw''.out, overlay_ending r 128 N hp2' hend'.out]; exact setRow_heap _ _ _ _ _ _ hq2'.out) 128 128 ?_ (Nat.le_refl _) (by unfold maxLen; omega)
        rw [endingF_length _ _ hrl]; exact hend'.out
      · rw [hw''.out]; have hB3 : Below w.heap.size w ((W1.setCell ⟨w.heap.size + 1, r.length, none⟩ (.int .u8 128)).drew) := hB2.drew; exact below_setRow' (g := w.heap.size + 1) hB3 (by omega) _
  · have hend : endSize r.length = 64 := by unfold endSize; first | rw [if_pos (by omega)] | rw [if_neg (by omega)]
    have hend' := Lib.hid hend; clear hend
    have hp1' : r.length < 64 := by omega
    have hp2' : r.length + 5 ≤ 64 := by omega
    go_wp2_with (refine copyB rfl _ _ 101 101 rfl 5 Tryz.underlying101 (by kernel_rfl) (w.heap.size + 1) 0 64 64 rfl (.slice ra r.length rc) rfl r (hrW'.out _ _) (zerosB 64) 5 (hn2 w _ _) (by omega) (by rw [zerosB_length]; omega) ?_)
    intro W1 hW1
    have hq1 : W1.heap[w.heap.size + 1]? = some (.cells (u8s (overlay (zerosB 64) 0 r)) 5 (0, 0)) := by rw [hW1.out]; exact setRow_heap _ _ _ _ _ _ (hn2 w _ _)
    have hq0 : W1.heap[w.heap.size]? = some (.cells #[.int .u32 v.a, .int .u32 v.b, .int .u32 v.c, .int .u32 v.d, .int .u32 v.e, .int .u32 v.f, .int .u32 v.g, .int .u32 v.h, .slice ra r.length rc, .int .i64 N] 180 (0, 0)) := by rw [hW1.out, setRow_other _ _ _ _ (by omega)]; exact (hp1 _ _ _ (by simp)).trans (heap_alloc_new w _)
    have c8 : W1.cell? ⟨w.heap.size, 8, none⟩ = some (.slice ra r.length rc) := by rw [cell_of_row _ _ _ _ _ _ hq0]; rfl
    have c9 : W1.cell? ⟨w.heap.size, 9, none⟩ = some (.int .i64 N) := by rw [cell_of_row _ _ _ _ _ _ hq0]; rfl
    have hB1 : Below w.heap.size w W1 := by rw [hW1.out]; exact below_setRow' (((Below.refl _ _).alloc (Nat.le_refl _) _).alloc (by simp) _) (by omega) _
    have hlen : (overlay (zerosB 64) 0 r).length = 64 := by simp [overlay, zerosB_length]; omega
    have hfz := frozen_of_row _ _ r.length _ _ hq1
    have hcz := (cell_of_row _ _ r.length _ _ _ hq1).trans (u8s_get _ _ (by omega))
    have hq2 := setCell_row hq1 r.length (.int .u8 128)
    rw [u8s_set] at hq2
    have hq2' := Lib.hid hq2; have hlen' := Lib.hid hlen
    clear hq1 hq0 hW1 hq2 hlen hmk hmk2
    have hB2 := Below.setCell hB1 (p := (⟨w.heap.size + 1, r.length, none⟩ : Addr)) (by simp) (.int .u8 128)
    refine Stop.go ?_
    go_wp2
    have hA2 : In32 (8 * (N : Int)) := ⟨by omega, by omega⟩
    have hA3 : Hid (60 + 4 ≤ ((overlay (zerosB 64) 0 r).set r.length 128).length) := Lib.hid (by rw [List.length_set, hlen'.out]; omega)
    have hwr1 : IntKind.i64.wrap (8 * (N : Int)) = 8 * (N : Int) := IntWalk.i64_in _ (by omega)
    have hwr2 : IntKind.u32.wrap (8 * (N : Int)) = 8 * (N : Int) := IntWalk.u32_in _ (by omega)
    go_region_with (go_at_call 196; refine (putWord_any (w.heap.size + 1) 60 4 4 _ 5 (8 * (N : Int)) _ (Nat.le_refl _) hA2 ?_ hA3.out).mono ?_; (exact hq2'.out); rintro e w' ⟨rfl, hw'⟩; have hw'' := Lib.hid hw'; clear hw' hwr1 hwr2)
    all_goals
      go_wp2
      go_ret
      refine ⟨_, rfl, ?_, ?_⟩
      · refine rd_row (E := 5) (by rw [hw''.out, overlay_ending r 64 N hp2' hend'.out]; exact setRow_heap _ _ _ _ _ _ hq2'.out) 64 64 ?_ (Nat.le_refl _) (by unfold maxLen; omega)
        rw [endingF_length _ _ hrl]; exact hend'.out
      · rw [hw''.out]; have hB3 : Below w.heap.size w ((W1.setCell ⟨w.heap.size + 1, r.length, none⟩ (.int .u8 128)).drew) := hB2.drew; exact below_setRow' (g := w.heap.size + 1) hB3 (by omega) _
end Go.Proofs.YtlbgffhipondiaaGreatDoor
namespace Go.Proofs.YtlbgffhipondiaaGreatDoor
open Go.RowKit Go.YtlbgffhipondiaaGreatDoor
set_option linter.unusedVariables false
variable {Tg Tf : TypeId}
theorem grindAll_lit (v G : V8) (bv : Value) (l : List Int) (w : World) (hG : blocksF v l = G) (hv : v.ok) (hl : Bytes l) (hr : RdB w bv l)
   (hg : w.heap[2]? = some (.cells (u32s constW) Tg (0, 0))) :
    Calls Tryz.prog 194 #[.agg #[.int .u32 v.a, .int .u32 v.b, .int .u32 v.c, .int .u32 v.d, .int .u32 v.e, .int .u32 v.f, .int .u32 v.g, .int .u32 v.h], bv] w
     fun e w' => ∃ r, e = .returned (.tuple #[.agg #[.int .u32 G.a, .int .u32 G.b, .int .u32 G.c, .int .u32 G.d, .int .u32 G.e, .int .u32 G.f, .int .u32 G.g, .int .u32 G.h], r]) ∧ RdB w' r (restF l) ∧ Below w.heap.size w w' := by
  subst hG
  exact grindAll_any (Tg := Tg) v bv l w hv hl hr hg
set_option maxRecDepth 100000 in
set_option maxHeartbeats 1000000 in
theorem put_any (v G : V8) (rv : Value) (r : List Int) (N : Nat) (bv : Value) (l : List Int) (w : World) (hv : v.ok) (hr : RdB w rv r) (hl : RdB w bv l) (hrb : Bytes r) (hlb : Bytes l) (hrl : r.length < 64) (hN : N + l.length ≤ 200000) (hG : blocksF v (r ++ l) = G)
   (hg : w.heap[2]? = some (.cells (u32s constW) Tg (0, 0))) :
    Calls Tryz.prog 156 #[.agg #[.int .u32 v.a, .int .u32 v.b, .int .u32 v.c, .int .u32 v.d, .int .u32 v.e, .int .u32 v.f, .int .u32 v.g, .int .u32 v.h, rv, .int .i64 N], bv] w
     fun e w' => ∃ r', e = .returned (.agg #[.int .u32 G.a, .int .u32 G.b, .int .u32 G.c, .int .u32 G.d, .int .u32 G.e, .int .u32 G.f, .int .u32 G.g, .int .u32 G.h, r', .int .i64 (N + l.length : Nat)]) ∧ OwnB w.heap.size 5 w' r' (restF (r ++ l)) ∧ Below w.heap.size w w' := by
  have hG' := Lib.hid hG; clear hG
  obtain ⟨ra, rc, rfl⟩ := hr.slice
  obtain ⟨ba, bc, rfl⟩ := hl.slice
  have hlt : 2 < w.heap.size := (Array.getElem?_eq_some_iff.1 hg).1
  have hmk : ∀ wx, (Instr.makeSlice 101 (.int .i64 0) (.int .i64 ((r.length : Int) + (l.length : Int)))).run Tryz.prog wx = .ok (.slice (some ⟨wx.heap.size, 0, none⟩) 0 (r.length + l.length)) (wx.alloc (.cells (u8s (zerosB (r.length + l.length))) 5)) := fun wx => run_makeB wx _ _ Tryz.underlying101 (by kernel_rfl) 0 (r.length + l.length) (by omega) (by omega)
  have hrW : ∀ o1 o2 o3, RdB (((w.alloc o1).alloc o2).alloc o3) (.slice ra r.length rc) r := fun o1 o2 o3 => hr.mono ((((Below.refl _ _).alloc (Nat.le_refl _) _).alloc (by simp) _).alloc (by simp; omega) _)
  have hrW' := Lib.hid hrW; have hl' := Lib.hid hl; have hg' := Lib.hid hg; clear hrW hl hg hr
  have hown : ∀ o1 o2, OwnB (w.heap.size + 2) 5 (((w.alloc o1).alloc o2).alloc (.cells (u8s (zerosB (r.length + l.length))) 5)) (.slice (some ⟨w.heap.size + 2, 0, none⟩) 0 (r.length + l.length)) [] := by
    intro o1 o2
    have h := World.ownsRow_made ((w.alloc o1).alloc o2) (base := w.heap.size + 2) (e := 5) (size := 1) (u8s (zerosB (r.length + l.length))) (r.length + l.length) (by simp) (by unfold maxLen; omega) (by rw [u8s_size, zerosB_length]; omega)
    rw [World.size_alloc, World.size_alloc] at h
    exact h
  have hown' := Lib.hid hown; clear hown
  go_enter Tryz.func156, Tryz.ntmps156
  go_wp2_with (refine appendB rfl _ _ 101 rfl (w.heap.size + 2) 5 Tryz.underlying101 (by kernel_rfl) _ rfl [] (hown'.out _ _) _ rfl r (hrW'.out _ _ _) (by simp; omega) (by simp) ?_)
  intro v1 w1 ho1 hg1
  have hW : w1.heap[w.heap.size]? = some (.cells #[.int .u32 v.a, .int .u32 v.b, .int .u32 v.c, .int .u32 v.d, .int .u32 v.e, .int .u32 v.f, .int .u32 v.g, .int .u32 v.h, .slice ra r.length rc, .int .i64 N] 180 (0, 0)) ∧ w1.heap[w.heap.size + 1]? = some (.cells #[.int .u32 0, .int .u32 0, .int .u32 0, .int .u32 0, .int .u32 0, .int .u32 0, .int .u32 0, .int .u32 0, .slice none 0 0, .int .i64 0] 180 (0, 0)) ∧ Below w.heap.size w w1 ∧ w.heap.size + 2 ≤ w1.heap.size := by
    have hb := OwnB.below (hown'.out _ _) hg1 (by simp)
    refine ⟨(hb.block _ (by omega)).trans ?_, (hb.block _ (by omega)).trans ?_, ?_, Nat.le_trans (by simp) hb.size⟩
    · exact (hp2 _ _ _ _ (by simp)).trans (heap_alloc_new w _)
    · exact (hp1 _ _ _ (by simp)).trans (hn2 w _ _)
    · exact ((((Below.refl _ _).alloc (Nat.le_refl _) _).alloc (by simp) _).alloc (by simp; omega) _).trans (hb.mono (by omega))
  obtain ⟨hq0, hq1, hB1, hz1⟩ := hW
  have hl1 := hl'.out.mono hB1
  have hq0' := Lib.hid hq0; have hq1' := Lib.hid hq1; have hl1' := Lib.hid hl1; have ho1' := Lib.hid ho1; have hz1' := Lib.hid hz1
  clear hq0 hq1 hl1 hg1 ho1 hmk
  refine Stop.go ?_
  go_wp2_with (refine appendB rfl _ _ 101 rfl (w.heap.size + 2) 5 Tryz.underlying101 (by kernel_rfl) _ rfl _ ho1'.out _ rfl l hl1'.out (by omega) hz1'.out ?_)
  intro v2 w2 ho2 hg2
  have hb := OwnB.below ho1'.out hg2 hz1'.out
  have hq0 := (hb.block _ (by omega)).trans hq0'.out
  have hq1 := (hb.block _ (by omega)).trans hq1'.out
  have hB2 : Below w.heap.size w w2 := hB1.trans (hb.mono (by omega))
  have hz2 := Nat.le_trans hz1'.out hb.size
  have hgr2 := (hB2.block _ hlt).trans hg'.out
  have hc : ∀ j, w2.cell? ⟨w.heap.size, j, none⟩ = (#[.int .u32 v.a, .int .u32 v.b, .int .u32 v.c, .int .u32 v.d, .int .u32 v.e, .int .u32 v.f, .int .u32 v.g, .int .u32 v.h, .slice ra r.length rc, .int .i64 N] : Array Value)[j]? := fun j => cell_of_row _ _ _ _ _ _ hq0
  have c0 := hc 0; have c1 := hc 1; have c2 := hc 2; have c3 := hc 3; have c4 := hc 4; have c5 := hc 5; have c6 := hc 6; have c7 := hc 7
  simp at c0 c1 c2 c3 c4 c5 c6 c7
  clear hq0' hq1' hl1' ho1' hz1' hB1 hg2 hb hc hrW' hown'
  have hq0' := Lib.hid hq0; have hq1' := Lib.hid hq1; have ho2' := Lib.hid ho2; have hz2' := Lib.hid hz2; have hgr2' := Lib.hid hgr2
  clear hq0 hq1 ho2 hgr2
  refine Stop.go ?_
  go_upto_region 5 with (go_at_call 194; refine (grindAll_lit (Tg := Tg) v G v2 (r ++ l) _ hG'.out hv (bytes_append _ _ hrb hlb) ho2'.out.rd hgr2'.out).mono ?_; rintro e w3 ⟨rest, rfl, hr3, hb3⟩; have hr3' := Lib.hid hr3; have hb3' := Lib.hid hb3; clear hr3 hb3)
  clear c0 c1 c2 c3 c4 c5 c6 c7
  obtain ⟨qa, qc, rfl⟩ := hr3'.out.slice
  have hz3 := Nat.le_trans hz2'.out hb3'.out.size
  have hq0 := (hb3'.out.block _ (by have := hz2'.out; omega)).trans hq0'.out
  have hq1 := (hb3'.out.block _ (by have := hz2'.out; omega)).trans hq1'.out
  have c9 : w3.cell? ⟨w.heap.size, 9, none⟩ = some (.int .i64 N) := by rw [cell_of_row _ _ _ _ _ _ hq0]; rfl
  have d : ∀ j, w3.cell? ⟨w.heap.size + 1, j, none⟩ = (#[.int .u32 0, .int .u32 0, .int .u32 0, .int .u32 0, .int .u32 0, .int .u32 0, .int .u32 0, .int .u32 0, .slice none 0 0, .int .i64 0] : Array Value)[j]? := fun j => cell_of_row _ _ _ _ _ _ hq1
  have hB3 : Below w.heap.size w w3 := hB2.trans (hb3'.out.mono (by have := hz2'.out; omega))
  have hS : IntKind.i64.wrap ((N : Int) + (l.length : Int)) = (N : Int) + (l.length : Int) := IntWalk.i64_in _ (by omega)
  have hlen : Hid (([] : List Int).length + (restF (r ++ l)).length ≤ 140737488355328) := Lib.hid (by have := restF_length (r ++ l); rw [List.length_nil]; omega)
  generalize hWx : w3.alloc (Obj.cells #[Value.int IntKind.u32 G.a, Value.int IntKind.u32 G.b, Value.int IntKind.u32 G.c, Value.int IntKind.u32 G.d, Value.int IntKind.u32 G.e, Value.int IntKind.u32 G.f, Value.int IntKind.u32 G.g, Value.int IntKind.u32 G.h] 178) = Wx
  have hWb : Below w3.heap.size w3 Wx := by rw [← hWx]; exact (Below.refl _ _).alloc (Nat.le_refl _) _
  have hWz : Wx.heap.size = w3.heap.size + 1 := by rw [← hWx]; simp
  have hWn : Wx.heap[w3.heap.size]? = some (.cells #[.int .u32 G.a, .int .u32 G.b, .int .u32 G.c, .int .u32 G.d, .int .u32 G.e, .int .u32 G.f, .int .u32 G.g, .int .u32 G.h] 178 (0, 0)) := by rw [← hWx]; exact heap_alloc_new _ _
  have hrx := hr3'.out.mono hWb
  have hq0x := (hWb.block _ (by omega)).trans hq0
  have hq1x := (hWb.block _ (by omega)).trans hq1
  clear hWx c9 d hq0 hq1
  have facts : ∀ w4 : World, Below (w3.heap.size + 1) Wx w4 → (∀ j, w4.cell? ⟨w3.heap.size, j, none⟩ = (#[.int .u32 G.a, .int .u32 G.b, .int .u32 G.c, .int .u32 G.d, .int .u32 G.e, .int .u32 G.f, .int .u32 G.g, .int .u32 G.h] : Array Value)[j]?) ∧ w4.cell? ⟨w.heap.size, 9, none⟩ = some (.int .i64 N) ∧ (∀ j, w4.cell? ⟨w.heap.size + 1, j, none⟩ = (#[.int .u32 0, .int .u32 0, .int .u32 0, .int .u32 0, .int .u32 0, .int .u32 0, .int .u32 0, .int .u32 0, .slice none 0 0, .int .i64 0] : Array Value)[j]?) ∧ (∀ j, w4.frozen? ⟨w.heap.size + 1, j, none⟩ = false) ∧ Hid (w4.heap[w.heap.size + 1]? = some (.cells #[.int .u32 0, .int .u32 0, .int .u32 0, .int .u32 0, .int .u32 0, .int .u32 0, .int .u32 0, .int .u32 0, .slice none 0 0, .int .i64 0] 180 (0, 0))) := by
    intro w4 hb
    refine ⟨fun j => ?_, ?_, fun j => ?_, fun j => ?_, (hb.block _ (by omega)).trans hq1x⟩
    · exact cell_of_row _ _ _ _ _ _ ((hb.block _ (by omega)).trans hWn)
    · rw [cell_of_row _ _ _ _ _ _ ((hb.block _ (by omega)).trans hq0x)]; rfl
    · exact cell_of_row _ _ _ _ _ _ ((hb.block _ (by omega)).trans hq1x)
    · exact frozen_of_row _ _ _ _ _ ((hb.block _ (by omega)).trans hq1x)
  obtain ⟨ha, c9, hda, hfa, _⟩ := facts Wx (Below.refl _ _)
  have facts' := Lib.hid facts; have hrx' := Lib.hid hrx; have hWz' := Lib.hid hWz; have hWb' := Lib.hid hWb
  have a0 := ha 0; have a1 := ha 1; have a2 := ha 2; have a3 := ha 3; have a4 := ha 4; have a5 := ha 5; have a6 := ha 6; have a7 := ha 7
  simp at a0 a1 a2 a3 a4 a5 a6 a7
  clear facts ha hda hfa hrx hWz hWb hWn hq0x hq1x
  go_region_law ((refine step_appendB rfl _ _ 101 rfl (w3.heap.size + 1) 5 Tryz.underlying101 (by kernel_rfl) (.slice none 0 0) rfl [] (OwnB.nil _ _ _) (.slice qa (restF (r ++ l)).length qc) rfl (restF (r ++ l)) ?_ hlen.out ?_ ?_; (exact hrx'.out); (show w3.heap.size + 1 ≤ Wx.heap.size; rw [hWz'.out]; exact Nat.le_refl _); intro v4 w4 ho4 hg4; rw [List.nil_append] at ho4; obtain ⟨pa, pc, rfl⟩ := ho4.rd.slice; have hb4 : Below (w3.heap.size + 1) Wx w4 := ⟨hg4.os, hg4.tape, hg4.output, hg4.size, fun k hk => hg4.block k (by show k < Wx.heap.size; rw [hWz'.out]; exact hk) (by intro h; cases h)⟩; obtain ⟨hb, c9', hdb, hfb, hrow⟩ := facts'.out w4 hb4; have b0 := hb 0; have b1 := hb 1; have b2 := hb 2; have b3 := hb 3; have b4 := hb 4; have b5 := hb 5; have b6 := hb 6; have b7 := hb 7; simp at b0 b1 b2 b3 b4 b5 b6 b7; have d0 := hdb 0; have d1 := hdb 1; have d2 := hdb 2; have d3 := hdb 3; have d4 := hdb 4; have d5 := hdb 5; have d6 := hdb 6; have d7 := hdb 7; have d8 := hdb 8; have d9 := hdb 9; simp at d0 d1 d2 d3 d4 d5 d6 d7 d8 d9; have g0 := hfb 0; have g1 := hfb 1; have g2 := hfb 2; have g3 := hfb 3; have g4 := hfb 4; have g5 := hfb 5; have g6 := hfb 6; have g7 := hfb 7; have g8 := hfb 8; have g9 := hfb 9; have ho4' := Lib.hid ho4; have hb4' := Lib.hid hb4; clear ho4 hb4 hg4 hb hdb hfb))
  all_goals
    go_wp2
    try simp only [Exit.inBlock, Exit.then]
    rw [set10_world hrow.out]
    have hBz : Below w.heap.size w w4 := (hB3.trans (hWb'.out.mono (by omega))).trans (hb4'.out.mono (by omega))
    exact bodyPost_ret (results_cell_row rfl _ _ (w.heap.size + 1) 180 _ _ _ rfl (setRow_heap _ _ _ _ _ _ hrow.out) Tryz.underlying180 rfl (by kernel_rfl)) rfl ⟨_, rfl, ownB_setRow (ho4'.out) (by omega) (by omega) _, below_setRow' (g := w.heap.size + 1) hBz (by omega) _⟩
end Go.Proofs.YtlbgffhipondiaaGreatDoor
namespace Go.Proofs.YtlbgffhipondiaaGreatDoor
open Go.RowKit Go.YtlbgffhipondiaaGreatDoor
set_option linter.unusedVariables false
variable {Tg Tf : TypeId}
theorem ending_len (v : V8) (rv : Value) (r : List Int) (N : Nat) (w : World) (hN : N ≤ 200000) (hr : RdB w rv r) (hrl : r.length < 64) :
    Calls Tryz.prog 195 #[.agg #[.int .u32 v.a, .int .u32 v.b, .int .u32 v.c, .int .u32 v.d, .int .u32 v.e, .int .u32 v.f, .int .u32 v.g, .int .u32 v.h, rv, .int .i64 N]] w fun e w' => ∃ a c, e = .returned (.slice a (endingF r N).length c) ∧ RdB w' (.slice a (endingF r N).length c) (endingF r N) ∧ Below w.heap.size w w' :=
  (ending_any v rv r N w hN hr hrl).mono fun e w' ⟨b', he, hb, hB⟩ => by
    obtain ⟨a, c, rfl⟩ := hb.slice
    exact ⟨a, c, he, hb, hB⟩
theorem grindAll_lit' (v G : V8) (bv : Value) (l : List Int) (w : World) (hG : blocksF v l = G) (hv : v.ok) (hl : Bytes l) (hr : RdB w bv l)
   (hg : w.heap[2]? = some (.cells (u32s constW) Tg (0, 0))) :
    Calls Tryz.prog 194 #[.agg #[.int .u32 v.a, .int .u32 v.b, .int .u32 v.c, .int .u32 v.d, .int .u32 v.e, .int .u32 v.f, .int .u32 v.g, .int .u32 v.h], bv] w
     fun e w' => ∃ r, e = .returned (.tuple #[.agg #[.int .u32 G.a, .int .u32 G.b, .int .u32 G.c, .int .u32 G.d, .int .u32 G.e, .int .u32 G.f, .int .u32 G.g, .int .u32 G.h], r]) ∧ Below w.heap.size w w' := by
  subst hG
  exact (grindAll_any (Tg := Tg) v bv l w hv hl hr hg).mono fun e w' ⟨r, h1, _, h3⟩ => ⟨r, h1, h3⟩
set_option maxRecDepth 100000 in
set_option maxHeartbeats 6000000 in
theorem finish_any (v G : V8) (rv : Value) (r : List Int) (N : Nat) (w : World) (hv : v.ok) (hr : RdB w rv r) (hrb : Bytes r) (hrl : r.length < 64) (hN : N ≤ 200000) (hG : blocksF v (endingF r N) = G)
   (hg : w.heap[2]? = some (.cells (u32s constW) Tg (0, 0))) :
    Calls Tryz.prog 157 #[.agg #[.int .u32 v.a, .int .u32 v.b, .int .u32 v.c, .int .u32 v.d, .int .u32 v.e, .int .u32 v.f, .int .u32 v.g, .int .u32 v.h, rv, .int .i64 N]] w
     fun e w' => e = .returned (.agg (u8s (writtenF G))) ∧ Below w.heap.size w w' := by
  have hlt : 2 < w.heap.size := (Array.getElem?_eq_some_iff.1 hg).1
  obtain ⟨ra, rc, rfl⟩ := hr.slice
  have hr' := Lib.hid hr; have hg' := Lib.hid hg; have hG' := Lib.hid hG; clear hr hg hG
  go_enter Tryz.func157, Tryz.ntmps157
  go_upto_region 1 with fail
  generalize hWx : ((w.alloc _).alloc _) = Wx
  have hWb : Below w.heap.size w Wx := by rw [← hWx]; exact ((Below.refl _ _).alloc (Nat.le_refl _) _).alloc (by simp) _
  have hWz : w.heap.size + 2 = Wx.heap.size := by rw [← hWx]; simp
  have hq0 : Wx.heap[w.heap.size]? = some (.cells #[.int .u32 v.a, .int .u32 v.b, .int .u32 v.c, .int .u32 v.d, .int .u32 v.e, .int .u32 v.f, .int .u32 v.g, .int .u32 v.h, .slice ra r.length rc, .int .i64 N] 180 (0, 0)) := by rw [← hWx]; exact (hp1 _ _ _ (by simp)).trans (heap_alloc_new w _)
  have hq1 : Wx.heap[w.heap.size + 1]? = some (.cells (u8s (zerosB 32)) 24 (0, 0)) := by rw [← hWx]; exact hn2 w _ _
  clear hWx
  go_cut [3] (fun s3 wx => ∃ g : Nat, s3 = .pointer (some ⟨g, 0, none⟩) ∧ w.heap.size + 2 ≤ g ∧ wx.heap[g]? = some (.cells #[.int .u32 G.a, .int .u32 G.b, .int .u32 G.c, .int .u32 G.d, .int .u32 G.e, .int .u32 G.f, .int .u32 G.g, .int .u32 G.h] 178 (0, 0)) ∧ Below (w.heap.size + 2) Wx wx)
  case first =>
    have hc : ∀ j, Wx.cell? ⟨w.heap.size, j, none⟩ = (#[.int .u32 v.a, .int .u32 v.b, .int .u32 v.c, .int .u32 v.d, .int .u32 v.e, .int .u32 v.f, .int .u32 v.g, .int .u32 v.h, .slice ra r.length rc, .int .i64 N] : Array Value)[j]? := fun j => cell_of_row _ _ _ _ _ _ hq0
    have hrx := hr'.out.mono hWb
    have hgx := (hWb.block _ hlt).trans hg'.out
    have hrx' := Lib.hid hrx; have hgx' := Lib.hid hgx; have hWz' := Lib.hid hWz
    have hWz1 : w.heap.size + 1 < Wx.heap.size := by omega
    have hWz0 : w.heap.size < Wx.heap.size := by omega
    have hWz2 : w.heap.size < Wx.heap.size + 1 := by omega
    have c0 := hc 0; have c1 := hc 1; have c2 := hc 2; have c3 := hc 3; have c4 := hc 4; have c5 := hc 5; have c6 := hc 6; have c7 := hc 7; have c8 := hc 8; have c9 := hc 9
    simp at c0 c1 c2 c3 c4 c5 c6 c7 c8 c9
    have hlt2 : 2 < Wx.heap.size := by omega
    clear hc hrx hgx hq0 hq1 hWz
    have hb9 := endingF_bytes r N hrb hN
    have hb9' := Lib.hid hb9; clear hb9
    go_region_with (first | (go_at_call 195; refine (ending_len v (.slice ra r.length rc) r N _ hN ?_ hrl).mono ?_; (first | exact hrx'.out | exact RdB.mono hrx'.out ((Below.refl _ _).alloc (Nat.le_refl _) _).drew); rintro e w5 ⟨ea, ec, rfl, he5, hb5⟩; obtain ⟨hc5, hf5⟩ := bcell hb5; have hz5 := hb5.size; have hgw5 := (hb5.block 2 (by first | omega | (simp; omega))).trans (by first | exact hgx'.out | exact (hp1 _ _ _ hlt2).trans hgx'.out); have he5' := Lib.hid he5; have hb5' := Lib.hid hb5; have hgw5' := Lib.hid hgw5; (try simp at hz5); have hs5 := fun b (h : b < _) => Nat.lt_of_lt_of_le h hb5'.out.size; have hs5' := fun b (h : b < _) => Nat.lt_succ_of_lt (Nat.lt_of_lt_of_le h hb5'.out.size); (try simp only [World.size_drew, World.cell?_drew, World.frozen?_drew] at hc5 hf5 hs5 hs5'); clear he5 hb5 hgw5) | (go_at_call 194; refine (grindAll_lit' (Tg := Tg) v G _ (endingF r N) _ hG'.out hv hb9'.out ?_ ?_).mono ?_; (first | exact he5'.out | exact RdB.mono he5'.out ((Below.refl _ _).alloc (Nat.le_refl _) _)); (first | exact hgw5'.out | exact (hp1 _ _ _ (by omega)).trans hgw5'.out); rintro e w6 ⟨rest, rfl, hb6⟩; obtain ⟨hc6, hf6⟩ := bcell hb6; have hz6 := hb6.size; have hb6' := Lib.hid hb6; (try simp at hz6); have hs6 := fun b (h : b < _) => Nat.lt_of_lt_of_le h hb6'.out.size; have hs6' := fun b (h : b < _) => Nat.lt_succ_of_lt (Nat.lt_of_lt_of_le h hb6'.out.size); (try simp only [World.size_drew, World.cell?_drew, World.frozen?_drew] at hc6 hf6 hs6 hs6'); clear hb6))
    all_goals
      go_wp2_with fail
      go_meet
      have h5 : Wx.heap.size ≤ w5.heap.size := by have := hb5'.out.size; simp at this; omega
      have h6 : w5.heap.size ≤ w6.heap.size := by have := hb6'.out.size; (try simp at this); omega
      have hz := hWz'.out
      have hB5 : Below (w.heap.size + 2) Wx w5 := by first | exact (Below.drew (Below.refl _ Wx)).trans (hb5'.out.mono (by rw [World.size_drew]; omega)) | exact (Below.drew ((Below.refl _ Wx).alloc (by omega) _)).trans (hb5'.out.mono (by rw [World.size_drew, World.size_alloc]; omega))
      have hB6 : Below (w.heap.size + 2) w5 w6 := by first | exact hb6'.out.mono (by omega) | exact ((Below.refl _ w5).alloc (by omega) _).trans (hb6'.out.mono (by rw [World.size_alloc]; omega))
      first
        | (refine ⟨w6.heap.size, by with_reducible rfl, by omega, ?_⟩; exact ⟨heap_alloc_new _ _, (hB5.trans hB6).alloc (by omega) _⟩)
        | (refine ⟨w5.heap.size, by with_reducible rfl, by omega, ?_⟩; have hr := (hb6'.out.block w5.heap.size (by rw [World.size_alloc]; omega)).trans (heap_alloc_new w5 _); rw [set8v_world hr]; exact ⟨setRow_heap _ _ _ _ _ _ hr, below_setRow' (hB5.trans hB6) (by omega) _⟩)
        | (refine ⟨Wx.heap.size, by with_reducible rfl, by omega, ?_⟩; have hr := ((hb6'.out.block Wx.heap.size (by have := hb5'.out.size; rw [World.size_drew, World.size_alloc] at this; omega)).trans (hb5'.out.block Wx.heap.size (by rw [World.size_drew, World.size_alloc]; omega))).trans (heap_alloc_new Wx _); rw [set8v_world hr]; exact ⟨setRow_heap _ _ _ _ _ _ hr, below_setRow' (hB5.trans hB6) (by omega) _⟩)
  case rest =>
    obtain ⟨g, rfl, hgz, hg8, hb⟩ := hcut
    have hgw : g < wc.heap.size := (Array.getElem?_eq_some_iff.1 hg8).1
    have hg8' : Hid (∀ o, (wc.alloc o).heap[g]? = some (.cells #[.int .u32 G.a, .int .u32 G.b, .int .u32 G.c, .int .u32 G.d, .int .u32 G.e, .int .u32 G.f, .int .u32 G.g, .int .u32 G.h] 178 (0, 0))) := Lib.hid (fun o => (hp1 wc o g hgw).trans hg8)
    have hq1' := Lib.hid hq1; have hb' := Lib.hid hb
    clear hq0 hq1 hb hg8
    have hGk : G.ok := by rw [← hG'.out]; exact blocksF_ok _ _ hv
    have hG32 : All32 G.list := by
      obtain ⟨x0, x1, x2, x3, x4, x5, x6, x7⟩ := hGk
      intro i
      match i with
      | 0 => exact x0
      | 1 => exact x1
      | 2 => exact x2
      | 3 => exact x3
      | 4 => exact x4
      | 5 => exact x5
      | 6 => exact x6
      | 7 => exact x7
      | i + 8 => rw [ith_over _ _ (by simp [V8.list])]; exact ⟨by omega, by omega⟩
    have hG32' := Lib.hid hG32; clear hG32 hGk
    go_wp2_with (refine wpList_load_row rfl 178 _ rfl g rfl 178 _ _ _ (hg8'.out _) Tryz.underlying178 rfl (by kernel_rfl) ?_)
    go_loopw [6, 7, 17] (fun _ _ i wr => ∃ k : Nat, k ≤ 8 ∧ i = .int .i64 k ∧ Below (w.heap.size + 2) Wx wr ∧ wc.heap.size < wr.heap.size ∧ wr.heap[wc.heap.size]? = some (.cells (u8s (writtenN G.list k ++ zerosB (32 - 4 * k))) 24 (0, 0))) (fun _ _ i _ => 8 - (intOf i).toNat)
    case atStart => exact ⟨0, by omega, rfl, hb'.out.alloc (by omega) _, by simp, heap_alloc_new wc _⟩
    case round =>
      obtain ⟨k, hk, rfl, hbr, hzr, hrow⟩ := hrel
      have hrow' := Lib.hid hrow; clear hrow
      by_cases hlt8 : k < 8
      · have hix := run_index_arr (P := Tryz.prog) Tryz.underlying178 Tryz.underlying25 (by kernel_rfl) (u32s G.list) k _ hlt8 (u32s_get _ k hlt8)
        have hix' : ∀ wx, (Instr.index 178 (.agg #[.int .u32 G.a, .int .u32 G.b, .int .u32 G.c, .int .u32 G.d, .int .u32 G.e, .int .u32 G.f, .int .u32 G.g, .int .u32 G.h]) (.int .i64 (k : Int))).run Tryz.prog wx = .ok (.int .u32 (ith G.list k)) wx := hix
        clear hix
        have hsl := run_sliceAt_low (P := Tryz.prog) Tryz.underlying24 (by kernel_rfl) wc.heap.size (4 * k) (show 4 * k < 32 by omega)
        rw [show ((4 * k : Nat) : Int) = 4 * (k : Int) by omega] at hsl
        have hlen : Hid (4 * k + 4 ≤ (writtenN G.list k ++ zerosB (32 - 4 * k)).length) := Lib.hid (by rw [List.length_append, writtenN_length, zerosB_length]; omega)
        go_wp2_with (go_at_call 196; refine (putWord_any wc.heap.size (4 * k) (32 - 4 * k) (32 - 4 * k) _ 24 (ith G.list k) _ (by omega) (hG32'.out k) hrow'.out hlen.out).mono ?_; rintro e w' ⟨rfl, hw'⟩; have hw'' := Lib.hid hw'; clear hw')
        go_roundw
        case rel =>
          have hnew := setRow_heap wr wc.heap.size _ (u8s (put4 (writtenN G.list k ++ zerosB (32 - 4 * k)) (4 * k) (ith G.list k))) _ _ hrow'.out
          have hz4 : zerosB (32 - 4 * k) = 0 :: 0 :: 0 :: 0 :: zerosB (32 - 4 * (k + 1)) := by
            have : 32 - 4 * k = (32 - 4 * (k + 1)) + 1 + 1 + 1 + 1 := by omega
            rw [this]; rfl
          have hp4 := put4_at (writtenN G.list k) (zerosB (32 - 4 * (k + 1))) 0 0 0 0 (ith G.list k)
          rw [writtenN_length] at hp4
          rw [hz4, hp4, ← List.append_assoc, show writtenN G.list k ++ be4 (ith G.list k) = writtenN G.list (k + 1) from rfl] at hnew
          refine ⟨k + 1, by omega, by go_num, ?_, ?_, ?_⟩
          · rw [hw''.out]; exact below_setRow' (g := wc.heap.size) hbr (by omega) _
          · rw [hw''.out, size_setRow]; exact hzr
          · rw [hw''.out, hz4, hp4, ← List.append_assoc]; exact hnew
        case measure => simp [intOf]; omega
      · have hk8 : k = 8 := by omega
        subst hk8
        have hrow := hrow'.out
        rw [show writtenN G.list 8 ++ zerosB (32 - 4 * 8) = writtenF G from List.append_nil _] at hrow
        have hsz : (u8s (writtenF G)).size = 32 := by rw [u8s_size]; exact writtenN_length _ 8
        have hi : (Tryz.prog.info? 24).map (·.size) = some (u8s (writtenF G)).size := by rw [hsz]; kernel_rfl
        have hq := (hbr.block (w.heap.size + 1) (by omega)).trans hq1'.out
        have hs2 : (u8s (zerosB 32)).size = (u8s (writtenF G)).size := by rw [hsz, u8s_size, zerosB_length]
        have hBf : Below w.heap.size w wr := hWb.trans (hbr.mono (by omega))
        generalize hy : writtenF G = y at *
        have hy' := Lib.hid hy; clear hy
        have hrow' := Lib.hid hrow; have hq' := Lib.hid hq; have hi' := Lib.hid hi; have hs2' := Lib.hid hs2
        clear hrow hq hi hs2 hsz
        go_wp2_with (first | (refine wpList_load_row rfl 24 _ rfl wc.heap.size rfl 24 _ _ _ hrow'.out Tryz.underlying24 rfl hi'.out ?_) | (refine wpList_store_row rfl 24 _ _ rfl (w.heap.size + 1) _ rfl rfl 24 _ hq'.out hi'.out hs2'.out (u8s_one _) ?_))
        try simp only [Exit.inBlock, Exit.then]
        refine bodyPost_ret (v := .agg (u8s y)) (results_cell_row rfl _ _ (w.heap.size + 1) 24 _ _ _ rfl (setRow_heap _ _ _ _ _ _ hq'.out) Tryz.underlying24 rfl hi'.out) rfl ⟨?_, below_setRow' (g := w.heap.size + 1) hBf (by omega) _⟩
        rw [hy'.out]
end Go.Proofs.YtlbgffhipondiaaGreatDoor
namespace Go.Proofs.YtlbgffhipondiaaGreatDoor
open Go.RowKit Go.YtlbgffhipondiaaGreatDoor
set_option linter.unusedVariables false
variable {Tg Tf : TypeId}
end Go.Proofs.YtlbgffhipondiaaGreatDoor
namespace Go.Proofs.YtlbgffhipondiaaGreatDoor
open Go.RowKit Go.YtlbgffhipondiaaGreatDoor
set_option linter.unusedVariables false
theorem ext_compare (va vb : Value) (a b : List Int) (w : World) (ha : RdB w va a) (hb : RdB w vb b) (h1 : Bytes a) (h2 : Bytes b) :
    (callFunc 188 #[va, vb]).run Tryz.prog w = .ok (.value (.int .i64 (cmpF a b))) w := by
  rw [run_callFunc_extern (fn := Tryz.f188) (e := Extern.BytealgCompare.compare) Tryz.func188 (by decide) rfl (by kernel_rfl) (by kernel_rfl), run_compareB ha hb h1 h2]
  rfl
theorem compare_any (va vb : Value) (a b : List Int) (w : World) (ha : RdB w va a) (hb : RdB w vb b) (h1 : Bytes a) (h2 : Bytes b) :
    Calls Tryz.prog 145 #[va, vb] w fun e w' => e = .returned (.int .i64 (cmpF a b)) ∧ w = w' := by
  have hx := ext_compare va vb a b w ha hb h1 h2
  clear ha hb h1 h2
  go_enter Tryz.func145, Tryz.ntmps145
  go_wp2
  go_ret
  exact ⟨rfl, rfl⟩
set_option maxRecDepth 100000 in
set_option maxHeartbeats 400000 in
theorem cmp_any (a b : List Int) (w : World) (ha : a.length = 32) (hb : b.length = 32) (h1 : Bytes a) (h2 : Bytes b) :
    Calls Tryz.prog 98 #[.agg (u8s a), .agg (u8s b)] w fun e w' => e = .returned (.int .i64 (cmpF a b)) ∧ Below w.heap.size w w' := by
  have hs1 := fun wx => run_sliceAt_full (P := Tryz.prog) Tryz.underlying24 (by kernel_rfl) w.heap.size wx
  have hs2 := fun wx => run_sliceAt_full (P := Tryz.prog) Tryz.underlying24 (by kernel_rfl) (w.heap.size + 1) wx
  have hr1 : RdB ((w.alloc (.cells (u8s a) 24)).alloc (.cells (u8s b) 24)) (.slice (some ⟨w.heap.size, 0, none⟩) 32 32) a := by
    exact rd_row (E := 24) ((hp1 _ _ _ (by simp)).trans (heap_alloc_new w _)) 32 32 ha (Nat.le_refl _) (by unfold maxLen; omega)
  have hr2 : RdB ((w.alloc (.cells (u8s a) 24)).alloc (.cells (u8s b) 24)) (.slice (some ⟨w.heap.size + 1, 0, none⟩) 32 32) b := by
    exact rd_row (E := 24) (hn2 w _ _) 32 32 hb (Nat.le_refl _) (by unfold maxLen; omega)
  have hr1' := Lib.hid hr1; have hr2' := Lib.hid hr2; have h1' := Lib.hid h1; have h2' := Lib.hid h2
  clear hr1 hr2 ha hb h1 h2
  go_enter Tryz.func98, Tryz.ntmps98
  go_wp2
  go_region_with (go_at_call 145; refine (compare_any _ _ a b _ ?_ ?_ h1'.out h2'.out).mono ?_; (exact hr1'.out); (exact hr2'.out); rintro e w' ⟨rfl, rfl⟩)
  all_goals
    go_wp2
    go_ret
    exact ⟨rfl, (((Below.refl _ _).alloc (Nat.le_refl _) _).alloc (by simp) _).drew⟩
end Go.Proofs.YtlbgffhipondiaaGreatDoor
namespace Go.Proofs.YtlbgffhipondiaaGreatDoor
open Go.RowKit Go.YtlbgffhipondiaaGreatDoor
set_option linter.unusedVariables false
variable {Tg Tf : TypeId}
theorem info_id : (Tryz.prog.info? 24).map (·.size) = some (u8s (zerosB 32)).size := by kernel_rfl
end Go.Proofs.YtlbgffhipondiaaGreatDoor
namespace Go.Proofs.YtlbgffhipondiaaGreatDoor
open Go.RowKit Go.YtlbgffhipondiaaGreatDoor
set_option linter.unusedVariables false
theorem bits_or_comm (k : IntKind) (a b : Int) : bits .or k a b = bits .or k b a := by
  unfold bits
  simp only [BitVec.or_comm]
set_option maxRecDepth 100000 in
theorem rturn_any (x : Int) (n : Nat) (w : World) (hx : 0 ≤ x) (hx2 : x < 4294967296) (h : 1 ≤ n) (h2 : n ≤ 31) :
    Calls Tryz.prog 240 #[.int .u32 x, .int .i64 (n : Int)] w fun e w' => e = .returned (.int .u32 (rotr x n)) ∧ Draws w w' := by
  go_enter Tryz.func240, Tryz.ntmps240
  go_wp2
  go_quiet (fail)
  go_wp2
  go_ret
  refine ⟨?_, ⟨nq, rfl⟩⟩
  show Ending.returned (Value.int .u32 (bits .or .u32 (x / 2 ^ n) (x * 2 ^ (32 - n) % 4294967296))) = _
  rw [bits_or_comm]
  simp [rotr]
theorem rfirst_any (w : World) : Calls Tryz.prog 182 #[] w fun e w' => e = .returned (.agg firstW.cells) ∧ Below w.heap.size w w' := by
  go_enter Tryz.func182, Tryz.ntmps182
  go_wp2
  try simp only [Exit.inBlock, Exit.then]
  exact bodyPost_ret (results_cell_row rfl _ _ w.heap.size 178 _ _ _ rfl (heap_alloc_new w _) Tryz.underlying178 rfl (by kernel_rfl)) rfl ⟨rfl, (Below.refl _ _).alloc (Nat.le_refl _) _⟩
set_option maxRecDepth 100000 in
theorem rcmp_any (a b : List Int) (w : World) (ha : a.length = 32) (hb : b.length = 32) (h1 : Bytes a) (h2 : Bytes b) :
    Calls Tryz.prog 61 #[.agg (u8s a), .agg (u8s b)] w fun e w' => e = .returned (.int .i64 (cmpF a b)) ∧ Below w.heap.size w w' := by
  have ha' := Lib.hid ha; have hb' := Lib.hid hb
  clear ha hb h1 h2
  go_enter Tryz.func61, Tryz.ntmps61
  go_wp2
  have r1 := hp1 (w.alloc (.cells (u8s a) 24)) (.cells (u8s b) 24) w.heap.size (by simp)
  have r1 := Lib.hid (r1.trans (heap_alloc_new w _))
  have r2 := Lib.hid (hn2 w (.cells (u8s a) 24) (.cells (u8s b) 24))
  have hB := Lib.hid (show Below w.heap.size w ((w.alloc (.cells (u8s a) 24)).alloc (.cells (u8s b) 24)) from ((Below.refl _ _).alloc (Nat.le_refl _) _).alloc (by simp) _)
  generalize (w.alloc (.cells (u8s a) 24)).alloc (.cells (u8s b) 24) = W at *
  go_loopw [5] (fun i wr => ∃ k : Nat, k ≤ 32 ∧ i = .int .i64 k ∧ (∀ j, j < k → ith b j = ith a j) ∧ Draws W wr) (fun i _ => match i with | .int _ m => 32 - m.toNat | _ => 0)
  case atStart => exact ⟨0, by omega, rfl, fun j hj => absurd hj (Nat.not_lt_zero _), Draws.refl _⟩
  case round =>
    obtain ⟨k, hk, rfl, heq, hd⟩ := hrel
    have heq' := Lib.hid heq
    clear heq
    by_cases hlt : k < 32
    · have c1 : wr.cell? ⟨w.heap.size, k, none⟩ = some (.int .u8 (ith a k)) := by
        rw [hd.cell, cell_of_row _ _ _ _ _ _ r1.out]; exact u8s_get _ _ (by rw [ha'.out]; exact hlt)
      have c2 : wr.cell? ⟨w.heap.size + 1, k, none⟩ = some (.int .u8 (ith b k)) := by
        rw [hd.cell, cell_of_row _ _ _ _ _ _ r2.out]; exact u8s_get _ _ (by rw [hb'.out]; exact hlt)
      generalize hx : ith a k = x at c1
      generalize hy : ith b k = y at c2
      have hx' := Lib.hid hx; have hy' := Lib.hid hy; have hd' := Lib.hid hd
      clear hx hy
      by_cases h1 : x < y
      · have hc := cmp_less k a b (by rw [ha'.out]; exact hlt) (by rw [hb'.out]; exact hlt) heq'.out (by rw [hx'.out, hy'.out]; exact h1)
        have hc' := Lib.hid hc; clear hc
        go_wp2
        go_quiet (fail)
        go_wp2
        go_ret
        exact ⟨congrArg (fun z => Ending.returned (Value.int .i64 z)) hc'.out.symm, (hd'.out.drewN _).below hB.out⟩
      · by_cases h2 : y < x
        · have hc := cmp_less k b a (by rw [hb'.out]; exact hlt) (by rw [ha'.out]; exact hlt) (fun j hj => (heq'.out j hj).symm) (by rw [hx'.out, hy'.out]; exact h2)
          have hc2 : cmpF a b = 1 := by rw [cmp_anti b a, hc]; rfl
          have hc' := Lib.hid hc2; clear hc hc2
          go_wp2
          go_quiet (fail)
          go_wp2
          go_quiet (fail)
          go_wp2
          go_ret
          exact ⟨congrArg (fun z => Ending.returned (Value.int .i64 z)) hc'.out.symm, ((hd'.out.drewN _).drewN _).below hB.out⟩
        · go_wp2
          go_quiet (fail)
          go_wp2
          go_quiet (fail)
          go_wp2
          go_roundw
          case rel =>
            refine ⟨k + 1, by omega, by go_num, fun j hj => ?_, hd'.out.drewN _⟩
            by_cases hjk : j = k
            · subst hjk; rw [hx'.out, hy'.out]; omega
            · exact heq'.out j (by omega)
          case measure => go_num
    · have hk32 : k = 32 := by omega
      subst hk32
      have hab : b = a := by
        apply List.ext_getElem (by rw [ha'.out, hb'.out])
        intro i h1 h2
        have := heq'.out i (by rw [hb'.out] at h1; exact h1)
        simpa [ith, h1, h2] using this
      have hc' := Lib.hid (show cmpF a b = 0 by rw [hab]; exact cmp_self a); clear hab
      go_wp2
      go_ret
      exact ⟨congrArg (fun z => Ending.returned (Value.int .i64 z)) hc'.out.symm, hd.below hB.out⟩
end Go.Proofs.YtlbgffhipondiaaGreatDoor
namespace Go.Proofs.YtlbgffhipondiaaGreatDoor
open Go.RowKit Go.YtlbgffhipondiaaGreatDoor
set_option linter.unusedVariables false
def wF (V : V8) (i : Nat) : Int := ith V.list (i / 4) / 2 ^ (24 - 8 * (i % 4)) % 256
def PL (V : V8) (k : Nat) : List Int := (List.range 32).map fun i => if i < k then wF V i else 0
theorem PL_length (V : V8) (k : Nat) : (PL V k).length = 32 := by simp [PL]
theorem PL_set (V : V8) (k : Nat) (h : k < 32) : (PL V k).set k (wF V k) = PL V (k + 1) := by
  apply List.ext_getElem (by simp [PL])
  intro i h1 h2
  have hi : i < 32 := by simpa [PL] using h2
  rw [List.getElem_set]
  simp only [PL, List.getElem_map, List.getElem_range]
  by_cases hk : k = i
  · subst hk; simp
  · simp only [hk, if_false]
    by_cases hlt : i < k
    · rw [if_pos hlt, if_pos (by omega)]
    · rw [if_neg hlt, if_neg (by omega)]
theorem be4_w (x : Int) (hx : In32 x) : be4 x = [x / 2 ^ 24 % 256, x / 2 ^ 16 % 256, x / 2 ^ 8 % 256, x / 2 ^ 0 % 256] := by
  obtain ⟨h1, h2⟩ := hx
  unfold be4
  rw [show (2 : Int) ^ 24 = 16777216 from rfl, show (2 : Int) ^ 16 = 65536 from rfl, show (2 : Int) ^ 8 = 256 from rfl, show (2 : Int) ^ 0 = 1 from rfl, Int.ediv_one, show x / 16777216 % 256 = x / 16777216 by omega]
theorem PL_all (V : V8) (h : V.ok) : PL V 32 = writtenF V := by
  obtain ⟨ha, hb, hc, hd, he, hf, hg, hh⟩ := h
  show _ = be4 V.a ++ be4 V.b ++ be4 V.c ++ be4 V.d ++ be4 V.e ++ be4 V.f ++ be4 V.g ++ be4 V.h
  rw [be4_w _ ha, be4_w _ hb, be4_w _ hc, be4_w _ hd, be4_w _ he, be4_w _ hf, be4_w _ hg, be4_w _ hh]
  rfl
set_option maxRecDepth 100000 in
theorem rwritten_any (V : V8) (w : World) (hV : V.ok) : Calls Tryz.prog 180 #[.agg (u32s V.list)] w fun e w' => e = .returned (.agg (u8s (writtenF V))) ∧ Below w.heap.size w w' := by
  have hV' := Lib.hid hV; clear hV
  have hi := Lib.hid (show (Tryz.prog.info? 24).map (·.size) = some (u8s (PL V 32)).size from by rw [u8s_size, PL_length]; kernel_rfl)
  go_enter Tryz.func180, Tryz.ntmps180
  go_wp2
  generalize hW : ((w.alloc _).alloc _).alloc _ = W
  have hrow0 := Lib.hid (show W.heap[w.heap.size]? = some (.cells (u32s V.list) 178 (0, 0)) by rw [← hW]; exact (hp1 _ _ _ (by simp; omega)).trans ((hp1 _ _ _ (by simp)).trans (heap_alloc_new w _)))
  have hrow1 := Lib.hid (show W.heap[w.heap.size + 1]? = some (.cells (u8s (PL V 0)) 24 (0, 0)) by rw [← hW]; exact (hp1 _ _ _ (by simp)).trans (hn2 w _ _))
  have hrow2 := Lib.hid (show W.heap[w.heap.size + 2]? = some (.cells (u8s (PL V 0)) 24 (0, 0)) by rw [← hW]; exact hn3 w _ _ _)
  have hB := Lib.hid (show Below w.heap.size w W by rw [← hW]; exact (((Below.refl _ _).alloc (Nat.le_refl _) _).alloc (by simp) _).alloc (by simp; omega) _)
  clear hW
  go_loopw [4] (fun i wr => ∃ k : Nat, k ≤ 32 ∧ i = .int .i64 k ∧ Below (w.heap.size + 2) W wr ∧ wr.heap[w.heap.size + 2]? = some (.cells (u8s (PL V k)) 24 (0, 0))) (fun i _ => match i with | .int _ m => 32 - m.toNat | _ => 0)
  case atStart => exact ⟨0, by omega, rfl, Below.refl _ _, hrow2.out⟩
  case round =>
    obtain ⟨k, hk, rfl, hb, hrow⟩ := hrel
    by_cases hlt : k < 32
    · have c1 : ∃ x, wr.cell? ⟨w.heap.size + 2, k, none⟩ = some (.int .u8 x) := ⟨_, by rw [cell_of_row _ _ _ _ _ _ hrow]; exact u8s_get _ k (by rw [PL_length]; exact hlt)⟩
      obtain ⟨x, c1⟩ := c1
      have c2 : wr.frozen? ⟨w.heap.size + 2, k, none⟩ = false := frozen_of_row _ _ _ _ _ hrow
      have c3 : wr.cell? ⟨w.heap.size, k / 4, none⟩ = some (.int .u32 (ith V.list (k / 4))) := by
        rw [cell_of_row _ _ _ _ _ _ ((hb.block _ (by omega)).trans hrow0.out)]; exact u32s_get _ _ (show k / 4 < 8 by omega)
      have hb' := Lib.hid hb; have hrow' := Lib.hid hrow
      clear hb hrow
      go_wp2
      go_roundw
      case rel =>
        have h := setCell_row hrow'.out k (.int .u8 (wF V k))
        rw [u8s_set, PL_set V k hlt] at h
        exact ⟨k + 1, by omega, by go_num, hb'.out.setCell (p := ⟨w.heap.size + 2, k, none⟩) (Nat.le_refl (w.heap.size + 2)) _, h⟩
      case measure => go_num
    · have hk32 : k = 32 := by omega
      rw [hk32] at hrow
      have hrow' := Lib.hid hrow; have hr1 := Lib.hid ((hb.block (w.heap.size + 1) (by omega)).trans hrow1.out); have hb' := Lib.hid (hB.out.trans (hb.mono (by omega)))
      clear hb hrow hk32
      go_wp2_with (first | (refine wpList_load_row rfl 24 _ rfl (w.heap.size + 2) rfl 24 _ _ _ hrow'.out Tryz.underlying24 rfl hi.out ?_) | (refine wpList_store_row rfl 24 _ _ rfl (w.heap.size + 1) (u8s (PL V 32)) rfl rfl 24 _ hr1.out hi.out (by rw [u8s_size, u8s_size, PL_length, PL_length]) (u8s_one _) ?_))
      try simp only [Exit.inBlock, Exit.then]
      exact bodyPost_ret (results_cell_row rfl _ _ (w.heap.size + 1) 24 _ _ _ rfl (setRow_heap _ _ _ _ _ _ hr1.out) Tryz.underlying24 rfl hi.out) rfl ⟨by rw [← PL_all V hV'.out], below_setRow' (g := w.heap.size + 1) hb'.out (by omega) _⟩
end Go.Proofs.YtlbgffhipondiaaGreatDoor
namespace Go.Proofs.YtlbgffhipondiaaGreatDoor
open Go.RowKit Go.YtlbgffhipondiaaGreatDoor
set_option linter.unusedVariables false
def tl (z : Nat) : List Int := 128 :: List.replicate z 0
theorem tl_length (z : Nat) : (tl z).length = z + 1 := by simp [tl]
theorem tl_succ (z : Nat) : tl z ++ [0] = tl (z + 1) := by simp [tl, List.replicate_succ']
def b8 (n j : Nat) : Int := 8 * (n : Int) / 2 ^ (8 * (7 - j)) % 256
def b8N (n : Nat) : Nat → List Int
  | 0 => []
  | j + 1 => b8N n j ++ [b8 n j]
theorem b8_all (n : Nat) (h : n ≤ 300000) : b8N n 8 = [0, 0, 0, 0] ++ be4 (8 * (n : Int)) := by
  show [b8 n 0, b8 n 1, b8 n 2, b8 n 3, b8 n 4, b8 n 5, b8 n 6, b8 n 7] = [0, 0, 0, 0, 8 * (n : Int) / 16777216, 8 * (n : Int) / 65536 % 256, 8 * (n : Int) / 256 % 256, 8 * (n : Int) % 256]
  have e0 : b8 n 0 = 0 := by show 8 * (n : Int) / 72057594037927936 % 256 = 0; omega
  have e1 : b8 n 1 = 0 := by show 8 * (n : Int) / 281474976710656 % 256 = 0; omega
  have e2 : b8 n 2 = 0 := by show 8 * (n : Int) / 1099511627776 % 256 = 0; omega
  have e3 : b8 n 3 = 0 := by show 8 * (n : Int) / 4294967296 % 256 = 0; omega
  have e4 : b8 n 4 = 8 * (n : Int) / 16777216 := by show 8 * (n : Int) / 16777216 % 256 = _; omega
  have e5 : b8 n 5 = 8 * (n : Int) / 65536 % 256 := rfl
  have e6 : b8 n 6 = 8 * (n : Int) / 256 % 256 := rfl
  have e7 : b8 n 7 = 8 * (n : Int) % 256 := by show 8 * (n : Int) / 1 % 256 = _; omega
  rw [e0, e1, e2, e3, e4, e5, e6, e7]
theorem rd_lit (w : World) (x : Int) : RdB (w.alloc (.cells #[.int .u8 x] 5)) (.slice (some ⟨w.heap.size, 0, none⟩) 1 1) [x] := .inr ⟨w.heap.size, 0, 1, rfl, Nat.le_refl _, by decide, by simp, fun i hi => by
  have hi0 : i = 0 := by simpa using hi
  subst hi0
  rw [Nat.zero_add, cell_of_row _ _ _ _ _ _ (heap_alloc_new w _)]; rfl⟩
def zT (n : Nat) : Nat := (64 - (n + 9) % 64) % 64
set_option maxRecDepth 100000 in
theorem rtail_any (n : Nat) (w : World) (hn : n ≤ 300000) : Calls Tryz.prog 183 #[.int .i64 (n : Int)] w fun e w' => ∃ r, e = .returned r ∧ OwnB w.heap.size 5 w' r (tl (zT n) ++ [0, 0, 0, 0] ++ be4 (8 * (n : Int))) ∧ Below w.heap.size w w' := by
  have e0 : OwnB w.heap.size 5 (w.alloc (.cells #[.int .u8 128] 5)) (.slice (some ⟨w.heap.size, 0, none⟩) 1 1) [128] :=
    ⟨rfl, .inr ⟨w.heap.size, 1, _, rfl, Nat.le_refl _, heap_alloc_new w _, Nat.le_refl _, by decide, rfl, rfl⟩⟩
  have hz : zT n < 64 := Nat.mod_lt _ (by decide)
  have hz2 : (n + zT n + 9) % 64 = 0 := by unfold zT; omega
  have hz3 : ∀ z, z < zT n → (n + z + 9) % 64 ≠ 0 := by unfold zT; omega
  have hz3' := Lib.hid hz3; have e0' := Lib.hid e0
  clear hz3 e0
  generalize zT n = Z at *
  go_enter Tryz.func183, Tryz.ntmps183
  go_wp2
  go_loopw [3] (fun s wr => ∃ z : Nat, z ≤ Z ∧ OwnB w.heap.size 5 wr s (tl z) ∧ Below w.heap.size w wr) (fun s _ => 66 - lenS s)
  case atStart => exact ⟨0, Nat.zero_le _, e0'.out, (Below.refl _ _).alloc (Nat.le_refl _) _⟩
  case round =>
    obtain ⟨z, hk, ho, hb⟩ := hrel
    obtain ⟨sa, sc, rfl⟩ := ho.rd.slice
    have hlen := tl_length z
    by_cases hlt : z < Z
    · have hc := hz3'.out z hlt
      have ho' := Lib.hid (ho.kept ((Below.refl _ _).alloc (Nat.le_refl _) (.cells #[.int .u8 0] 5)))
      have hr' := Lib.hid (show RdB (wr.alloc (.cells #[.int .u8 0] 5)) (.slice (some ⟨wr.heap.size, 0, none⟩) 1 1) [0] from .inr ⟨wr.heap.size, 0, 1, rfl, Nat.le_refl _, by decide, by simp, fun i hi => by
        have hi0 : i = 0 := by simpa using hi
        subst hi0
        rw [Nat.zero_add, cell_of_row _ _ _ _ _ _ (heap_alloc_new wr _)]; rfl⟩)
      have hb' := Lib.hid hb; have hzw := hb.size
      rw [hlen] at ho' ⊢
      clear ho hb
      have hne : ¬ ((n : Int) + ((z + 1 : Nat) : Int) + 8) % 64 = 0 := by omega
      go_wp2_with (refine appendB rfl _ _ 101 rfl w.heap.size 5 Tryz.underlying101 (by kernel_rfl) _ rfl _ ho'.out _ rfl _ hr'.out (by rw [tl_length]; simp; omega) (by simp; omega) ?_)
      intro v' w' h1 h2
      have hb2 := ho'.out.below h2 (by simp; omega)
      rw [tl_succ] at h1
      obtain ⟨va, vc, rfl⟩ := h1.rd.slice
      have h1' := Lib.hid h1; have hB2 := Lib.hid (hb'.out.trans (((Below.refl _ _).alloc hzw _).trans hb2))
      have hl2 := tl_length (z + 1)
      rw [hl2] at h1' ⊢
      clear h1 h2 hb2 hr' ho'
      refine Stop.go ?_
      go_wp2
      go_roundw
      case rel =>
        exact ⟨z + 1, by omega, h1'.out, hB2.out⟩
      case measure => simp [lenS]; omega
    · have hzz : z = Z := by omega
      subst hzz
      have hcz : (((n : Int) + ((z : Int) + 1) + 8) % 64 != 0) = false := by
        rw [show ((n : Int) + ((z : Int) + 1) + 8) % 64 = 0 by omega]; rfl
      have ho' := Lib.hid ho; have hb' := Lib.hid hb
      rw [hlen] at ho' ⊢
      clear ho hb
      go_wp2
      have hT := tl_length z
      generalize hTT : tl z = T at ho' hT
      have hTT' := Lib.hid hTT; clear hTT
      go_loopw [3, 4] (fun s i wq => ∃ j : Nat, j ≤ 8 ∧ i = .int .i64 (7 - (j : Int)) ∧ OwnB w.heap.size 5 wq s (T ++ b8N n j) ∧ Below w.heap.size w wq) (fun _ i _ => match i with | .int _ m => (m + 1).toNat | _ => 0)
      case atStart =>
        refine ⟨0, by omega, rfl, ?_, hb'.out⟩
        rw [show T ++ b8N n 0 = T from List.append_nil T]; exact ho'.out
      case round =>
        obtain ⟨j, hj, rfl, hoq, hbq⟩ := hrel
        obtain ⟨qa, qc, rfl⟩ := hoq.rd.slice
        by_cases hj8 : j < 8
        · obtain ⟨m, hm⟩ : ∃ m : Nat, 7 - (j : Int) = (m : Int) := ⟨7 - j, by omega⟩
          have hmv : m = 7 - j := by omega
          rw [hm]
          have hoq' := Lib.hid hoq; have hbq' := Lib.hid hbq; have hzq := hbq.size
          have hl8 : (T ++ b8N n j).length ≤ 200 := by
            have h8 : ∀ k, (b8N n k).length = k := by
              intro k
              induction k with
              | zero => rfl
              | succ k ih => simp [b8N, ih]
            rw [List.length_append, hT, h8]; omega
          generalize hLL : T ++ b8N n j = LL at *
          have hLL' := Lib.hid hLL
          clear hoq hbq hLL hm
          go_wp2_with (refine appendB rfl _ _ 101 rfl w.heap.size 5 Tryz.underlying101 (by kernel_rfl) _ rfl _ (hoq'.out.kept ((Below.refl _ _).alloc (Nat.le_refl _) _)) _ rfl _ (rd_lit _ _) (by simp; omega) (by simp; omega) ?_)
          intro v' w' h1 h2
          have hb2 := (hoq'.out.kept ((Below.refl _ _).alloc (Nat.le_refl _) _)).below h2 (by simp; omega)
          have h3 : OwnB w.heap.size 5 w' v' (T ++ b8N n (j + 1)) := by
            have e : LL ++ [8 * (n : Int) / 2 ^ (8 * (7 - j)) % 256] = T ++ b8N n (j + 1) := by rw [← hLL'.out, List.append_assoc]; rfl
            rw [← e]; exact h1
          have h3' := Lib.hid h3; have hB2 := Lib.hid (hbq'.out.trans (((Below.refl _ _).alloc hzq _).trans hb2))
          obtain ⟨va, vc, rfl⟩ := h3.rd.slice
          clear h1 h2 hb2 h3 hoq' hbq' hLL' hl8
          refine Stop.go ?_
          go_wp2
          go_roundw
          case rel =>
            refine ⟨j + 1, by omega, ?_, h3'.out, hB2.out⟩
            congr 1; omega
          case measure =>
            show (((7 - j : Nat) : Int) - 1 + 1).toNat < ((m : Int) + 1).toNat
            omega
        · have hj8' : j = 8 := by omega
          have hoq' := Lib.hid (show OwnB w.heap.size 5 _ (.slice qa (T ++ b8N n j).length qc) (tl z ++ [0, 0, 0, 0] ++ be4 (8 * (n : Int))) by
            rw [hj8', b8_all n hn, ← List.append_assoc, ← hTT'.out] at hoq
            rw [hj8', b8_all n hn, ← List.append_assoc, ← hTT'.out]; exact hoq)
          have hbq' := Lib.hid hbq
          clear hoq hbq
          generalize (T ++ b8N n j).length = N at *
          go_wp2
          go_ret
          exact ⟨_, rfl, hoq'.out, hbq'.out⟩
end Go.Proofs.YtlbgffhipondiaaGreatDoor
namespace Go.Proofs.YtlbgffhipondiaaGreatDoor
open Go.RowKit Go.YtlbgffhipondiaaGreatDoor
set_option linter.unusedVariables false
set_option maxRecDepth 100000 in
theorem rconst_any (w : World) : Calls Tryz.prog 241 #[] w fun e w' => e = .returned (.slice (some ⟨w.heap.size, 0, none⟩) 64 64) ∧ w' = w.alloc (.cells (u32s constW) 25) := by
  go_enter Tryz.func241, Tryz.ntmps241
  go_wp2
  go_ret
  exact ⟨rfl, rfl⟩
end Go.Proofs.YtlbgffhipondiaaGreatDoor
namespace Go
namespace YtlbgffhipondiaaGreatDoor
theorem run_partB {P : Program} (w : World) (e : TypeId) (he : P.underlying e = some (.int .u8)) (l : List Int) (i : Nat) (h : i < l.length) : (part e (u8s l) i).run P w = .ok (.int .u8 (ith l i)) w := by
  simp [part, isAgg, run_underlying he, u8s_get l i h]
theorem eqLoop {P : Program} (w : World) (d elem : Nat) (he : P.underlying elem = some (.int .u8)) (a b : List Int) (n : Nat) (ha : a.length = n) (hb : b.length = n) : ∀ m i, i + m = n →
    (forIn (List.range' i m) ((none, ()) : Option Bool × Unit) fun i __s => do
              let __do_lift ← part elem (u8s a) (i * 1)
              let __do_lift_1 ← part elem (u8s b) (i * 1)
              let __do_lift ← Op.equalIn (d + 1) elem __do_lift __do_lift_1
              if __do_lift = false then (pure (ForInStep.done (some false, ())) : Sem _) else pure (ForInStep.yield (none, ()))).run P w
      = .ok (if a.drop i = b.drop i then (none, ()) else (some false, ())) w := by
  intro m
  induction m with
  | zero => intro i hi; simp [List.drop_eq_nil_of_le, ha, hb, ← hi]
  | succ m ih =>
    intro i hi
    have h1 : i < a.length := by omega
    have h2 : i < b.length := by omega
    rw [List.range'_succ, List.forIn_cons]
    simp only [Nat.mul_one, Sem.run_bind, run_partB w elem he a i h1, run_partB w elem he b i h2, Result.andThen_ok, run_equalIn_int w d elem .u8 .u8 _ _ he]
    have key : (a.drop i = b.drop i) = (a[i] = b[i] ∧ a.drop (i + 1) = b.drop (i + 1)) := by rw [List.drop_eq_getElem_cons h1, List.drop_eq_getElem_cons h2, List.cons.injEq]
    simp only [key]
    have e1 : ith a i = a[i] := by simp [ith, h1]
    have e2 : ith b i = b[i] := by simp [ith, h2]
    rw [e1, e2]
    by_cases h : a[i] = b[i]
    · have ih' := ih (i + 1) (by omega)
      simp only [Nat.mul_one] at ih'
      simp only [h, true_and, beq_self_eq_true, Bool.true_eq_false, if_false, Sem.run_pure, Result.andThen_ok]
      exact ih'
    · simp [h]
theorem run_equalArr {P : Program} (w : World) (d t elem n : Nat) (ht : P.underlying t = some (.array n elem)) (he : P.underlying elem = some (.int .u8)) (hs : (P.info? elem).map (·.size) = some 1)
    (a b : List Int) (ha : a.length = n) (hb : b.length = n) :
    (Op.equalIn (d + 2) t (.agg (u8s a)) (.agg (u8s b))).run P w = .ok (decide (a = b)) w := by
  have hinfo : ∃ i, P.info? elem = some i ∧ i.size = 1 := by
    cases h : P.info? elem with
    | none => simp [h] at hs
    | some i => exact ⟨i, rfl, by simpa [h] using hs⟩
  obtain ⟨i, hi, h1⟩ := hinfo
  have hsz : (sizeOf elem).run P w = .ok 1 w := by simp [sizeOf, typeInfo, hi, h1]
  rw [Op.equalIn]
  simp only [Sem.run_bind, run_underlying ht, Result.andThen_ok, hsz]
  have h := eqLoop w d elem he a b n ha hb n 0 (by omega)
  simp at h ⊢
  rw [h]
  by_cases hab : a = b <;> simp [hab]
end YtlbgffhipondiaaGreatDoor
end Go
namespace Go
namespace YtlbgffhipondiaaGreatDoor
end YtlbgffhipondiaaGreatDoor
end Go
namespace Go
namespace YtlbgffhipondiaaGreatDoor
open RowKit
/-- A slice value that reads as' these numbers of 32 bits. -/
def RdW (w : World) (v : Value) (l : List Int) : Prop :=
  (∃ a c, v = .slice a 0 c ∧ (a = none → c = 0) ∧ l = []) ∨ ∃ b o c, v = .slice (some ⟨b, o, none⟩) l.length c ∧ l.length ≤ c ∧ c ≤ maxLen ∧ b < w.heap.size ∧ ∀ i, i < l.length → w.cell? ⟨b, o + i, none⟩ = some (.int .u32 (ith l i))
theorem RdW.slice {w : World} {v : Value} {l : List Int} (h : RdW w v l) : ∃ a c, v = .slice a l.length c := by
  rcases h with ⟨a, c, rfl, _, rfl⟩ | ⟨b, o, c, hv, _⟩
  · exact ⟨a, c, rfl⟩
  · exact ⟨_, c, hv⟩
def u32v (l : List Int) : List Value := l.map (Value.int .u32)
theorem u32v_length (l : List Int) : (u32v l).length = l.length := by simp [u32v]
theorem u32v_append (l m : List Int) : u32v (l ++ m) = u32v l ++ u32v m := by simp [u32v]
theorem u32v_get (l : List Int) (j : Nat) (h : j < l.length) : (u32v l)[j]? = some (.int .u32 (ith l j)) := by simp [u32v, ith, h]
theorem u32s_eq (l : List Int) : u32s l = (u32v l).toArray := rfl
theorem u32v_one (l : List Int) : ∀ u ∈ u32v l, u.oneCell' = true := by
  intro u hu; simp [u32v] at hu; obtain ⟨x, _, rfl⟩ := hu; rfl
/-- The slice value 'v' is the call's own (blocks from 'base' on), and reads as' the numbers 'l'. -/
def OwnW (base : Nat) (E : TypeId) (w : World) (v : Value) (l : List Int) : Prop := w.ownsRow base E 1 v l.length (u32v l)
theorem OwnW.nil (w : World) (base : Nat) (E : TypeId) : OwnW base E w (.slice none 0 0) [] := World.ownsRow_nil w base E 1
theorem OwnW.rd {base : Nat} {E : TypeId} {w : World} {v : Value} {l : List Int} (h : OwnW base E w v l) : RdW w v l := by
  rcases h.2 with ⟨rfl, h0⟩ | ⟨g, cap, cur, rfl, hb, hg, hn, hm, hs, ht⟩
  · exact .inl ⟨none, 0, rfl, fun _ => rfl, List.eq_nil_of_length_eq_zero h0⟩
  · refine .inr ⟨g, 0, cap, rfl, hn, hm, (Array.getElem?_eq_some_iff.1 hg).1, fun i hi => ?_⟩
    have hcell := World.ownsRow.cells (g := g) h rfl i _ (u32v_get l i hi)
    rw [addr_add] at hcell
    exact hcell
theorem OwnW.kept {base : Nat} {E : TypeId} {w w' : World} {v : Value} {l : List Int} (h : OwnW base E w v l) (hb : Below w.heap.size w w') : OwnW base E w' v l := by
  refine ⟨h.1, ?_⟩
  rcases h.2 with hn | ⟨g, cap, cur, rfl, hbg, hg, rest⟩
  · exact .inl hn
  · exact .inr ⟨g, cap, cur, rfl, hbg, (hb.block g (Array.getElem?_eq_some_iff.1 hg).1).trans hg, rest⟩
theorem RdW.src {w : World} {b o : Nat} {l : List Int} (h : ∀ i, i < l.length → w.cell? ⟨b, o + i, none⟩ = some (.int .u32 (ith l i))) :
    ∀ j u, (u32v l)[j]? = some u → w.cell? ((⟨b, o, none⟩ : Addr).add j) = some u := by
  intro j u hu
  have hj : j < l.length := by
    rcases Nat.lt_or_ge j l.length with h' | h'
    · exact h'
    · simp [u32v, List.getElem?_eq_none h'] at hu
  rw [u32v_get l j hj] at hu
  rw [addr_add, h j hj]; exact hu
theorem OwnW.below {base : Nat} {E : TypeId} {w w' : World} {v : Value} {l : List Int} (h : OwnW base E w v l) (hg : w.grownBy w' v.ownBlock) (hb : base ≤ w.heap.size) : Below base w w' :=
  Below.grown (Below.refl base w) hg hb (fun k hk => (World.ownsRow.lt h k hk).1)
theorem OwnW.mono {base B : Nat} {E : TypeId} {w : World} {v : Value} {l : List Int} (h : OwnW base E w v l) (hB : B ≤ base) : OwnW B E w v l := by
  refine ⟨h.1, ?_⟩
  rcases h.2 with hn | ⟨g, cap, cur, rfl, hbg, rest⟩
  · exact .inl hn
  · exact .inr ⟨g, cap, cur, rfl, Nat.le_trans hB hbg, rest⟩
section
variable {P : Program}
theorem run_appendW (w : World) (base : Nat) (t ty e : TypeId) (ht : P.underlying t = some (.slice e)) (hinfo : (P.info? e).map (fun i => (i.zero, i.size, i.bytes)) = some (some (.int .u32 0), 1, 4))
    (v : Value) (l : List Int) (hown : OwnW base e w v l) (sv : Value) (r : List Int) (hr : RdW w sv r) (hlen : (l.length + r.length) * 4 ≤ 140737488355328) (hbase : base ≤ w.heap.size) :
    ∃ v' w', (Builtin.append_ #[t, t] ty #[v, sv]).run P w = .ok v' w' ∧ OwnW base e w' v' (l ++ r) ∧ w.grownBy w' v.ownBlock := by
  obtain ⟨i, hi, hz, hs, hb⟩ := info_parts hinfo
  rcases hr with ⟨sa, sc, rfl, hsn, rfl⟩ | ⟨b, o, c, rfl, h1, h2, h3, h4⟩
  · cases sa with
    | some sa =>
      obtain ⟨v', w', hrun, ho, hg, _⟩ := run_append_own (P := P) w base t ty e i (.int .u32 0) 1 4 ht hi hz hs hb rfl (by omega) v l.length (u32v l) hown sa 0 sc (u32v [])
        (by rw [u32v_length]; rfl) (fun k x hx => by cases hx) (u32v_one []) (by unfold maxLen; simp at hlen ⊢; omega) (by simp at hlen ⊢; omega) hbase
      refine ⟨v', w', hrun, ?_, hg⟩
      unfold OwnW
      rw [List.append_nil]
      simpa [u32v] using ho
    | none =>
    obtain rfl := hsn rfl
    refine ⟨v, w, run_append_owned_none (P := P) (w := w) base t ty e i 1 ht hi v l.length (u32v l) hown, ?_, ⟨rfl, rfl, rfl, Nat.le_refl _, fun _ _ _ => rfl⟩⟩
    rw [List.append_nil]; exact hown
  · obtain ⟨v', w', hrun, ho, hg, _⟩ := run_append_own (P := P) w base t ty e i (.int .u32 0) 1 4 ht hi hz hs hb rfl (by omega) v l.length (u32v l) hown ⟨b, o, none⟩ r.length c (u32v r)
      (by rw [u32v_length]; omega) (RdW.src h4) (u32v_one r) (by unfold maxLen; omega) (by omega) hbase
    refine ⟨v', w', hrun, ?_, hg⟩
    unfold OwnW
    rw [List.length_append, u32v_append]; exact ho
theorem appendW {ops : Array Oper} {rest : List Oper} {o : Oper} {a : Act} {w : World} {Q : Exit → Act → World → Prop} (hgd : o.guard = none) (s x : Operand) (t : TypeId)
    (ho : o.op = .call { callee := .builtin .append, args := #[s, x], argTypes := #[t, t] })
    (base : Nat) (e : TypeId) (ht : P.underlying t = some (.slice e)) (hinfo : (P.info? e).map (fun i => (i.zero, i.size, i.bytes)) = some (some (.int .u32 0), 1, 4))
    (v : Value) (hs : a.eval s = v) (l : List Int) (hown : OwnW base e w v l) (sv : Value) (hx : a.eval x = sv) (r : List Int) (hr : RdW w sv r) (hlen : (l.length + r.length) * 4 ≤ 140737488355328) (hbase : base ≤ w.heap.size)
    (h : ∀ v' w', OwnW base e w' v' (l ++ r) → w.grownBy w' v.ownBlock → Stop (wpList P ops Q rest (a.put o.dst v') w')) : wpList P ops Q (o :: rest) a w := by
  refine wpList_plain hgd fun K hK => ?_
  obtain ⟨v', w', hrun, h2, h3⟩ := run_appendW (P := P) w base t o.type e ht hinfo v l hown sv r hr hlen hbase
  unfold Oper.wp execOp
  simp only [ho, resolve, invoke, builtin, Sem.run_bind, Sem.run_pure, Result.andThen_ok, List.map_toArray, List.map_cons, List.map_nil, hs, hx, hrun]
  exact hK _ _ (h v' w' h2 h3).out
theorem step_appendW {ops : Array Oper} {o : Oper} {a : Act} {w : World} {K : Act → World → Prop} {Q : Exit → Act → World → Prop} {E : Prop} (hgd : o.guard = none) (s x : Operand) (t : TypeId)
    (ho : o.op = .call { callee := .builtin .append, args := #[s, x], argTypes := #[t, t] })
    (base : Nat) (e : TypeId) (ht : P.underlying t = some (.slice e)) (hinfo : (P.info? e).map (fun i => (i.zero, i.size, i.bytes)) = some (some (.int .u32 0), 1, 4))
    (v : Value) (hs : a.eval s = v) (l : List Int) (hown : OwnW base e w v l) (sv : Value) (hx : a.eval x = sv) (r : List Int) (hr : RdW w sv r) (hlen : (l.length + r.length) * 4 ≤ 140737488355328) (hbase : base ≤ w.heap.size)
    (h : ∀ v' w', OwnW base e w' v' (l ++ r) → w.grownBy w' v.ownBlock → K (a.put o.dst v') w') :
    if Region.wanted o (yielded ops a.tmps) = true then Oper.wp P o a w K Q else E := by
  have hw : Region.wanted o (yielded ops a.tmps) = true := by simp [Region.wanted, hgd]
  rw [if_pos hw]
  obtain ⟨v', w', hrun, h2, h3⟩ := run_appendW (P := P) w base t o.type e ht hinfo v l hown sv r hr hlen hbase
  unfold Oper.wp execOp
  simp only [ho, resolve, invoke, builtin, Sem.run_bind, Sem.run_pure, Result.andThen_ok, List.map_toArray, List.map_cons, List.map_nil, hs, hx, hrun]
  exact h v' w' h2 h3
end
end YtlbgffhipondiaaGreatDoor
end Go

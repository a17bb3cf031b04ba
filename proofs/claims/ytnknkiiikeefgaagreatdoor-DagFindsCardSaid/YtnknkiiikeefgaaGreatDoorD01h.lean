/- Contracts of digest.Add, digest.End and digest.Cmp. Contracts of digest.End and digest.Cmp. Contract of digest.End. Contracts of the reference's turn, First, constants and Cmp. Contract of the reference's written. Contract of the reference's tail. Contract of the reference's constants. LibE Arrays of words that are compared. Laws on slices of 32-bit numbers, over any program: append, said of lists of numbers. -/
import Derived.Test.YtnknkiiikeefgaaGreatDoorD01a
import Derived.Test.YtnknkiiikeefgaaGreatDoorLibB
import Derived.Deep.QuietTactic
namespace Go.Proofs.YtnknkiiikeefgaaGreatDoor
open Go.RowKit Go.YtnknkiiikeefgaaGreatDoor
set_option linter.unusedVariables false
variable {Tg Tf : TypeId}
theorem validB_yes (N rn : Nat) (hN : N ≤ 200000) (hr : rn = N % 64) : validB (N : Int) rn = true := by unfold validB; simp; omega
theorem below2 (w : World) (o1 o2 : Obj) {w1 : World} (hb1 : Below ((w.alloc o1).alloc o2).heap.size ((w.alloc o1).alloc o2) w1) : Below w.heap.size w w1 ∧ w.heap.size + 1 < w1.heap.size ∧ w1.heap[w.heap.size + 1]? = some o2 := by
  have h := hb1.size
  rw [World.size_alloc, World.size_alloc] at h
  exact ⟨(((Below.refl _ _).alloc (Nat.le_refl _) _).alloc (by simp) _).trans (hb1.mono (by simp; omega)), by omega, (hb1.block _ (by simp)).trans (hn2 w _ _)⟩
end Go.Proofs.YtnknkiiikeefgaaGreatDoor
namespace Go.Proofs.YtnknkiiikeefgaaGreatDoor
open Go.RowKit Go.YtnknkiiikeefgaaGreatDoor
set_option linter.unusedVariables false
theorem ext_compare (va vb : Value) (a b : List Int) (w : World) (ha : RdB w va a) (hb : RdB w vb b) (h1 : Bytes a) (h2 : Bytes b) :
    (callFunc 167 #[va, vb]).run Tryz.prog w = .ok (.value (.int .i64 (cmpF a b))) w := by
  rw [run_callFunc_extern (fn := Tryz.f167) (e := Extern.BytealgCompare.compare) Tryz.func167 (by decide) rfl (by kernel_rfl) (by kernel_rfl), run_compareB ha hb h1 h2]
  rfl
theorem compare_any (va vb : Value) (a b : List Int) (w : World) (ha : RdB w va a) (hb : RdB w vb b) (h1 : Bytes a) (h2 : Bytes b) :
    Calls Tryz.prog 129 #[va, vb] w fun e w' => e = .returned (.int .i64 (cmpF a b)) ∧ w = w' := by
  have hx := ext_compare va vb a b w ha hb h1 h2
  clear ha hb h1 h2
  go_enter Tryz.func129, Tryz.ntmps129
  go_wp2
  go_ret
  exact ⟨rfl, rfl⟩
set_option maxRecDepth 100000 in
set_option maxHeartbeats 400000 in
theorem cmp_any (a b : List Int) (w : World) (ha : a.length = 32) (hb : b.length = 32) (h1 : Bytes a) (h2 : Bytes b) :
    Calls Tryz.prog 95 #[.agg (u8s a), .agg (u8s b)] w fun e w' => e = .returned (.int .i64 (cmpF a b)) ∧ Below w.heap.size w w' := by
  have hs1 := fun wx => run_sliceAt_full (P := Tryz.prog) Tryz.underlying24 (by kernel_rfl) w.heap.size wx
  have hs2 := fun wx => run_sliceAt_full (P := Tryz.prog) Tryz.underlying24 (by kernel_rfl) (w.heap.size + 1) wx
  have hr1 : RdB ((w.alloc (.cells (u8s a) 24)).alloc (.cells (u8s b) 24)) (.slice (some ⟨w.heap.size, 0, none⟩) 32 32) a := by
    exact rd_row (E := 24) ((hp1 _ _ _ (by simp)).trans (heap_alloc_new w _)) 32 32 ha (Nat.le_refl _) (by unfold maxLen; omega)
  have hr2 : RdB ((w.alloc (.cells (u8s a) 24)).alloc (.cells (u8s b) 24)) (.slice (some ⟨w.heap.size + 1, 0, none⟩) 32 32) b := by
    exact rd_row (E := 24) (hn2 w _ _) 32 32 hb (Nat.le_refl _) (by unfold maxLen; omega)
  have hr1' := Lib.hid hr1; have hr2' := Lib.hid hr2; have h1' := Lib.hid h1; have h2' := Lib.hid h2
  clear hr1 hr2 ha hb h1 h2
  go_enter Tryz.func95, Tryz.ntmps95
  go_wp2
  go_region_with (go_at_call 129; refine (compare_any _ _ a b _ ?_ ?_ h1'.out h2'.out).mono ?_; (exact hr1'.out); (exact hr2'.out); rintro e w' ⟨rfl, rfl⟩)
  all_goals
    go_wp2
    go_ret
    exact ⟨rfl, (((Below.refl _ _).alloc (Nat.le_refl _) _).alloc (by simp) _).drew⟩
end Go.Proofs.YtnknkiiikeefgaaGreatDoor
namespace Go.Proofs.YtnknkiiikeefgaaGreatDoor
open Go.RowKit Go.YtnknkiiikeefgaaGreatDoor
set_option linter.unusedVariables false
variable {Tg Tf : TypeId}
theorem info_id : (Tryz.prog.info? 24).map (·.size) = some (u8s (zerosB 32)).size := by kernel_rfl
theorem zeros_size : (u8s (zerosB 32)).size = 32 := by kernel_rfl
end Go.Proofs.YtnknkiiikeefgaaGreatDoor
namespace Go.Proofs.YtnknkiiikeefgaaGreatDoor
open Go.RowKit Go.YtnknkiiikeefgaaGreatDoor
set_option linter.unusedVariables false
theorem bits_or_comm (k : IntKind) (a b : Int) : bits .or k a b = bits .or k b a := by
  unfold bits
  simp only [BitVec.or_comm]
set_option maxRecDepth 100000 in
theorem rturn_any (x : Int) (n : Nat) (w : World) (hx : 0 ≤ x) (hx2 : x < 4294967296) (h : 1 ≤ n) (h2 : n ≤ 31) :
    Calls Tryz.prog 205 #[.int .u32 x, .int .i64 (n : Int)] w fun e w' => e = .returned (.int .u32 (rotr x n)) ∧ Draws w w' := by
  go_enter Tryz.func205, Tryz.ntmps205
  go_wp2
  go_quiet (fail)
  go_wp2
  go_ret
  refine ⟨?_, ⟨nq, rfl⟩⟩
  show Ending.returned (Value.int .u32 (bits .or .u32 (x / 2 ^ n) (x * 2 ^ (32 - n) % 4294967296))) = _
  rw [bits_or_comm]
  simp [rotr]
theorem rfirst_any (w : World) : Calls Tryz.prog 151 #[] w fun e w' => e = .returned (.agg firstW.cells) ∧ Below w.heap.size w w' := by
  go_enter Tryz.func151, Tryz.ntmps151
  go_wp2
  try simp only [Exit.inBlock, Exit.then]
  exact bodyPost_ret (results_cell_row rfl _ _ w.heap.size 159 _ _ _ rfl (heap_alloc_new w _) Tryz.underlying159 rfl (by kernel_rfl)) rfl ⟨rfl, (Below.refl _ _).alloc (Nat.le_refl _) _⟩
set_option maxRecDepth 100000 in
theorem rcmp_any (a b : List Int) (w : World) (ha : a.length = 32) (hb : b.length = 32) (h1 : Bytes a) (h2 : Bytes b) :
    Calls Tryz.prog 81 #[.agg (u8s a), .agg (u8s b)] w fun e w' => e = .returned (.int .i64 (cmpF a b)) ∧ Below w.heap.size w w' := by
  have ha' := Lib.hid ha; have hb' := Lib.hid hb
  clear ha hb h1 h2
  go_enter Tryz.func81, Tryz.ntmps81
  go_wp2
  have r1 := hp1 (w.alloc (.cells (u8s a) 24)) (.cells (u8s b) 24) w.heap.size (by simp)
  have r1 := Lib.hid (r1.trans (heap_alloc_new w _))
  have r2 := Lib.hid (hn2 w (.cells (u8s a) 24) (.cells (u8s b) 24))
  have hB := Lib.hid (show Below w.heap.size w ((w.alloc (.cells (u8s a) 24)).alloc (.cells (u8s b) 24)) from ((Below.refl _ _).alloc (Nat.le_refl _) _).alloc (by simp) _)
  generalize (w.alloc (.cells (u8s a) 24)).alloc (.cells (u8s b) 24) = W at *
  go_loopw [5] (fun i wr => ∃ k : Nat, k ≤ 32 ∧ i = .int .i64 k ∧ (∀ j, j < k → ith b j = ith a j) ∧ Draws W wr) (fun i _ => match i with | .int _ m => 32 - m.toNat | _ => 0)
  case atStart => exact ⟨0, by omega, rfl, fun j hj => absurd hj (Nat.not_lt_zero _), Draws.refl _⟩
  case round =>
    obtain ⟨k, hk, rfl, heq, hd⟩ := hrel
    have heq' := Lib.hid heq
    clear heq
    by_cases hlt : k < 32
    · have c1 : wr.cell? ⟨w.heap.size, k, none⟩ = some (.int .u8 (ith a k)) := by
        rw [hd.cell, cell_of_row _ _ _ _ _ _ r1.out]; exact u8s_get _ _ (by rw [ha'.out]; exact hlt)
      have c2 : wr.cell? ⟨w.heap.size + 1, k, none⟩ = some (.int .u8 (ith b k)) := by
        rw [hd.cell, cell_of_row _ _ _ _ _ _ r2.out]; exact u8s_get _ _ (by rw [hb'.out]; exact hlt)
      generalize hx : ith a k = x at c1
      generalize hy : ith b k = y at c2
      have hx' := Lib.hid hx; have hy' := Lib.hid hy; have hd' := Lib.hid hd
      clear hx hy
      by_cases h1 : x < y
      · have hc := cmp_less k a b (by rw [ha'.out]; exact hlt) (by rw [hb'.out]; exact hlt) heq'.out (by rw [hx'.out, hy'.out]; exact h1)
        have hc' := Lib.hid hc; clear hc
        go_wp2
        go_quiet (fail)
        go_wp2
        go_ret
        exact ⟨congrArg (fun z => Ending.returned (Value.int .i64 z)) hc'.out.symm, (hd'.out.drewN _).below hB.out⟩
      · by_cases h2 : y < x
        · have hc := cmp_less k b a (by rw [hb'.out]; exact hlt) (by rw [ha'.out]; exact hlt) (fun j hj => (heq'.out j hj).symm) (by rw [hx'.out, hy'.out]; exact h2)
          have hc2 : cmpF a b = 1 := by rw [cmp_anti b a, hc]; rfl
          have hc' := Lib.hid hc2; clear hc hc2
          go_wp2
          go_quiet (fail)
          go_wp2
          go_quiet (fail)
          go_wp2
          go_ret
          exact ⟨congrArg (fun z => Ending.returned (Value.int .i64 z)) hc'.out.symm, ((hd'.out.drewN _).drewN _).below hB.out⟩
        · go_wp2
          go_quiet (fail)
          go_wp2
          go_quiet (fail)
          go_wp2
          go_roundw
          case rel =>
            refine ⟨k + 1, by omega, by go_num, fun j hj => ?_, hd'.out.drewN _⟩
            by_cases hjk : j = k
            · subst hjk; rw [hx'.out, hy'.out]; omega
            · exact heq'.out j (by omega)
          case measure => go_num
    · have hk32 : k = 32 := by omega
      subst hk32
      have hab : b = a := by
        apply List.ext_getElem (by rw [ha'.out, hb'.out])
        intro i h1 h2
        have := heq'.out i (by rw [hb'.out] at h1; exact h1)
        simpa [ith, h1, h2] using this
      have hc' := Lib.hid (show cmpF a b = 0 by rw [hab]; exact cmp_self a); clear hab
      go_wp2
      go_ret
      exact ⟨congrArg (fun z => Ending.returned (Value.int .i64 z)) hc'.out.symm, hd.below hB.out⟩
end Go.Proofs.YtnknkiiikeefgaaGreatDoor
namespace Go.Proofs.YtnknkiiikeefgaaGreatDoor
open Go.RowKit Go.YtnknkiiikeefgaaGreatDoor
set_option linter.unusedVariables false
def wF (V : V8) (i : Nat) : Int := ith V.list (i / 4) / 2 ^ (24 - 8 * (i % 4)) % 256
def PL (V : V8) (k : Nat) : List Int := (List.range 32).map fun i => if i < k then wF V i else 0
theorem PL_length (V : V8) (k : Nat) : (PL V k).length = 32 := by simp [PL]
theorem PL_set (V : V8) (k : Nat) (h : k < 32) : (PL V k).set k (wF V k) = PL V (k + 1) := by
  apply List.ext_getElem (by simp [PL])
  intro i h1 h2
  have hi : i < 32 := by simpa [PL] using h2
  rw [List.getElem_set]
  simp only [PL, List.getElem_map, List.getElem_range]
  by_cases hk : k = i
  · subst hk; simp
  · simp only [hk, if_false]
    by_cases hlt : i < k
    · rw [if_pos hlt, if_pos (by omega)]
    · rw [if_neg hlt, if_neg (by omega)]
theorem be4_w (x : Int) (hx : In32 x) : be4 x = [x / 2 ^ 24 % 256, x / 2 ^ 16 % 256, x / 2 ^ 8 % 256, x / 2 ^ 0 % 256] := by
  obtain ⟨h1, h2⟩ := hx
  unfold be4
  rw [show (2 : Int) ^ 24 = 16777216 from rfl, show (2 : Int) ^ 16 = 65536 from rfl, show (2 : Int) ^ 8 = 256 from rfl, show (2 : Int) ^ 0 = 1 from rfl, Int.ediv_one, show x / 16777216 % 256 = x / 16777216 by omega]
theorem PL_all (V : V8) (h : V.ok) : PL V 32 = writtenF V := by
  obtain ⟨ha, hb, hc, hd, he, hf, hg, hh⟩ := h
  show _ = be4 V.a ++ be4 V.b ++ be4 V.c ++ be4 V.d ++ be4 V.e ++ be4 V.f ++ be4 V.g ++ be4 V.h
  rw [be4_w _ ha, be4_w _ hb, be4_w _ hc, be4_w _ hd, be4_w _ he, be4_w _ hf, be4_w _ hg, be4_w _ hh]
  rfl
set_option maxRecDepth 100000 in
theorem rwritten_any (V : V8) (w : World) (hV : V.ok) : Calls Tryz.prog 149 #[.agg (u32s V.list)] w fun e w' => e = .returned (.agg (u8s (writtenF V))) ∧ Below w.heap.size w w' := by
  have hV' := Lib.hid hV; clear hV
  have hi := Lib.hid (show (Tryz.prog.info? 24).map (·.size) = some (u8s (PL V 32)).size from by rw [u8s_size, PL_length]; kernel_rfl)
  go_enter Tryz.func149, Tryz.ntmps149
  go_wp2
  generalize hW : ((w.alloc _).alloc _).alloc _ = W
  have hrow0 := Lib.hid (show W.heap[w.heap.size]? = some (.cells (u32s V.list) 159 (0, 0)) by rw [← hW]; exact (hp1 _ _ _ (by simp; omega)).trans ((hp1 _ _ _ (by simp)).trans (heap_alloc_new w _)))
  have hrow1 := Lib.hid (show W.heap[w.heap.size + 1]? = some (.cells (u8s (PL V 0)) 24 (0, 0)) by rw [← hW]; exact (hp1 _ _ _ (by simp)).trans (hn2 w _ _))
  have hrow2 := Lib.hid (show W.heap[w.heap.size + 2]? = some (.cells (u8s (PL V 0)) 24 (0, 0)) by rw [← hW]; exact hn3 w _ _ _)
  have hB := Lib.hid (show Below w.heap.size w W by rw [← hW]; exact (((Below.refl _ _).alloc (Nat.le_refl _) _).alloc (by simp) _).alloc (by simp; omega) _)
  clear hW
  go_loopw [4] (fun i wr => ∃ k : Nat, k ≤ 32 ∧ i = .int .i64 k ∧ Below (w.heap.size + 2) W wr ∧ wr.heap[w.heap.size + 2]? = some (.cells (u8s (PL V k)) 24 (0, 0))) (fun i _ => match i with | .int _ m => 32 - m.toNat | _ => 0)
  case atStart => exact ⟨0, by omega, rfl, Below.refl _ _, hrow2.out⟩
  case round =>
    obtain ⟨k, hk, rfl, hb, hrow⟩ := hrel
    by_cases hlt : k < 32
    · have c1 : ∃ x, wr.cell? ⟨w.heap.size + 2, k, none⟩ = some (.int .u8 x) := ⟨_, by rw [cell_of_row _ _ _ _ _ _ hrow]; exact u8s_get _ k (by rw [PL_length]; exact hlt)⟩
      obtain ⟨x, c1⟩ := c1
      have c2 : wr.frozen? ⟨w.heap.size + 2, k, none⟩ = false := frozen_of_row _ _ _ _ _ hrow
      have c3 : wr.cell? ⟨w.heap.size, k / 4, none⟩ = some (.int .u32 (ith V.list (k / 4))) := by
        rw [cell_of_row _ _ _ _ _ _ ((hb.block _ (by omega)).trans hrow0.out)]; exact u32s_get _ _ (show k / 4 < 8 by omega)
      have hb' := Lib.hid hb; have hrow' := Lib.hid hrow
      clear hb hrow
      go_wp2
      go_roundw
      case rel =>
        have h := setCell_row hrow'.out k (.int .u8 (wF V k))
        rw [u8s_set, PL_set V k hlt] at h
        exact ⟨k + 1, by omega, by go_num, hb'.out.setCell (p := ⟨w.heap.size + 2, k, none⟩) (Nat.le_refl (w.heap.size + 2)) _, h⟩
      case measure => go_num
    · have hk32 : k = 32 := by omega
      rw [hk32] at hrow
      have hrow' := Lib.hid hrow; have hr1 := Lib.hid ((hb.block (w.heap.size + 1) (by omega)).trans hrow1.out); have hb' := Lib.hid (hB.out.trans (hb.mono (by omega)))
      clear hb hrow hk32
      go_wp2_with (first | (refine wpList_load_row rfl 24 _ rfl (w.heap.size + 2) rfl 24 _ _ _ hrow'.out Tryz.underlying24 rfl hi.out ?_) | (refine wpList_store_row rfl 24 _ _ rfl (w.heap.size + 1) (u8s (PL V 32)) rfl rfl 24 _ hr1.out hi.out (by rw [u8s_size, u8s_size, PL_length, PL_length]) (u8s_one _) ?_))
      try simp only [Exit.inBlock, Exit.then]
      exact bodyPost_ret (results_cell_row rfl _ _ (w.heap.size + 1) 24 _ _ _ rfl (setRow_heap _ _ _ _ _ _ hr1.out) Tryz.underlying24 rfl hi.out) rfl ⟨by rw [← PL_all V hV'.out], below_setRow' (g := w.heap.size + 1) hb'.out (by omega) _⟩
end Go.Proofs.YtnknkiiikeefgaaGreatDoor
namespace Go.Proofs.YtnknkiiikeefgaaGreatDoor
open Go.RowKit Go.YtnknkiiikeefgaaGreatDoor
set_option linter.unusedVariables false
def tl (z : Nat) : List Int := 128 :: List.replicate z 0
theorem tl_length (z : Nat) : (tl z).length = z + 1 := by simp [tl]
theorem tl_succ (z : Nat) : tl z ++ [0] = tl (z + 1) := by simp [tl, List.replicate_succ']
def b8 (n j : Nat) : Int := 8 * (n : Int) / 2 ^ (8 * (7 - j)) % 256
def b8N (n : Nat) : Nat → List Int
  | 0 => []
  | j + 1 => b8N n j ++ [b8 n j]
theorem b8_all (n : Nat) (h : n ≤ 300000) : b8N n 8 = [0, 0, 0, 0] ++ be4 (8 * (n : Int)) := by
  show [b8 n 0, b8 n 1, b8 n 2, b8 n 3, b8 n 4, b8 n 5, b8 n 6, b8 n 7] = [0, 0, 0, 0, 8 * (n : Int) / 16777216, 8 * (n : Int) / 65536 % 256, 8 * (n : Int) / 256 % 256, 8 * (n : Int) % 256]
  have e0 : b8 n 0 = 0 := by show 8 * (n : Int) / 72057594037927936 % 256 = 0; omega
  have e1 : b8 n 1 = 0 := by show 8 * (n : Int) / 281474976710656 % 256 = 0; omega
  have e2 : b8 n 2 = 0 := by show 8 * (n : Int) / 1099511627776 % 256 = 0; omega
  have e3 : b8 n 3 = 0 := by show 8 * (n : Int) / 4294967296 % 256 = 0; omega
  have e4 : b8 n 4 = 8 * (n : Int) / 16777216 := by show 8 * (n : Int) / 16777216 % 256 = _; omega
  have e5 : b8 n 5 = 8 * (n : Int) / 65536 % 256 := rfl
  have e6 : b8 n 6 = 8 * (n : Int) / 256 % 256 := rfl
  have e7 : b8 n 7 = 8 * (n : Int) % 256 := by show 8 * (n : Int) / 1 % 256 = _; omega
  rw [e0, e1, e2, e3, e4, e5, e6, e7]
theorem rd_lit (w : World) (x : Int) : RdB (w.alloc (.cells #[.int .u8 x] 5)) (.slice (some ⟨w.heap.size, 0, none⟩) 1 1) [x] := .inr ⟨w.heap.size, 0, 1, rfl, Nat.le_refl _, by decide, by simp, fun i hi => by
  have hi0 : i = 0 := by simpa using hi
  subst hi0
  rw [Nat.zero_add, cell_of_row _ _ _ _ _ _ (heap_alloc_new w _)]; rfl⟩
def zT (n : Nat) : Nat := (64 - (n + 9) % 64) % 64
set_option maxRecDepth 100000 in
theorem rtail_any (n : Nat) (w : World) (hn : n ≤ 300000) : Calls Tryz.prog 152 #[.int .i64 (n : Int)] w fun e w' => ∃ r, e = .returned r ∧ OwnB w.heap.size 5 w' r (tl (zT n) ++ [0, 0, 0, 0] ++ be4 (8 * (n : Int))) ∧ Below w.heap.size w w' := by
  have e0 : OwnB w.heap.size 5 (w.alloc (.cells #[.int .u8 128] 5)) (.slice (some ⟨w.heap.size, 0, none⟩) 1 1) [128] :=
    ⟨rfl, .inr ⟨w.heap.size, 1, _, rfl, Nat.le_refl _, heap_alloc_new w _, Nat.le_refl _, by decide, rfl, rfl⟩⟩
  have hz : zT n < 64 := Nat.mod_lt _ (by decide)
  have hz2 : (n + zT n + 9) % 64 = 0 := by unfold zT; omega
  have hz3 : ∀ z, z < zT n → (n + z + 9) % 64 ≠ 0 := by unfold zT; omega
  have hz3' := Lib.hid hz3; have e0' := Lib.hid e0
  clear hz3 e0
  generalize zT n = Z at *
  go_enter Tryz.func152, Tryz.ntmps152
  go_wp2
  go_loopw [3] (fun s wr => ∃ z : Nat, z ≤ Z ∧ OwnB w.heap.size 5 wr s (tl z) ∧ Below w.heap.size w wr) (fun s _ => 66 - lenS s)
  case atStart => exact ⟨0, Nat.zero_le _, e0'.out, (Below.refl _ _).alloc (Nat.le_refl _) _⟩
  case round =>
    obtain ⟨z, hk, ho, hb⟩ := hrel
    obtain ⟨sa, sc, rfl⟩ := ho.rd.slice
    have hlen := tl_length z
    by_cases hlt : z < Z
    · have hc := hz3'.out z hlt
      have ho' := Lib.hid (ho.kept ((Below.refl _ _).alloc (Nat.le_refl _) (.cells #[.int .u8 0] 5)))
      have hr' := Lib.hid (show RdB (wr.alloc (.cells #[.int .u8 0] 5)) (.slice (some ⟨wr.heap.size, 0, none⟩) 1 1) [0] from .inr ⟨wr.heap.size, 0, 1, rfl, Nat.le_refl _, by decide, by simp, fun i hi => by
        have hi0 : i = 0 := by simpa using hi
        subst hi0
        rw [Nat.zero_add, cell_of_row _ _ _ _ _ _ (heap_alloc_new wr _)]; rfl⟩)
      have hb' := Lib.hid hb; have hzw := hb.size
      rw [hlen] at ho' ⊢
      clear ho hb
      have hne : ¬ ((n : Int) + ((z + 1 : Nat) : Int) + 8) % 64 = 0 := by omega
      go_wp2_with (refine appendB rfl _ _ 83 rfl w.heap.size 5 Tryz.underlying83 (by kernel_rfl) _ rfl _ ho'.out _ rfl _ hr'.out (by rw [tl_length]; simp; omega) (by simp; omega) ?_)
      intro v' w' h1 h2
      have hb2 := ho'.out.below h2 (by simp; omega)
      rw [tl_succ] at h1
      obtain ⟨va, vc, rfl⟩ := h1.rd.slice
      have h1' := Lib.hid h1; have hB2 := Lib.hid (hb'.out.trans (((Below.refl _ _).alloc hzw _).trans hb2))
      have hl2 := tl_length (z + 1)
      rw [hl2] at h1' ⊢
      clear h1 h2 hb2 hr' ho'
      refine Stop.go ?_
      go_wp2
      go_roundw
      case rel =>
        exact ⟨z + 1, by omega, h1'.out, hB2.out⟩
      case measure => simp [lenS]; omega
    · have hzz : z = Z := by omega
      subst hzz
      have hcz : (((n : Int) + ((z : Int) + 1) + 8) % 64 != 0) = false := by
        rw [show ((n : Int) + ((z : Int) + 1) + 8) % 64 = 0 by omega]; rfl
      have ho' := Lib.hid ho; have hb' := Lib.hid hb
      rw [hlen] at ho' ⊢
      clear ho hb
      go_wp2
      have hT := tl_length z
      generalize hTT : tl z = T at ho' hT
      have hTT' := Lib.hid hTT; clear hTT
      go_loopw [3, 4] (fun s i wq => ∃ j : Nat, j ≤ 8 ∧ i = .int .i64 (7 - (j : Int)) ∧ OwnB w.heap.size 5 wq s (T ++ b8N n j) ∧ Below w.heap.size w wq) (fun _ i _ => match i with | .int _ m => (m + 1).toNat | _ => 0)
      case atStart =>
        refine ⟨0, by omega, rfl, ?_, hb'.out⟩
        rw [show T ++ b8N n 0 = T from List.append_nil T]; exact ho'.out
      case round =>
        obtain ⟨j, hj, rfl, hoq, hbq⟩ := hrel
        obtain ⟨qa, qc, rfl⟩ := hoq.rd.slice
        by_cases hj8 : j < 8
        · obtain ⟨m, hm⟩ : ∃ m : Nat, 7 - (j : Int) = (m : Int) := ⟨7 - j, by omega⟩
          have hmv : m = 7 - j := by omega
          rw [hm]
          have hoq' := Lib.hid hoq; have hbq' := Lib.hid hbq; have hzq := hbq.size
          have hl8 : (T ++ b8N n j).length ≤ 200 := by
            have h8 : ∀ k, (b8N n k).length = k := by
              intro k
              induction k with
              | zero => rfl
              | succ k ih => simp [b8N, ih]
            rw [List.length_append, hT, h8]; omega
          generalize hLL : T ++ b8N n j = LL at *
          have hLL' := Lib.hid hLL
          clear hoq hbq hLL hm
          go_wp2_with (refine appendB rfl _ _ 83 rfl w.heap.size 5 Tryz.underlying83 (by kernel_rfl) _ rfl _ (hoq'.out.kept ((Below.refl _ _).alloc (Nat.le_refl _) _)) _ rfl _ (rd_lit _ _) (by simp; omega) (by simp; omega) ?_)
          intro v' w' h1 h2
          have hb2 := (hoq'.out.kept ((Below.refl _ _).alloc (Nat.le_refl _) _)).below h2 (by simp; omega)
          have h3 : OwnB w.heap.size 5 w' v' (T ++ b8N n (j + 1)) := by
            have e : LL ++ [8 * (n : Int) / 2 ^ (8 * (7 - j)) % 256] = T ++ b8N n (j + 1) := by rw [← hLL'.out, List.append_assoc]; rfl
            rw [← e]; exact h1
          have h3' := Lib.hid h3; have hB2 := Lib.hid (hbq'.out.trans (((Below.refl _ _).alloc hzq _).trans hb2))
          obtain ⟨va, vc, rfl⟩ := h3.rd.slice
          clear h1 h2 hb2 h3 hoq' hbq' hLL' hl8
          refine Stop.go ?_
          go_wp2
          go_roundw
          case rel =>
            refine ⟨j + 1, by omega, ?_, h3'.out, hB2.out⟩
            congr 1; omega
          case measure =>
            show (((7 - j : Nat) : Int) - 1 + 1).toNat < ((m : Int) + 1).toNat
            omega
        · have hj8' : j = 8 := by omega
          have hoq' := Lib.hid (show OwnB w.heap.size 5 _ (.slice qa (T ++ b8N n j).length qc) (tl z ++ [0, 0, 0, 0] ++ be4 (8 * (n : Int))) by
            rw [hj8', b8_all n hn, ← List.append_assoc, ← hTT'.out] at hoq
            rw [hj8', b8_all n hn, ← List.append_assoc, ← hTT'.out]; exact hoq)
          have hbq' := Lib.hid hbq
          clear hoq hbq
          generalize (T ++ b8N n j).length = N at *
          go_wp2
          go_ret
          exact ⟨_, rfl, hoq'.out, hbq'.out⟩
end Go.Proofs.YtnknkiiikeefgaaGreatDoor
namespace Go.Proofs.YtnknkiiikeefgaaGreatDoor
open Go.RowKit Go.YtnknkiiikeefgaaGreatDoor
set_option linter.unusedVariables false
set_option maxRecDepth 100000 in
theorem rconst_any (w : World) : Calls Tryz.prog 206 #[] w fun e w' => e = .returned (.slice (some ⟨w.heap.size, 0, none⟩) 64 64) ∧ w' = w.alloc (.cells (u32s constW) 25) := by
  go_enter Tryz.func206, Tryz.ntmps206
  go_wp2
  go_ret
  exact ⟨rfl, rfl⟩
end Go.Proofs.YtnknkiiikeefgaaGreatDoor
namespace Go
namespace YtnknkiiikeefgaaGreatDoor
theorem run_partB {P : Program} (w : World) (e : TypeId) (he : P.underlying e = some (.int .u8)) (l : List Int) (i : Nat) (h : i < l.length) : (part e (u8s l) i).run P w = .ok (.int .u8 (ith l i)) w := by
  simp [part, isAgg, run_underlying he, u8s_get l i h]
theorem eqLoop {P : Program} (w : World) (d elem : Nat) (he : P.underlying elem = some (.int .u8)) (a b : List Int) (n : Nat) (ha : a.length = n) (hb : b.length = n) : ∀ m i, i + m = n →
    (forIn (List.range' i m) ((none, ()) : Option Bool × Unit) fun i __s => do
              let __do_lift ← part elem (u8s a) (i * 1)
              let __do_lift_1 ← part elem (u8s b) (i * 1)
              let __do_lift ← Op.equalIn (d + 1) elem __do_lift __do_lift_1
              if __do_lift = false then (pure (ForInStep.done (some false, ())) : Sem _) else pure (ForInStep.yield (none, ()))).run P w
      = .ok (if a.drop i = b.drop i then (none, ()) else (some false, ())) w := by
  intro m
  induction m with
  | zero => intro i hi; simp [List.drop_eq_nil_of_le, ha, hb, ← hi]
  | succ m ih =>
    intro i hi
    have h1 : i < a.length := by omega
    have h2 : i < b.length := by omega
    rw [List.range'_succ, List.forIn_cons]
    simp only [Nat.mul_one, Sem.run_bind, run_partB w elem he a i h1, run_partB w elem he b i h2, Result.andThen_ok, run_equalIn_int w d elem .u8 .u8 _ _ he]
    have key : (a.drop i = b.drop i) = (a[i] = b[i] ∧ a.drop (i + 1) = b.drop (i + 1)) := by rw [List.drop_eq_getElem_cons h1, List.drop_eq_getElem_cons h2, List.cons.injEq]
    simp only [key]
    have e1 : ith a i = a[i] := by simp [ith, h1]
    have e2 : ith b i = b[i] := by simp [ith, h2]
    rw [e1, e2]
    by_cases h : a[i] = b[i]
    · have ih' := ih (i + 1) (by omega)
      simp only [Nat.mul_one] at ih'
      simp only [h, true_and, beq_self_eq_true, Bool.true_eq_false, if_false, Sem.run_pure, Result.andThen_ok]
      exact ih'
    · simp [h]
theorem run_equalArr {P : Program} (w : World) (d t elem n : Nat) (ht : P.underlying t = some (.array n elem)) (he : P.underlying elem = some (.int .u8)) (hs : (P.info? elem).map (·.size) = some 1)
    (a b : List Int) (ha : a.length = n) (hb : b.length = n) :
    (Op.equalIn (d + 2) t (.agg (u8s a)) (.agg (u8s b))).run P w = .ok (decide (a = b)) w := by
  have hinfo : ∃ i, P.info? elem = some i ∧ i.size = 1 := by
    cases h : P.info? elem with
    | none => simp [h] at hs
    | some i => exact ⟨i, rfl, by simpa [h] using hs⟩
  obtain ⟨i, hi, h1⟩ := hinfo
  have hsz : (sizeOf elem).run P w = .ok 1 w := by simp [sizeOf, typeInfo, hi, h1]
  rw [Op.equalIn]
  simp only [Sem.run_bind, run_underlying ht, Result.andThen_ok, hsz]
  have h := eqLoop w d elem he a b n ha hb n 0 (by omega)
  simp at h ⊢
  rw [h]
  by_cases hab : a = b <;> simp [hab]
theorem run_eqArr {P : Program} (w : World) (t elem n : Nat) (ht : P.underlying t = some (.array n elem)) (he : P.underlying elem = some (.int .u8)) (hs : (P.info? elem).map (·.size) = some 1)
    (a b : List Int) (ha : a.length = n) (hb : b.length = n) :
    (binOp .eql t (.agg (u8s a)) (.agg (u8s b))).run P w = .ok (.bool (decide (a = b))) w := by
  rw [run_eql_struct, run_equalArr w 9998 t elem n ht he hs a b ha hb]
  rfl
end YtnknkiiikeefgaaGreatDoor
end Go
namespace Go
namespace YtnknkiiikeefgaaGreatDoor
theorem run_partW {P : Program} (w : World) (e : TypeId) (he : P.underlying e = some (.int .u32)) (l : List Int) (i : Nat) (h : i < l.length) : (part e (u32s l) i).run P w = .ok (.int .u32 (ith l i)) w := by
  simp [part, isAgg, run_underlying he, u32s_get l i h]
theorem eqLoopW {P : Program} (w : World) (d elem : Nat) (he : P.underlying elem = some (.int .u32)) (a b : List Int) (n : Nat) (ha : a.length = n) (hb : b.length = n) : ∀ m i, i + m = n →
    (forIn (List.range' i m) ((none, ()) : Option Bool × Unit) fun i __s => do
              let __do_lift ← part elem (u32s a) (i * 1)
              let __do_lift_1 ← part elem (u32s b) (i * 1)
              let __do_lift ← Op.equalIn (d + 1) elem __do_lift __do_lift_1
              if __do_lift = false then (pure (ForInStep.done (some false, ())) : Sem _) else pure (ForInStep.yield (none, ()))).run P w
      = .ok (if a.drop i = b.drop i then (none, ()) else (some false, ())) w := by
  intro m
  induction m with
  | zero => intro i hi; simp [List.drop_eq_nil_of_le, ha, hb, ← hi]
  | succ m ih =>
    intro i hi
    have h1 : i < a.length := by omega
    have h2 : i < b.length := by omega
    rw [List.range'_succ, List.forIn_cons]
    simp only [Nat.mul_one, Sem.run_bind, run_partW w elem he a i h1, run_partW w elem he b i h2, Result.andThen_ok, run_equalIn_int w d elem .u32 .u32 _ _ he]
    have key : (a.drop i = b.drop i) = (a[i] = b[i] ∧ a.drop (i + 1) = b.drop (i + 1)) := by rw [List.drop_eq_getElem_cons h1, List.drop_eq_getElem_cons h2, List.cons.injEq]
    simp only [key]
    have e1 : ith a i = a[i] := by simp [ith, h1]
    have e2 : ith b i = b[i] := by simp [ith, h2]
    rw [e1, e2]
    by_cases h : a[i] = b[i]
    · have ih' := ih (i + 1) (by omega)
      simp only [Nat.mul_one] at ih'
      simp only [h, true_and, beq_self_eq_true, Bool.true_eq_false, if_false, Sem.run_pure, Result.andThen_ok]
      exact ih'
    · simp [h]
theorem run_equalArrW {P : Program} (w : World) (d t elem n : Nat) (ht : P.underlying t = some (.array n elem)) (he : P.underlying elem = some (.int .u32)) (hs : (P.info? elem).map (·.size) = some 1)
    (a b : List Int) (ha : a.length = n) (hb : b.length = n) :
    (Op.equalIn (d + 2) t (.agg (u32s a)) (.agg (u32s b))).run P w = .ok (decide (a = b)) w := by
  have hinfo : ∃ i, P.info? elem = some i ∧ i.size = 1 := by
    cases h : P.info? elem with
    | none => simp [h] at hs
    | some i => exact ⟨i, rfl, by simpa [h] using hs⟩
  obtain ⟨i, hi, h1⟩ := hinfo
  have hsz : (sizeOf elem).run P w = .ok 1 w := by simp [sizeOf, typeInfo, hi, h1]
  rw [Op.equalIn]
  simp only [Sem.run_bind, run_underlying ht, Result.andThen_ok, hsz]
  have h := eqLoopW w d elem he a b n ha hb n 0 (by omega)
  simp at h ⊢
  rw [h]
  by_cases hab : a = b <;> simp [hab]
theorem run_eqArrW {P : Program} (w : World) (t elem n : Nat) (ht : P.underlying t = some (.array n elem)) (he : P.underlying elem = some (.int .u32)) (hs : (P.info? elem).map (·.size) = some 1)
    (a b : List Int) (ha : a.length = n) (hb : b.length = n) :
    (binOp .eql t (.agg (u32s a)) (.agg (u32s b))).run P w = .ok (.bool (decide (a = b))) w := by
  rw [run_eql_struct, run_equalArrW w 9998 t elem n ht he hs a b ha hb]
  rfl
end YtnknkiiikeefgaaGreatDoor
end Go
namespace Go
namespace YtnknkiiikeefgaaGreatDoor
open RowKit
/-- A slice value that reads as these numbers of 32 bits. -/
def RdW (w : World) (v : Value) (l : List Int) : Prop :=
  (∃ a c, v = .slice a 0 c ∧ (a = none → c = 0) ∧ l = []) ∨ ∃ b o c, v = .slice (some ⟨b, o, none⟩) l.length c ∧ l.length ≤ c ∧ c ≤ maxLen ∧ b < w.heap.size ∧ ∀ i, i < l.length → w.cell? ⟨b, o + i, none⟩ = some (.int .u32 (ith l i))
theorem RdW.slice {w : World} {v : Value} {l : List Int} (h : RdW w v l) : ∃ a c, v = .slice a l.length c := by
  rcases h with ⟨a, c, rfl, _, rfl⟩ | ⟨b, o, c, hv, _⟩
  · exact ⟨a, c, rfl⟩
  · exact ⟨_, c, hv⟩
def u32v (l : List Int) : List Value := l.map (Value.int .u32)
theorem u32v_length (l : List Int) : (u32v l).length = l.length := by simp [u32v]
theorem u32v_append (l m : List Int) : u32v (l ++ m) = u32v l ++ u32v m := by simp [u32v]
theorem u32v_get (l : List Int) (j : Nat) (h : j < l.length) : (u32v l)[j]? = some (.int .u32 (ith l j)) := by simp [u32v, ith, h]
theorem u32s_eq (l : List Int) : u32s l = (u32v l).toArray := rfl
theorem u32v_one (l : List Int) : ∀ u ∈ u32v l, u.oneCell' = true := by
  intro u hu; simp [u32v] at hu; obtain ⟨x, _, rfl⟩ := hu; rfl
/-- The slice value 'v' is the call's own (blocks from 'base' on), and reads as the numbers 'l'. -/
def OwnW (base : Nat) (E : TypeId) (w : World) (v : Value) (l : List Int) : Prop := w.ownsRow base E 1 v l.length (u32v l)
theorem OwnW.nil (w : World) (base : Nat) (E : TypeId) : OwnW base E w (.slice none 0 0) [] := World.ownsRow_nil w base E 1
theorem OwnW.rd {base : Nat} {E : TypeId} {w : World} {v : Value} {l : List Int} (h : OwnW base E w v l) : RdW w v l := by
  rcases h.2 with ⟨rfl, h0⟩ | ⟨g, cap, cur, rfl, hb, hg, hn, hm, hs, ht⟩
  · exact .inl ⟨none, 0, rfl, fun _ => rfl, List.eq_nil_of_length_eq_zero h0⟩
  · refine .inr ⟨g, 0, cap, rfl, hn, hm, (Array.getElem?_eq_some_iff.1 hg).1, fun i hi => ?_⟩
    have hcell := World.ownsRow.cells (g := g) h rfl i _ (u32v_get l i hi)
    rw [addr_add] at hcell
    exact hcell
theorem OwnW.kept {base : Nat} {E : TypeId} {w w' : World} {v : Value} {l : List Int} (h : OwnW base E w v l) (hb : Below w.heap.size w w') : OwnW base E w' v l := by
  refine ⟨h.1, ?_⟩
  rcases h.2 with hn | ⟨g, cap, cur, rfl, hbg, hg, rest⟩
  · exact .inl hn
  · exact .inr ⟨g, cap, cur, rfl, hbg, (hb.block g (Array.getElem?_eq_some_iff.1 hg).1).trans hg, rest⟩
theorem RdW.src {w : World} {b o : Nat} {l : List Int} (h : ∀ i, i < l.length → w.cell? ⟨b, o + i, none⟩ = some (.int .u32 (ith l i))) :
    ∀ j u, (u32v l)[j]? = some u → w.cell? ((⟨b, o, none⟩ : Addr).add j) = some u := by
  intro j u hu
  have hj : j < l.length := by
    rcases Nat.lt_or_ge j l.length with h' | h'
    · exact h'
    · simp [u32v, List.getElem?_eq_none h'] at hu
  rw [u32v_get l j hj] at hu
  rw [addr_add, h j hj]; exact hu
theorem ownW_setRow {base B : Nat} {E : TypeId} {w : World} {v : Value} {l : List Int} (h : OwnW base E w v l) {g : Nat} (hB : B ≤ base) (hg : g < base) (cs : Array Value) : OwnW B E (w.setRow g cs) v l := by
  refine ⟨h.1, ?_⟩
  rcases h.2 with hn | ⟨k, cap, cur, rfl, hbg, hk, rest⟩
  · exact .inl hn
  · exact .inr ⟨k, cap, cur, rfl, Nat.le_trans hB hbg, (setRow_other w g k cs (by omega)).trans hk, rest⟩
theorem OwnW.below {base : Nat} {E : TypeId} {w w' : World} {v : Value} {l : List Int} (h : OwnW base E w v l) (hg : w.grownBy w' v.ownBlock) (hb : base ≤ w.heap.size) : Below base w w' :=
  Below.grown (Below.refl base w) hg hb (fun k hk => (World.ownsRow.lt h k hk).1)
theorem OwnW.mono {base B : Nat} {E : TypeId} {w : World} {v : Value} {l : List Int} (h : OwnW base E w v l) (hB : B ≤ base) : OwnW B E w v l := by
  refine ⟨h.1, ?_⟩
  rcases h.2 with hn | ⟨g, cap, cur, rfl, hbg, rest⟩
  · exact .inl hn
  · exact .inr ⟨g, cap, cur, rfl, Nat.le_trans hB hbg, rest⟩
section
variable {P : Program}
theorem run_appendW (w : World) (base : Nat) (t ty e : TypeId) (ht : P.underlying t = some (.slice e)) (hinfo : (P.info? e).map (fun i => (i.zero, i.size, i.bytes)) = some (some (.int .u32 0), 1, 4))
    (v : Value) (l : List Int) (hown : OwnW base e w v l) (sv : Value) (r : List Int) (hr : RdW w sv r) (hlen : (l.length + r.length) * 4 ≤ 140737488355328) (hbase : base ≤ w.heap.size) :
    ∃ v' w', (Builtin.append_ #[t, t] ty #[v, sv]).run P w = .ok v' w' ∧ OwnW base e w' v' (l ++ r) ∧ w.grownBy w' v.ownBlock := by
  obtain ⟨i, hi, hz, hs, hb⟩ := info_parts hinfo
  rcases hr with ⟨sa, sc, rfl, hsn, rfl⟩ | ⟨b, o, c, rfl, h1, h2, h3, h4⟩
  · cases sa with
    | some sa =>
      obtain ⟨v', w', hrun, ho, hg, _⟩ := run_append_own (P := P) w base t ty e i (.int .u32 0) 1 4 ht hi hz hs hb rfl (by omega) v l.length (u32v l) hown sa 0 sc (u32v [])
        (by rw [u32v_length]; rfl) (fun k x hx => by cases hx) (u32v_one []) (by unfold maxLen; simp at hlen ⊢; omega) (by simp at hlen ⊢; omega) hbase
      refine ⟨v', w', hrun, ?_, hg⟩
      unfold OwnW
      rw [List.append_nil]
      simpa [u32v] using ho
    | none =>
    obtain rfl := hsn rfl
    refine ⟨v, w, run_append_owned_none (P := P) (w := w) base t ty e i 1 ht hi v l.length (u32v l) hown, ?_, ⟨rfl, rfl, rfl, Nat.le_refl _, fun _ _ _ => rfl⟩⟩
    rw [List.append_nil]; exact hown
  · obtain ⟨v', w', hrun, ho, hg, _⟩ := run_append_own (P := P) w base t ty e i (.int .u32 0) 1 4 ht hi hz hs hb rfl (by omega) v l.length (u32v l) hown ⟨b, o, none⟩ r.length c (u32v r)
      (by rw [u32v_length]; omega) (RdW.src h4) (u32v_one r) (by unfold maxLen; omega) (by omega) hbase
    refine ⟨v', w', hrun, ?_, hg⟩
    unfold OwnW
    rw [List.length_append, u32v_append]; exact ho
theorem appendW {ops : Array Oper} {rest : List Oper} {o : Oper} {a : Act} {w : World} {Q : Exit → Act → World → Prop} (hgd : o.guard = none) (s x : Operand) (t : TypeId)
    (ho : o.op = .call { callee := .builtin .append, args := #[s, x], argTypes := #[t, t] })
    (base : Nat) (e : TypeId) (ht : P.underlying t = some (.slice e)) (hinfo : (P.info? e).map (fun i => (i.zero, i.size, i.bytes)) = some (some (.int .u32 0), 1, 4))
    (v : Value) (hs : a.eval s = v) (l : List Int) (hown : OwnW base e w v l) (sv : Value) (hx : a.eval x = sv) (r : List Int) (hr : RdW w sv r) (hlen : (l.length + r.length) * 4 ≤ 140737488355328) (hbase : base ≤ w.heap.size)
    (h : ∀ v' w', OwnW base e w' v' (l ++ r) → w.grownBy w' v.ownBlock → Stop (wpList P ops Q rest (a.put o.dst v') w')) : wpList P ops Q (o :: rest) a w := by
  refine wpList_plain hgd fun K hK => ?_
  obtain ⟨v', w', hrun, h2, h3⟩ := run_appendW (P := P) w base t o.type e ht hinfo v l hown sv r hr hlen hbase
  unfold Oper.wp execOp
  simp only [ho, resolve, invoke, builtin, Sem.run_bind, Sem.run_pure, Result.andThen_ok, List.map_toArray, List.map_cons, List.map_nil, hs, hx, hrun]
  exact hK _ _ (h v' w' h2 h3).out
theorem step_appendW {ops : Array Oper} {o : Oper} {a : Act} {w : World} {K : Act → World → Prop} {Q : Exit → Act → World → Prop} {E : Prop} (hgd : o.guard = none) (s x : Operand) (t : TypeId)
    (ho : o.op = .call { callee := .builtin .append, args := #[s, x], argTypes := #[t, t] })
    (base : Nat) (e : TypeId) (ht : P.underlying t = some (.slice e)) (hinfo : (P.info? e).map (fun i => (i.zero, i.size, i.bytes)) = some (some (.int .u32 0), 1, 4))
    (v : Value) (hs : a.eval s = v) (l : List Int) (hown : OwnW base e w v l) (sv : Value) (hx : a.eval x = sv) (r : List Int) (hr : RdW w sv r) (hlen : (l.length + r.length) * 4 ≤ 140737488355328) (hbase : base ≤ w.heap.size)
    (h : ∀ v' w', OwnW base e w' v' (l ++ r) → w.grownBy w' v.ownBlock → K (a.put o.dst v') w') :
    if Region.wanted o (yielded ops a.tmps) = true then Oper.wp P o a w K Q else E := by
  have hw : Region.wanted o (yielded ops a.tmps) = true := by simp [Region.wanted, hgd]
  rw [if_pos hw]
  obtain ⟨v', w', hrun, h2, h3⟩ := run_appendW (P := P) w base t o.type e ht hinfo v l hown sv r hr hlen hbase
  unfold Oper.wp execOp
  simp only [ho, resolve, invoke, builtin, Sem.run_bind, Sem.run_pure, Result.andThen_ok, List.map_toArray, List.map_cons, List.map_nil, hs, hx, hrun]
  exact h v' w' h2 h3

end
end YtnknkiiikeefgaaGreatDoor
end Go

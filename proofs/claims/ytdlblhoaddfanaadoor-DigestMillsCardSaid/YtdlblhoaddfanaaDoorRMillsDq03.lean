/- Texts that the row stands on, part 3. -/
import Derived.Test.YtdlblhoaddfanaaDoorRMillsDq02
import Derived.Lib.SlBytesConst
namespace Go.Proofs.YtdlblhoaddfanaaDoor
open Go.RowKit Go.YtdlblhoaddfanaaDoor
set_option linter.unusedVariables false
variable {Tg Tf : TypeId}
end Go.Proofs.YtdlblhoaddfanaaDoor
namespace Go.Proofs.YtdlblhoaddfanaaDoor
open Go.RowKit Go.YtdlblhoaddfanaaDoor
set_option linter.unusedVariables false
variable {Tg Tf : TypeId}
end Go.Proofs.YtdlblhoaddfanaaDoor
namespace Go.Proofs.YtdlblhoaddfanaaDoor
open Go.RowKit Go.YtdlblhoaddfanaaDoor
set_option linter.unusedVariables false
variable {Tg Tf : TypeId}
theorem storeNew {P : Program} {ops : Array Oper} {rest : List Oper} {o : Oper} {a : Act} {Q : Exit → Act → World → Prop} {old : Array Value} (w1 : World) (hgd : o.guard = none) (ty : TypeId) (x y : Operand) (ho : o.op = .store ty x y)
    (cells : Array Value) (t : TypeId) (hx : a.eval x = .pointer (some ⟨w1.heap.size, 0, none⟩)) (hy : a.eval y = .agg cells)
    (hi : (P.info? ty).map (·.size) = some cells.size) (hold : old.size = cells.size) (h1 : cells.all (·.oneCell') = true)
    (h : ∀ wx, wx.heap[w1.heap.size]? = some (.cells cells t (0, 0)) → Below w1.heap.size w1 wx → wpList P ops Q rest (a.put o.dst undef) wx) :
    wpList P ops Q (o :: rest) a (w1.alloc (.cells old t)) := by
  have hg := heap_alloc_new w1 (.cells old t)
  refine wpList_store_row hgd ty x y ho w1.heap.size cells hx hy t old hg hi hold h1 (h _ (setRow_heap _ _ _ _ _ _ hg) ?_)
  exact below_setRow' ((Below.refl _ _).alloc (Nat.le_refl _) _) (Nat.le_refl _) _
end Go.Proofs.YtdlblhoaddfanaaDoor
namespace Go.Proofs.YtdlblhoaddfanaaDoor
open Go.RowKit Go.YtdlblhoaddfanaaDoor
set_option linter.unusedVariables false
variable {Tg Tf : TypeId}
def StopP (p : Prop) : Prop := p
theorem Stop.go'' (p : Prop) (h : StopP p) : p := h
theorem StopP.go {p : Prop} (h : p) : StopP p := h
end Go.Proofs.YtdlblhoaddfanaaDoor
namespace Go.Proofs.YtdlblhoaddfanaaDoor
open Go.RowKit Go.YtdlblhoaddfanaaDoor
set_option linter.unusedVariables false
theorem rdW_new (w : World) (g : Nat) (x : Int) (T : TypeId) (h : w.heap[g]? = some (.cells #[.int .u32 x] T (0, 0))) : RdW w (.slice (some ⟨g, 0, none⟩) 1 1) [x] := .inr ⟨g, 0, 1, rfl, Nat.le_refl _, by decide, (Array.getElem?_eq_some_iff.1 h).1, fun i hi => by
  have hi0 : i = 0 := by simpa using hi
  subst hi0
  rw [Nat.zero_add, cell_of_row _ _ _ _ _ _ h]; rfl⟩
theorem below_lit (w : World) (o : Obj) : Below w.heap.size w (w.alloc o).drew := ((Draws.refl _).drewN 1).below ((Below.refl _ _).alloc (Nat.le_refl _) o)
theorem rturn_int (x n : Int) (w : World) (hx : In32 x) (h : 1 ≤ n) (h2 : n ≤ 31) :
    Calls Tryd.prog 38 #[.int .u32 x, .int .i64 n] w fun e w' => e = .returned (.int .u32 (rotr x n)) ∧ ∃ m, w' = w.drewN m := by
  obtain ⟨n, rfl⟩ := Int.eq_ofNat_of_zero_le (show 0 ≤ n by omega)
  exact rturn_any x n w hx.1 hx.2 (by omega) (by omega)
def nextV (a0 a9 a1 a14 : Int) : Int := (((a0 + a9) % 4294967296 + sig0 a1) % 4294967296 + sig1 a14) % 4294967296
theorem nextW_at (x : List Int) (k : Nat) (h : x.length = k + 16) : nextW x = nextV (ith x k) (ith x (k + 9)) (ith x (k + 1)) (ith x (k + 14)) := by
  have e : nextV (ith x k) (ith x (k + 9)) (ith x (k + 1)) (ith x (k + 14)) = (ith x k + ith x (k + 9) + sig0 (ith x (k + 1)) + sig1 (ith x (k + 14))) % 4294967296 := by unfold nextV; omega
  rw [e]; unfold nextW
  rw [h, show k + 16 - 16 = k by omega, show k + 16 - 7 = k + 9 by omega, show k + 16 - 15 = k + 1 by omega, show k + 16 - 2 = k + 14 by omega]
set_option maxRecDepth 100000 in
set_option maxHeartbeats 0 in
theorem rground_any (v : V8) (b o n c : Nat) (l : List Int) (w : World) (hv : v.ok) (hn : 64 ≤ n) (hnc : n ≤ c) (hcm : c ≤ maxLen) (hl : Bytes l)
    (hcell : ∀ i, i < 64 → w.cell? ⟨b, o + i, none⟩ = some (.int .u8 (ith l i))) :
    Calls Tryd.prog 32 #[.agg v.cells, .slice (some ⟨b, o, none⟩) n c] w fun e w' => e = .returned (.agg (groundF v l).cells) ∧ Below w.heap.size w w' := by
  have hbl : b < w.heap.size := World.block_lt_of_cell? _ _ (hcell 0 (by omega))
  unfold maxLen at hcm
  have hcell' := Lib.hid hcell; clear hcell
  have hl' := Lib.hid hl; clear hl
  unfold V8.cells
  go_enter Tryd.func32, Tryd.ntmps32
  go_wp2
  have k1 := Lib.hid ((hp1 (w.alloc (.cells (u32s v.list) 23)) (.cells (u32s [0, 0, 0, 0, 0, 0, 0, 0]) 23) w.heap.size (by simp)).trans (heap_alloc_new w _))
  have k2 := Lib.hid (hn2 w (.cells (u32s v.list) 23) (.cells (u32s [0, 0, 0, 0, 0, 0, 0, 0]) 23))
  have kB := Lib.hid (show Below w.heap.size w ((w.alloc (.cells (u32s v.list) 23)).alloc (.cells (u32s [0, 0, 0, 0, 0, 0, 0, 0]) 23)) from ((Below.refl _ _).alloc (Nat.le_refl _) _).alloc (by simp) _)
  have kz : ((w.alloc (.cells (u32s v.list) 23)).alloc (.cells (u32s [0, 0, 0, 0, 0, 0, 0, 0]) 23)).heap.size = w.heap.size + 2 := by simp
  change Code.wp _ _ _ _ ((w.alloc (.cells (u32s v.list) 23)).alloc (.cells (u32s [0, 0, 0, 0, 0, 0, 0, 0]) 23))
  generalize (w.alloc (.cells (u32s v.list) 23)).alloc (.cells (u32s [0, 0, 0, 0, 0, 0, 0, 0]) 23) = W at *
  go_loopw [5, 6] (fun s i wr => ∃ k : Nat, k ≤ 16 ∧ i = .int .i64 (k : Int) ∧ OwnW W.heap.size 22 wr s (wordsOf l k) ∧ Below W.heap.size W wr) (fun _ i _ => 16 - (intOf i).toNat)
  case atStart => exact ⟨0, by omega, rfl, OwnW.nil _ _ _, Below.refl _ _⟩
  case round =>
    obtain ⟨k, hk, rfl, ho, hb⟩ := hrel
    obtain ⟨sa, sc, rfl⟩ := ho.rd.slice
    have hlen := wordsOf_length l k
    by_cases hlt : k < 16
    · have hq : ∀ j, j < 4 → wr.cell? ⟨b, o + (4 * k + j), none⟩ = some (.int .u8 (ith l (4 * k + j))) := fun j hj => by
        rw [hb.cell (p := ⟨b, o + (4 * k + j), none⟩) (by rw [kz]; exact Nat.lt_of_lt_of_le hbl (by omega)), kB.out.cell (p := ⟨b, o + (4 * k + j), none⟩) hbl]; exact hcell'.out _ (by omega)
      have q0 := hq 0 (by omega); have q1 := hq 1 (by omega); have q2 := hq 2 (by omega); have q3 := hq 3 (by omega)
      rw [Nat.add_zero] at q0
      obtain ⟨a0, a1⟩ := hl'.out (4 * k); obtain ⟨b0, b1⟩ := hl'.out (4 * k + 1); obtain ⟨c0, c1⟩ := hl'.out (4 * k + 2); obtain ⟨d0, d1⟩ := hl'.out (4 * k + 3)
      have hws : wordsOf l (k + 1) = wordsOf l k ++ [word4 (ith l (4 * k)) (ith l (4 * k + 1)) (ith l (4 * k + 2)) (ith l (4 * k + 3))] := rfl
      have ho' := Lib.hid ho; have hb' := Lib.hid hb; have hzw := hb.size; have hws' := Lib.hid hws
      clear ho hb hq hws
      have m3 : 4 * k + 3 < 64 := by omega
      have x0 : IntKind.i64.wrap (4 * (k : Int)) = ((4 * k : Nat) : Int) := by rw [IntWalk.i64_in _ (by omega)]; omega
      generalize 4 * k = m at *
      have x1 : IntKind.i64.wrap ((m : Int) + 1) = (m : Int) + 1 := IntWalk.i64_in _ (by omega)
      have x2 : IntKind.i64.wrap ((m : Int) + 2) = (m : Int) + 2 := IntWalk.i64_in _ (by omega)
      have x3 : IntKind.i64.wrap ((m : Int) + 3) = (m : Int) + 3 := IntWalk.i64_in _ (by omega)
      have y0 : (m : Int) < n := by omega
      have y1 : (m : Int) + 1 < n := by omega
      have y2 : (m : Int) + 2 < n := by omega
      have y3 : (m : Int) + 3 < n := by omega
      have z1 : 0 ≤ (m : Int) + 1 := by omega
      have z2 : 0 ≤ (m : Int) + 2 := by omega
      have z3 : 0 ≤ (m : Int) + 3 := by omega
      have t1 : ((m : Int) + 1).toNat = m + 1 := by omega
      have t2 : ((m : Int) + 2).toNat = m + 2 := by omega
      have t3 : ((m : Int) + 3).toNat = m + 3 := by omega
      have e0 : IntKind.u32.wrap (ith l m) = ith l m := IntWalk.u32_in _ (by omega)
      have e1 : IntKind.u32.wrap (ith l (m + 1)) = ith l (m + 1) := IntWalk.u32_in _ (by omega)
      have e2 : IntKind.u32.wrap (ith l (m + 2)) = ith l (m + 2) := IntWalk.u32_in _ (by omega)
      have e3 : IntKind.u32.wrap (ith l (m + 3)) = ith l (m + 3) := IntWalk.u32_in _ (by omega)
      have e4 : IntKind.u32.wrap (ith l m * 256) = ith l m * 256 := IntWalk.u32_in _ (by omega)
      have e5 : IntKind.u32.wrap (ith l m * 256 + ith l (m + 1)) = ith l m * 256 + ith l (m + 1) := IntWalk.u32_in _ (by omega)
      have e6 : IntKind.u32.wrap ((ith l m * 256 + ith l (m + 1)) * 256) = (ith l m * 256 + ith l (m + 1)) * 256 := IntWalk.u32_in _ (by omega)
      have e7 : IntKind.u32.wrap ((ith l m * 256 + ith l (m + 1)) * 256 + ith l (m + 2)) = (ith l m * 256 + ith l (m + 1)) * 256 + ith l (m + 2) := IntWalk.u32_in _ (by omega)
      have e8 : IntKind.u32.wrap (((ith l m * 256 + ith l (m + 1)) * 256 + ith l (m + 2)) * 256) = ((ith l m * 256 + ith l (m + 1)) * 256 + ith l (m + 2)) * 256 := IntWalk.u32_in _ (by omega)
      have e9 : IntKind.u32.wrap (((ith l m * 256 + ith l (m + 1)) * 256 + ith l (m + 2)) * 256 + ith l (m + 3)) = word4 (ith l m) (ith l (m + 1)) (ith l (m + 2)) (ith l (m + 3)) := by
        rw [IntWalk.u32_in _ (by omega)]; unfold word4; omega
      have hlen' := Lib.hid hlen
      rw [hlen] at ho' ⊢
      generalize word4 (ith l m) (ith l (m + 1)) (ith l (m + 2)) (ith l (m + 3)) = X at *
      clear a0 a1 b0 b1 c0 c1 d0 d1 hlen
      have fin : Hid (∀ v' w', OwnW W.heap.size 22 w' v' (wordsOf l k ++ [X]) → ((wr.alloc (.cells #[.int .u32 X] 22)).drew).grownBy w' (Value.slice sa k sc).ownBlock → ∃ va vc, v' = .slice va (k + 1) vc ∧ OwnW W.heap.size 22 w' v' (wordsOf l (k + 1)) ∧ Below W.heap.size W w') := Lib.hid (by
        intro v' w' h1 h2
        rw [← hws'.out] at h1
        obtain ⟨va, vc, hv'⟩ := h1.rd.slice
        rw [wordsOf_length] at hv'
        exact ⟨va, vc, hv', h1, hb'.out.trans (((below_lit wr _).mono hzw).trans ((ho'.out.kept (below_lit wr _)).below h2 (by simp; omega)))⟩)
      go_wp2
      have kk : Hid (∀ w', Below W.heap.size W w' → w'.cell? ⟨b, o + m, none⟩ = some (.int .u8 (ith l m)) ∧ w'.cell? ⟨b, o + (m + 1), none⟩ = some (.int .u8 (ith l (m + 1))) ∧ w'.cell? ⟨b, o + (m + 2), none⟩ = some (.int .u8 (ith l (m + 2))) ∧ w'.cell? ⟨b, o + (m + 3), none⟩ = some (.int .u8 (ith l (m + 3)))) := Lib.hid (fun w' h => by
        refine ⟨?_, ?_, ?_, ?_⟩ <;> (rw [h.cell (p := ⟨b, _, none⟩) (show b < _ by rw [kz]; omega), ← hb'.out.cell (p := ⟨b, _, none⟩) (show b < _ by rw [kz]; omega)]; assumption))
      go_region_held3 (fun w' => w'.cell? ⟨b, o + m, none⟩ = some (.int .u8 (ith l m)) ∧ w'.cell? ⟨b, o + (m + 1), none⟩ = some (.int .u8 (ith l (m + 1))) ∧ w'.cell? ⟨b, o + (m + 2), none⟩ = some (.int .u8 (ith l (m + 2))) ∧ w'.cell? ⟨b, o + (m + 3), none⟩ = some (.int .u8 (ith l (m + 3))))
        (first | (exact kk.out _ h4'.out) | go_keep)
        ((refine step_appendW (by rfl) _ _ 68 (by rfl) W.heap.size 22 Tryd.underlying68 (by kernel_rfl) (.slice sa k sc) (by rfl) (wordsOf l k) (ho'.out.kept (below_lit wr (.cells #[.int .u32 X] 22))) (.slice (some ⟨wr.heap.size, 0, none⟩) 1 1) (by rfl) [X] (rdW_new _ _ _ _ (heap_alloc_new wr _)) (by rw [hlen'.out]; simp; omega) (by simp; omega) ?_; intro v' w' h1 h2; obtain ⟨va, vc, rfl, h3, h4⟩ := fin.out v' w' h1 h2; have h3' := Lib.hid h3; have h4' := Lib.hid h4; clear h1 h2 h3 h4))
      go_wp2
      go_roundw
      case rel => exact ⟨k + 1, by omega, by go_num, h3'.out, h4'.out⟩
      case measure => simp [intOf]; omega
    · obtain rfl : k = 16 := by omega
      generalize hL : wordsOf l 16 = L0 at *
      have hL32 := Lib.hid (show All32 L0 by rw [← hL]; exact wordsOf_in l hl'.out 16)
      have hLl := Lib.hid hlen
      rw [hlen]
      have hL' := Lib.hid hL
      clear hL hlen
      rw [show (((16 : Nat) : Int)) = 16 from rfl]
      rw [hLl.out] at ho
      go_wp2
      go_loopw [5, 7, 8, 9] (fun s i _ _ wr => ∃ k : Nat, k ≤ 48 ∧ i = .int .i64 (k + 16 : Nat) ∧ OwnW W.heap.size 22 wr s (extW L0 k) ∧ Below W.heap.size W wr) (fun _ i _ _ _ => 64 - (intOf i).toNat)
      case atStart => exact ⟨0, by omega, rfl, ho, hb⟩
      case round =>
        clear ho hb
        obtain ⟨k, hk, rfl, ho, hb⟩ := hrel
        have hxl : (extW L0 k).length = k + 16 := by rw [extW_length, hLl.out]; omega
        have hx32 : All32 (extW L0 k) := extW_in L0 hL32.out k
        have hxs : extW L0 (k + 1) = extW L0 k ++ [nextW (extW L0 k)] := rfl
        rw [nextW_at _ _ hxl] at hxs
        rcases ho.rd with ⟨qa, qc, rfl, _, h0⟩ | ⟨b', o', c', rfl, hc1, hc2, hb', hcl⟩
        · rw [h0] at hxl; simp at hxl
        by_cases hlt : k < 48
        · have c0 := hcl k (by omega); have c1 := hcl (k + 1) (by omega); have c9 := hcl (k + 9) (by omega); have c14 := hcl (k + 14) (by omega)
          have A1 := Lib.hid (hx32 (k + 1)); have A14 := Lib.hid (hx32 (k + 14))
          have hxs' := Lib.hid hxs; have ho' := Lib.hid ho; have hb1 := Lib.hid hb; have hxl' := Lib.hid hxl
          have hzw := hb.size
          rw [hxl] at ho' ⊢
          clear hxs ho hb hxl hcl hx32
          generalize ith (extW L0 k) k = a0 at *
          generalize ith (extW L0 k) (k + 1) = a1 at *
          generalize ith (extW L0 k) (k + 9) = a9 at *
          generalize ith (extW L0 k) (k + 14) = a14 at *
          generalize hy : extW L0 (k + 1) = y at *
          have hy' := Lib.hid hy; clear hy
          generalize extW L0 k = x at *
          unfold maxLen at hc2
          go_wp2
          go_quiet (fail)
          go_wp2
          generalize ht : k + 16 = t at *
          generalize h9 : k + 9 = k9 at *
          have e1 : IntKind.i64.wrap ((t : Int) - 16) = (k : Int) := by rw [IntWalk.i64_in _ (by omega)]; omega
          have e2 : IntKind.i64.wrap ((t : Int) - 7) = (k9 : Int) := by rw [IntWalk.i64_in _ (by omega)]; omega
          have b1 : (k : Int) < (t : Int) := by omega
          have b2 : (k9 : Int) < (t : Int) := by omega
          have b5 : t < 64 := by omega
          have b3 : (0 : Int) ≤ (k : Int) := by omega
          have b4 : (0 : Int) ≤ (k9 : Int) := by omega
          have ht' := Lib.hid ht; have h9' := Lib.hid h9
          clear ht h9
          have r1 : Hid (∀ (n : Int) (w : World), 1 ≤ n → n ≤ 31 → Calls Tryd.prog 38 #[.int .u32 a1, .int .i64 n] w fun e w' => e = .returned (.int .u32 (rotr a1 n)) ∧ ∃ m, w' = w.drewN m) := Lib.hid (fun n w h h2 => rturn_int a1 n w A1.out h h2)
          have r14 : Hid (∀ (n : Int) (w : World), 1 ≤ n → n ≤ 31 → Calls Tryd.prog 38 #[.int .u32 a14, .int .i64 n] w fun e w' => e = .returned (.int .u32 (rotr a14 n)) ∧ ∃ m, w' = w.drewN m) := Lib.hid (fun n w h h2 => rturn_int a14 n w A14.out h h2)
          have fin : Hid (∀ v' w0 w', Below wr.heap.size wr w0 → OwnW W.heap.size 22 w' v' (x ++ [nextV a0 a9 a1 a14]) → w0.grownBy w' (Value.slice (some ⟨b', o', none⟩) t c').ownBlock → ∃ va vc, v' = .slice va (t + 1) vc ∧ OwnW W.heap.size 22 w' v' y ∧ Below W.heap.size W w') := Lib.hid (by
            intro v' w0 w' h0 h1 h2
            obtain ⟨va, vc, hv'⟩ := h1.rd.slice
            rw [List.length_append, hxl'.out] at hv'
            exact ⟨va, vc, hv', by rw [hxs'.out]; exact h1, hb1.out.trans ((h0.mono hzw).trans ((ho'.out.kept h0).below h2 (Nat.le_trans hzw h0.size)))⟩)
          refine wp_region_headN (C := fun w' => ∃ n, w' = wr.drewN n) 30 [0] (by kernel_rfl) (by kernel_rfl) ⟨_, drewN_next _ _⟩ ?_
          simp only [List.take_succ_cons, List.take_zero, List.drop_succ_cons, List.drop_zero]
          refine head_pure (.slice (some ⟨b', o', none⟩) t c') (by rfl) (run_move _ rfl (by rfl)) rfl (fun K hK => ?_); go_simp; refine hK _ ?_; clear hK K
          repeat (refine head_walk (by rfl) (fun K hK => ?_); go_simp; first | (refine hK _ ?_; clear hK K) | (apply Exists.intro; refine ⟨fun _ => ?_, hK _ ?_⟩; (go_at_call 38; first | ((with_reducible refine Calls.quiet_of (r1.out _ _ ?_ ?_)) <;> decide) | ((with_reducible refine Calls.quiet_of (r14.out _ _ ?_ ?_)) <;> decide)); clear hK K))
          refine head_nil ?_
          intro w' hw'
          obtain ⟨nz, rfl⟩ := hw'
          have hbz := Lib.hid (show Below wr.heap.size wr ((wr.drewN nz).alloc (.cells #[.int .u32 (nextV a0 a9 a1 a14)] 22)) from (((Draws.refl _).drewN nz).below (Below.refl _ _)).alloc (by simp) _)
          have hrdz := Lib.hid (show RdW ((wr.drewN nz).alloc (.cells #[.int .u32 (nextV a0 a9 a1 a14)] 22)) (.slice (some ⟨wr.heap.size, 0, none⟩) 1 1) [nextV a0 a9 a1 a14] from rdW_new _ _ _ _ (heap_alloc_new (wr.drewN nz) _))
          go_wp2_with (go_loud (refine appendW rfl _ _ 68 rfl W.heap.size 22 Tryd.underlying68 (by kernel_rfl) (.slice (some ⟨b', o', none⟩) t c') (by rfl) x (ho'.out.kept hbz.out) (.slice (some ⟨wr.heap.size, 0, none⟩) 1 1) (by rfl) [nextV a0 a9 a1 a14] hrdz.out (by rw [hxl'.out]; simp; omega) (Nat.le_trans hzw hbz.out.size) ?_))
          intro v' w' h1 h2
          rw [← kz] at h1
          have h2 := show ((wr.drewN nz).alloc (.cells #[.int .u32 ((a0 + a9 + sig0 a1 + sig1 a14) % 4294967296)] 22)).grownBy w' (Value.slice (some ⟨b', o', none⟩) t c').ownBlock from h2
          rw [show (a0 + a9 + sig0 a1 + sig1 a14) % 4294967296 = nextV a0 a9 a1 a14 by unfold nextV; omega] at h2
          obtain ⟨va, vc, rfl, h3, h4⟩ := fin.out v' _ w' hbz.out h1 h2
          have h3' := Lib.hid h3; have h4' := Lib.hid h4
          clear h1 h2 h3 h4
          refine Stop.go ?_
          go_wp2
          refine NoPanic.normal ?_
          go_wp2
          go_roundw
          case rel => exact ⟨k + 1, by omega, by rw [show k + 1 + 16 = t + 1 by have := ht'.out; omega]; go_num, by rw [hy'.out]; exact h3'.out, h4'.out⟩
          case measure => have := ht'.out; simp [intOf]; omega
        · have hk48 : k = 48 := by omega
          subst hk48
          have hws : extW L0 48 = spreadF l := by rw [← hL'.out]; rfl
          rw [hws] at hcl hxl hxs ho ⊢
          have hsl := spreadF_length l
          have hs32 := Lib.hid (spreadF_in l hl'.out)
          rw [hws, hsl] at hc1
          rw [hsl] at hcl ⊢
          have hG : groundF v l = v.add (rounds constW (spreadF l) v 64) := rfl
          have hG' := Lib.hid hG
          generalize spreadF l = ws at *
          have hcl' := Lib.hid hcl; have hsl' := Lib.hid hsl; have hb1 := Lib.hid hb; have hL1 := Lib.hid hL'
          have hzw := hb.size
          clear hcl hsl hG ho hb hxl hxs hx32 hws hL'
          rw [show (((48 + 16 : Nat) : Int)) = 64 from rfl]
          have q1 := Lib.hid ((hb1.out.block w.heap.size (by omega)).trans k1.out)
          have q2 := Lib.hid ((hb1.out.block (w.heap.size + 1) (by omega)).trans k2.out)
          have hBw := Lib.hid (kB.out.trans (hb1.out.mono (by omega)))
          have hzr : w.heap.size + 1 < wr.heap.size := by omega
          clear hb1 kB k1 k2 kz
          go_wp2_with (go_at_call 39; refine (rconst_any _).mono ?_; rintro e w1 ⟨rfl, rfl⟩; refine Stop.go'' _ ?_)
          refine StopP.go ?_
          have hc64 : constW.length = 64 := by rfl
          have r1 := Lib.hid ((hp1 wr (.cells (u32s constW) 22) w.heap.size (by omega)).trans q1.out)
          have r2 := Lib.hid ((hp1 wr (.cells (u32s constW) 22) (w.heap.size + 1) (by omega)).trans q2.out)
          have r3 := Lib.hid (heap_alloc_new wr (.cells (u32s constW) 22))
          have hBx := Lib.hid (hBw.out.alloc (by omega) (.cells (u32s constW) 22))
          have hclx := Lib.hid (fun i hi => ((Below.refl wr.heap.size wr).alloc (Nat.le_refl _) (.cells (u32s constW) 22)).cell (p := ⟨b', o' + i, none⟩) hb' |>.trans (hcl'.out i hi))
          have hzx : (wr.alloc (.cells (u32s constW) 22)).heap.size = wr.heap.size + 1 := by simp
          generalize wr.alloc (.cells (u32s constW) 22) = wx at *
          generalize hgC : wr.heap.size = gC at *
          have hgC' := Lib.hid hgC
          have hzx' := Lib.hid hzx
          have hzx2 : gC < wx.heap.size := by omega
          clear q1 q2 hBw hcl' hgC hzx
          go_wp2_with (first | (refine wpList_load_row rfl 23 _ rfl w.heap.size rfl 23 _ _ _ r1.out Tryd.underlying23 rfl (by kernel_rfl) ?_) | (refine storeNew wx rfl 23 _ _ rfl (u32s v.list) 23 rfl rfl (by kernel_rfl) (by simp [u32s, V8.list]) (u32s_one _) ?_; intro wy hr hby; have r4 := Lib.hid hr; have hby' := Lib.hid hby; clear hr hby; refine Stop.go'' _ ?_))
          refine StopP.go ?_
          have q1 := Lib.hid ((hby'.out.block w.heap.size (by omega)).trans r1.out)
          have q2 := Lib.hid ((hby'.out.block (w.heap.size + 1) (by omega)).trans r2.out)
          have q3 := Lib.hid ((hby'.out.block gC (by omega)).trans r3.out)
          have hcly := Lib.hid (fun i hi => (hby'.out.cell (p := ⟨b', o' + i, none⟩) (show b' < wx.heap.size by omega)).trans (hclx.out i hi))
          have hBy := Lib.hid (hBx.out.trans (hby'.out.mono (by omega)))
          have hzy : wx.heap.size < wy.heap.size := (Array.getElem?_eq_some_iff.1 r4.out).1
          clear r1 r2 r3 hclx hBx hby'
          generalize hgV : wx.heap.size = gV at *
          clear hzx' hgV hgC' wx
          have hRok := fun k => rounds_ok constW ws v k hv
          have hRs : ∀ k, rounds constW ws v (k + 1) = shaStep (rounds constW ws v k) (ith constW k) (ith ws k) := fun k => rfl
          have hck : ∀ k, k < 64 → wy.cell? ⟨gC, k, none⟩ = some (.int .u32 (ith constW k)) := fun k hk => by rw [cell_of_row _ _ _ _ _ _ q3.out]; exact u32s_get _ _ (by rw [hc64]; exact hk)
          have hR0 : rounds constW ws v 0 = v := rfl
          have hR0' := Lib.hid hR0; have hRok' := Lib.hid hRok; have hRs' := Lib.hid hRs; have hck' := Lib.hid hck
          clear hR0 hRok hRs hck q3 hc64
          generalize constW = cs at *
          generalize hR : (fun k => rounds cs ws v k) = R
          have hRR : ∀ k, rounds cs ws v k = R k := fun k => by rw [← hR]
          have hRR' := Lib.hid hRR
          clear hR hRR
          go_wp2
          go_loopw [12] (fun i wz => ∃ k : Nat, k ≤ 64 ∧ i = .int .i64 (k : Int) ∧ Below gV wy wz ∧ wz.heap[gV]? = some (.cells (u32s (R k).list) 23 (0, 0))) (fun i _ => 64 - (intOf i).toNat)
          case atStart => exact ⟨0, by omega, rfl, Below.refl _ _, by rw [← hRR'.out, hR0'.out]; exact r4.out⟩
          case round =>
            clear r4
            obtain ⟨k, hk, rfl, hbz, hrow⟩ := hrel
            by_cases hlt : k < 64
            · have hok := hRok'.out k
              rw [hRR'.out] at hok
              have A0 := Lib.hid hok.1; have E0 := Lib.hid hok.2.2.2.2.1
              obtain ⟨⟨_, _⟩, ⟨_, _⟩, ⟨_, _⟩, ⟨_, _⟩, ⟨_, _⟩, ⟨_, _⟩, ⟨_, _⟩, ⟨_, _⟩⟩ := hok
              obtain ⟨c0, c1, c2, c3, c4, c5, c6, c7⟩ := cells8 hrow
              have ck := (hbz.cell (p := ⟨gC, k, none⟩) (show gC < gV by omega)).trans (hck'.out k hlt)
              have cw := (hbz.cell (p := ⟨b', o' + k, none⟩) (show b' < gV by omega)).trans (hcly.out k (by omega))
              have i1 : (0 : Int) ≤ (k : Int) := by omega
              have i2 : (k : Int) < 64 := by omega
              have hS := hRs'.out k
              rw [hRR'.out, hRR'.out] at hS
              have hS' := Lib.hid hS; have hbz' := Lib.hid hbz; have hrow' := Lib.hid hrow
              clear hS hbz hrow
              go_wp2
              go_quiet (fail)
              go_wp2
              go_quiet (((go_at_call 38; (with_reducible refine quiet_of2 (rturn_int _ _ _ E0.out ?_ ?_)) <;> decide)))
              have hmx : (if IntKind.u32.signed = true then (-1 : Int) else IntKind.u32.max) = IntKind.u32.max := if_neg (by decide)
              generalize hP : ((((R k).h + bits BinOp.xor IntKind.u32 (bits BinOp.xor IntKind.u32 (rotr (R k).e 6) (rotr (R k).e 11)) (rotr (R k).e 25) + bits BinOp.xor IntKind.u32 (bits BinOp.and IntKind.u32 (R k).e (R k).f) (bits BinOp.and IntKind.u32 (bits BinOp.xor IntKind.u32 (if IntKind.u32.signed = true then (-1 : Int) else IntKind.u32.max) (R k).e) (R k).g) + ith cs k) % 4294967296 + ith ws k) % 4294967296) = pp
              have hPP := Lib.hid (show pp = pOf (R k) (ith cs k) (ith ws k) by rw [← hP, hmx]; unfold pOf; omega)
              clear hP hmx
              generalize hWq : (wr.drewN _).drewN _ = wq
              have d3 : wq.cell? ⟨gV, 3, none⟩ = some (.int .u32 (R k).d) := by rw [← hWq]; exact c3
              have hroq := Lib.hid (show wq.heap[gV]? = some (.cells (u32s (R k).list) 23 (0, 0)) by rw [← hWq]; exact hrow'.out)
              have hbq := Lib.hid (show Below gV wy wq by rw [← hWq]; exact (((Draws.refl wr).drewN _).drewN _).below hbz'.out)
              clear hWq c0 c1 c2 c3 c4 c5 c6 c7 ck cw hrow' hbz'
              go_upto_region 19 with (go_at_call 38; (with_reducible refine (rturn_int _ _ _ A0.out (by decide) (by decide)).mono ?_); rintro e w' ⟨rfl, ⟨nn, rfl⟩⟩)
              generalize hQ : ((bits BinOp.xor IntKind.u32 (bits BinOp.xor IntKind.u32 (rotr (R k).a 2) (rotr (R k).a 13)) (rotr (R k).a 22) + bits BinOp.xor IntKind.u32 (bits BinOp.xor IntKind.u32 (bits BinOp.and IntKind.u32 (R k).a (R k).b) (bits BinOp.and IntKind.u32 (R k).a (R k).c)) (bits BinOp.and IntKind.u32 (R k).b (R k).c)) % 4294967296) = qq
              have hQQ : qq = qOf (R k) := by rw [← hQ]; rfl
              have hX := Lib.hid (show R (k + 1) = V8.mk ((pp + qq) % 4294967296) (R k).a (R k).b (R k).c (((R k).d + pp) % 4294967296) (R k).e (R k).f (R k).g by rw [hS'.out, hPP.out, hQQ]; rfl)
              clear hQ hQQ hPP hS' A0 E0
              generalize hWr : wq.drewN _ = wr2
              have d3 : wr2.cell? ⟨gV, 3, none⟩ = some (.int .u32 (R k).d) := by rw [← hWr]; exact d3
              have hror := Lib.hid (show wr2.heap[gV]? = some (.cells (u32s (R k).list) 23 (0, 0)) by rw [← hWr]; exact hroq.out)
              have hbr := Lib.hid (show Below gV wy wr2 by rw [← hWr]; exact ((Draws.refl wq).drewN _).below hbq.out)
              clear hWr hroq hbq
              go_wp2_with (refine wpList_store_row rfl 23 _ _ rfl gV (V8.mk ((pp + qq) % 4294967296) (R k).a (R k).b (R k).c (((R k).d + pp) % 4294967296) (R k).e (R k).f (R k).g).cells rfl rfl 23 _ hror.out (by kernel_rfl) (by simp [u32s, V8.list, V8.cells]) (by simp [V8.cells, Value.oneCell']) ?_)
              go_roundw
              case rel =>
                have h := setRow_heap _ _ _ (V8.mk ((pp + qq) % 4294967296) (R k).a (R k).b (R k).c (((R k).d + pp) % 4294967296) (R k).e (R k).f (R k).g).cells _ _ hror.out
                exact ⟨k + 1, by omega, by go_num, below_setRow' hbr.out (Nat.le_refl _) _, by rw [hX.out]; exact h⟩
              case measure => simp [intOf]; omega
            · have hk64 : k = 64 := by omega
              subst hk64
              have z1 := Lib.hid ((hbz.block w.heap.size (by omega)).trans q1.out)
              have z2 := Lib.hid ((hbz.block (w.heap.size + 1) (by omega)).trans q2.out)
              have z3 := Lib.hid hrow
              have hBz := Lib.hid (hBy.out.trans (hbz.mono (by omega)))
              have hV := hG'.out
              rw [hRR'.out] at hV
              have hV' := Lib.hid hV
              clear hbz hrow q1 q2 hcly hBy hck' hRs' hRok' hR0' hRR' hV hG' hzy hb' hzw
              generalize R 64 = V at *
              rw [show (((64 : Nat) : Int)) = 64 from rfl]
              go_wp2
              go_loopw [21] (fun i wz => ∃ k : Nat, k ≤ 8 ∧ i = .int .i64 (k : Int) ∧ Below w.heap.size w wz ∧ wz.heap[w.heap.size]? = some (.cells (u32s (addN v.list V.list k)) 23 (0, 0)) ∧ wz.heap[w.heap.size + 1]? = some (.cells (u32s [0, 0, 0, 0, 0, 0, 0, 0]) 23 (0, 0)) ∧ wz.heap[gV]? = some (.cells (u32s V.list) 23 (0, 0))) (fun i _ => 8 - (intOf i).toNat)
              case atStart => exact ⟨0, by omega, rfl, hBz.out, z1.out, z2.out, z3.out⟩
              case round =>
                clear z1 z2 z3 hBz
                obtain ⟨k, hk, rfl, hb, h0, h2, h3⟩ := hrel
                by_cases hlt : k < 8
                · have ch : wr.cell? ⟨w.heap.size, k, none⟩ = some (.int .u32 (ith (addN v.list V.list k) k)) := by
                    rw [cell_of_row _ _ _ _ _ _ h0]; exact u32s_get _ k (by rw [addN_length]; exact hlt)
                  have cv : wr.cell? ⟨gV, k, none⟩ = some (.int .u32 (ith V.list k)) := by
                    rw [cell_of_row _ _ _ _ _ _ h3]; exact u32s_get _ k hlt
                  have hf : wr.frozen? ⟨w.heap.size, k, none⟩ = false := frozen_of_row _ _ _ _ _ h0
                  have hn := setCell_row h0 k (.int .u32 ((ith (addN v.list V.list k) k + ith V.list k) % 4294967296))
                  rw [u32s_set] at hn
                  have hn2 := (setCell_rows (w := wr) w.heap.size k (.int .u32 ((ith (addN v.list V.list k) k + ith V.list k) % 4294967296)) (w.heap.size + 1) (by omega)).trans h2
                  have hn3 := (setCell_rows (w := wr) w.heap.size k (.int .u32 ((ith (addN v.list V.list k) k + ith V.list k) % 4294967296)) gV (by omega)).trans h3
                  have i1 : (0 : Int) ≤ (k : Int) := by omega
                  have i2 : (k : Int) < 8 := by omega
                  have hn' := Lib.hid hn; have hn2' := Lib.hid hn2; have hn3' := Lib.hid hn3; have hb' := Lib.hid hb
                  clear hn hn2 hn3 h0 h2 h3 hb
                  go_wp2
                  go_still_tail 8, (by kernel_rfl)
                  go_wp2
                  exact ⟨⟨k + 1, by omega, by go_num, (hb'.out.setCell (Nat.le_refl _) _).drew, hn'.out, hn2'.out, hn3'.out⟩, by simp [intOf]; omega⟩
                · have hk8 : k = 8 := by omega
                  subst hk8
                  rw [addN_eight] at h0
                  have h0' := Lib.hid h0; have h2' := Lib.hid h2
                  clear h0 h2 h3
                  go_wp2_with (first | (refine wpList_load_row rfl 23 _ rfl w.heap.size rfl 23 _ _ _ h0'.out Tryd.underlying23 rfl (by kernel_rfl) ?_) | (refine storeRow rfl 23 _ _ rfl (w.heap.size + 1) rfl _ rfl 23 _ h2'.out (by kernel_rfl) (by simp [u32s, V8.list]) (u32s_one _) ?_))
                  try simp only [Exit.inBlock, Exit.then]
                  refine bodyPost_ret (v := .agg (v.add V).cells) (results_cell_row rfl _ _ (w.heap.size + 1) 23 _ _ _ rfl (setRow_heap _ _ _ _ _ _ h2'.out) Tryd.underlying23 rfl (by kernel_rfl)) rfl ⟨by rw [hV'.out]; rfl, below_setRow' hb (by omega) _⟩
end Go.Proofs.YtdlblhoaddfanaaDoor
namespace Go.Proofs.YtdlblhoaddfanaaDoor
open Go.RowKit Go.YtdlblhoaddfanaaDoor
set_option linter.unusedVariables false
theorem rground_lit (v G : V8) (b o n c : Nat) (l : List Int) (w : World) (hv : v.ok) (hG : groundF v l = G) (hn : 64 ≤ n) (hnc : n ≤ c) (hcm : c ≤ maxLen) (hl : Bytes l)
    (hcell : ∀ i, i < 64 → w.cell? ⟨b, o + i, none⟩ = some (.int .u8 (ith l i))) :
    Calls Tryd.prog 32 #[.agg #[.int .u32 v.a, .int .u32 v.b, .int .u32 v.c, .int .u32 v.d, .int .u32 v.e, .int .u32 v.f, .int .u32 v.g, .int .u32 v.h], .slice (some ⟨b, o, none⟩) n c] w
      fun e w' => e = .returned (.agg #[.int .u32 G.a, .int .u32 G.b, .int .u32 G.c, .int .u32 G.d, .int .u32 G.e, .int .u32 G.f, .int .u32 G.g, .int .u32 G.h]) ∧ Below w.heap.size w w' := by
  subst hG
  exact rground_any v b o n c l w hv hn hnc hcm hl hcell
set_option maxRecDepth 100000 in
set_option maxHeartbeats 1000000 in
theorem rblocks_some (v : V8) (b o c : Nat) (l : List Int) (w : World) (hv : v.ok) (hlc : l.length ≤ c) (hcm : c ≤ maxLen) (hl : Bytes l) (hbw : b < w.heap.size) (hlm : l.length ≤ 1000000)
    (hcell : ∀ i, i < l.length → w.cell? ⟨b, o + i, none⟩ = some (.int .u8 (ith l i))) :
    Calls Tryd.prog 24 #[.agg #[.int .u32 v.a, .int .u32 v.b, .int .u32 v.c, .int .u32 v.d, .int .u32 v.e, .int .u32 v.f, .int .u32 v.g, .int .u32 v.h], .slice (some ⟨b, o, none⟩) l.length c] w
     fun e w' => e = .returned (.agg (blocksF v l).cells) ∧ Below w.heap.size w w' := by
  have hcell' := Lib.hid hcell; have hl' := Lib.hid hl
  clear hcell hl
  unfold maxLen at hcm
  generalize hn : l.length = n at *
  have hn' := Lib.hid hn; clear hn
  generalize hR : (fun k => grindN v l k) = R
  have hRok : ∀ k, (R k).ok := by subst hR; exact fun k => grindN_ok v l k hv
  have hR0 : R 0 = v := by subst hR; rfl
  have hRs : ∀ k, R (k + 1) = groundF (R k) (l.drop (64 * k)) := by subst hR; intro k; rfl
  have hRok' := Lib.hid hRok; have hR0' := Lib.hid hR0; have hRs' := Lib.hid hRs; have hR' := Lib.hid hR
  clear hRok hR0 hRs hR
  go_enter Tryd.func24, Tryd.ntmps24
  go_wp2
  go_loopw [5] (fun s wr => ∃ k : Nat, 64 * k ≤ n ∧ s = .int .i64 ((64 * k : Nat) : Int) ∧ Below w.heap.size w wr ∧ wr.heap[w.heap.size]? = some (.cells (u32s (R k).list) 23 (0, 0)) ∧ wr.heap[w.heap.size + 1]? = some (.cells (u32s [0, 0, 0, 0, 0, 0, 0, 0]) 23 (0, 0))) (fun s _ => n + 64 - (intOf s).toNat)
  case atStart =>
    refine ⟨0, by omega, rfl, ((Below.refl _ _).alloc (Nat.le_refl _) _).alloc (by simp) _, ?_, hn2 w _ _⟩
    rw [hR0'.out]; exact (hp1 _ _ _ (by simp)).trans (heap_alloc_new w _)
  case round =>
    obtain ⟨k, hk, rfl, hb, h0, h1⟩ := hrel
    have h0' := Lib.hid h0; have h1' := Lib.hid h1; have hb' := Lib.hid hb
    have hzr : w.heap.size + 1 < wr.heap.size := (Array.getElem?_eq_some_iff.1 h1).1
    clear h0 h1 hb
    by_cases hlt : 64 * k + 64 ≤ n
    · have hg := rground_lit (R k) (R (k + 1)) b (o + 64 * k) 64 (c - 64 * k) (l.drop (64 * k))
      have hS := hRs'.out k
      have hcl : ∀ wz, Below w.heap.size w wz → ∀ i, i < 64 → wz.cell? ⟨b, o + 64 * k + i, none⟩ = some (.int .u8 (ith (l.drop (64 * k)) i)) := fun wz h i hi => by
        rw [h.cell (p := (⟨b, o + 64 * k + i, none⟩ : Addr)) hbw, ith_drop, Nat.add_assoc]; exact hcell'.out _ (by omega)
      have hg2 := Lib.hid (fun wz h => hg wz (hRok'.out k) hS.symm (Nat.le_refl _) (by omega) (by unfold maxLen; omega) (bytes_drop _ _ hl'.out) (hcl wz h))
      clear hg hS hcl
      obtain ⟨c0, c1, c2, c3, c4, c5, c6, c7⟩ := cells8 h0'.out
      generalize hm : 64 * k = m at *
      have hm' := Lib.hid hm; clear hm
      have x1 : IntKind.i64.wrap ((m : Int) + 64) = (m : Int) + 64 := IntWalk.i64_in _ (by omega)
      have x2 : (0 : Int) ≤ (m : Int) + 64 := by omega
      have x3 : (m : Int) + 64 ≤ (c : Int) := by omega
      have x4 : ((m : Int) + 64).toNat = m + 64 := by omega
      have x5 : (m : Int) ≤ (m : Int) + 64 := by omega
      have x6 : m + 64 - m = 64 := by omega
      have x7 : ¬ c = m := by omega
      have x8 : ¬ c - m = 0 := by omega
      have x9 : (m : Int) + 64 ≤ (n : Int) := by omega
      go_wp2
      refine wp_region_headN (C := fun w' => ∃ n, w' = wr.drewN n) 6 [] (by kernel_rfl) (by kernel_rfl) ⟨1, rfl⟩ ?_
      simp only [List.take_succ_cons, List.take_zero, List.drop_succ_cons, List.drop_zero]
      repeat (refine head_walk (by rfl) (fun K hK => ?_); go_simp; refine hK _ ?_; clear hK K)
      refine head_nil ?_
      intro w' hw'
      obtain ⟨nz, rfl⟩ := hw'
      clear x1 x2 x3 x4 x5 x6 x7 x8 x9 c0 c1 c2 c3 c4 c5 c6 c7
      have hbz := Lib.hid (((Draws.refl wr).drewN nz).below hb'.out)
      have z0 := Lib.hid (show (wr.drewN nz).heap[w.heap.size]? = _ from h0'.out); have z1 := Lib.hid (show (wr.drewN nz).heap[w.heap.size + 1]? = _ from h1'.out)
      have hzz : w.heap.size + 1 < (wr.drewN nz).heap.size := hzr
      clear h0' h1' hb' hzr
      generalize wr.drewN nz = wz at *
      go_wp2_with (first | (go_at_call 32; refine (hg2.out wz hbz.out).mono ?_; rintro e w2 ⟨rfl, hb2⟩; have y0 := Lib.hid ((hb2.block w.heap.size (by omega)).trans z0.out); have y1 := Lib.hid ((hb2.block (w.heap.size + 1) (by omega)).trans z1.out); have hB2 := Lib.hid (hbz.out.trans (hb2.mono (by omega))); clear hb2) | (refine wpList_store_row rfl 23 _ _ rfl w.heap.size _ rfl rfl 23 _ y0.out (by kernel_rfl) (by simp [u32s, V8.list]) (by simp [Value.oneCell']) ?_))
      refine NoPanic.normal ?_
      go_wp2
      go_roundw
      case rel =>
        have h2 := setRow_heap w2 w.heap.size (u32s (R k).list) (u32s (R (k + 1)).list) 23 (0, 0) y0.out
        have h3 := (setRow_other w2 w.heap.size (w.heap.size + 1) (u32s (R (k + 1)).list) (by omega)).trans y1.out
        exact ⟨k + 1, by have := hm'.out; omega, by rw [show 64 * (k + 1) = m + 64 by have := hm'.out; omega]; go_num, below_setRow' hB2.out (Nat.le_refl _) _, h2, h3⟩
      case measure => have := hm'.out; simp [intOf]; omega
    · have hk' : k = n / 64 := by omega
      subst hk'
      have hRk : R (n / 64) = blocksF v l := by rw [← hR'.out, ← hn'.out]; rfl
      rw [hRk] at h0'
      clear hRk
      generalize hm : 64 * (n / 64) = m at *
      clear hm
      go_wp2_with (first | (refine wpList_load_row rfl 23 _ rfl w.heap.size rfl 23 _ _ _ h0'.out Tryd.underlying23 rfl (by kernel_rfl) ?_) | (refine wpList_store_row rfl 23 _ _ rfl (w.heap.size + 1) _ rfl rfl 23 _ h1'.out (by kernel_rfl) (by simp [u32s, V8.list]) (u32s_one _) ?_))
      try simp only [Exit.inBlock, Exit.then]
      exact bodyPost_ret (results_cell_row rfl _ _ (w.heap.size + 1) 23 _ _ _ rfl (setRow_heap _ _ _ _ _ _ h1'.out) Tryd.underlying23 rfl (by kernel_rfl)) rfl ⟨rfl, below_setRow' hb'.out (by omega) _⟩
theorem rblocks_none (v : V8) (a : Option Addr) (c : Nat) (w : World) :
    Calls Tryd.prog 24 #[.agg #[.int .u32 v.a, .int .u32 v.b, .int .u32 v.c, .int .u32 v.d, .int .u32 v.e, .int .u32 v.f, .int .u32 v.g, .int .u32 v.h], .slice a 0 c] w
     fun e w' => e = .returned (.agg v.cells) ∧ Below w.heap.size w w' := by
  go_enter Tryd.func24, Tryd.ntmps24
  go_wp2
  go_rounds 2
  try simp only [Exit.inBlock, Exit.then]
  exact bodyPost_ret (results_cell_row rfl _ _ (w.heap.size + 1) 23 _ _ _ rfl (hn2 w _ _) Tryd.underlying23 rfl (by kernel_rfl)) rfl ⟨rfl, ((Below.refl _ _).alloc (Nat.le_refl _) _).alloc (by simp) _⟩
theorem rblocks_any (v G : V8) (bv : Value) (l : List Int) (w : World) (hv : v.ok) (hl : Bytes l) (hr : RdB w bv l) (hlm : l.length ≤ 1000000) (hG : blocksF v l = G) :
    Calls Tryd.prog 24 #[.agg #[.int .u32 v.a, .int .u32 v.b, .int .u32 v.c, .int .u32 v.d, .int .u32 v.e, .int .u32 v.f, .int .u32 v.g, .int .u32 v.h], bv] w
     fun e w' => e = .returned (.agg #[.int .u32 G.a, .int .u32 G.b, .int .u32 G.c, .int .u32 G.d, .int .u32 G.e, .int .u32 G.f, .int .u32 G.g, .int .u32 G.h]) ∧ Below w.heap.size w w' := by
  subst hG
  rcases hr with ⟨a, c, rfl, hn, rfl⟩ | ⟨b, o, c, rfl, h1, h2, h3, h4⟩
  · exact rblocks_none v a c w
  · exact rblocks_some v b o c l w hv h1 h2 hl h3 hlm h4
end Go.Proofs.YtdlblhoaddfanaaDoor
namespace Go.Proofs.YtdlblhoaddfanaaDoor
open Go.RowKit Go.YtdlblhoaddfanaaDoor
set_option linter.unusedVariables false
def tailF (n : Nat) : List Int := tl (zT n) ++ [0, 0, 0, 0] ++ be4 (8 * (n : Int))
theorem tailF_length (n : Nat) : (tailF n).length = zT n + 9 := by simp [tailF, tl_length, be4]
theorem zT_lt (n : Nat) : zT n < 64 := Nat.mod_lt _ (by decide)
theorem tailF_bytes (n : Nat) (hn : n ≤ 300000) : Bytes (tailF n) := by
  unfold tailF
  refine bytes_append _ _ (bytes_append _ _ ?_ (bytes_replicate 4)) (be4_bytes _ ⟨by omega, by omega⟩)
  exact bytes_append [128] _ (bytes_one 128 (by omega)) (bytes_replicate _)
theorem tail_ending (r : List Int) (n : Nat) (h : r.length = n % 64) : r ++ tailF n = endingF r n := by
  have e : List.replicate (zT n) (0 : Int) ++ [0, 0, 0, 0] = List.replicate (endSize r.length - 4 - (r.length + 1)) 0 := by
    rw [show ([0, 0, 0, 0] : List Int) = List.replicate 4 0 from rfl, List.replicate_append_replicate]
    congr 1
    unfold zT endSize
    split <;> omega
  unfold tailF endingF tl
  rw [← e]
  simp
theorem rfirst_F (F : V8) (hF : firstW = F) (w : World) : Calls Tryd.prog 28 #[] w fun e w' => e = .returned (.agg #[.int .u32 F.a, .int .u32 F.b, .int .u32 F.c, .int .u32 F.d, .int .u32 F.e, .int .u32 F.f, .int .u32 F.g, .int .u32 F.h]) ∧ Below w.heap.size w w' := by
  subst hF; exact rfirst_any w
theorem rwritten_G (G : V8) (D : List Int) (w : World) (hG : G.ok) (hD : writtenF G = D) : Calls Tryd.prog 26 #[.agg #[.int .u32 G.a, .int .u32 G.b, .int .u32 G.c, .int .u32 G.d, .int .u32 G.e, .int .u32 G.f, .int .u32 G.g, .int .u32 G.h]] w fun e w' => e = .returned (.agg (u8s D)) ∧ Below w.heap.size w w' := by
  subst hD; exact rwritten_any G w hG
theorem rtail_F (n : Nat) (w : World) (hn : n ≤ 300000) : Calls Tryd.prog 27 #[.int .i64 (n : Int)] w fun e w' => ∃ ta tc, e = .returned (.slice ta (zT n + 9) tc) ∧ RdB w' (.slice ta (zT n + 9) tc) (tailF n) ∧ Below w.heap.size w w' := by
  refine (rtail_any n w hn).mono ?_
  rintro e w' ⟨r, rfl, ho, hb⟩
  have h := show RdB w' r (tailF n) from ho.rd
  obtain ⟨ta, tc, rfl⟩ := h.slice
  rw [tailF_length] at h ⊢
  exact ⟨ta, tc, rfl, h, hb⟩
theorem own0 (w : World) : OwnB w.heap.size 5 (w.alloc (.cells #[] 5)) (.slice (some ⟨w.heap.size, 0, none⟩) 0 0) [] :=
  ⟨rfl, .inr ⟨w.heap.size, 0, _, rfl, Nat.le_refl _, heap_alloc_new w _, Nat.le_refl _, by decide, rfl, rfl⟩⟩
end Go.Proofs.YtdlblhoaddfanaaDoor
namespace Go.Proofs.YtdlblhoaddfanaaDoor
open Go.RowKit Go.YtdlblhoaddfanaaDoor
set_option linter.unusedVariables false
theorem rstart_F (F : V8) (hF : firstW = F) (w : World) :
    Calls Tryd.prog 12 #[] w
      fun e w' => e = .returned (.agg #[.int .u32 F.a, .int .u32 F.b, .int .u32 F.c, .int .u32 F.d, .int .u32 F.e, .int .u32 F.f, .int .u32 F.g, .int .u32 F.h, .slice none 0 0, .int .i64 0]) ∧ Below w.heap.size w w' := by
  have hF' := Lib.hid hF
  clear hF
  go_enter Tryd.func12, Tryd.ntmps12
  go_wp2_with (go_at_call 28; refine (rfirst_F F hF'.out _).mono ?_; rintro e w1 ⟨rfl, hb1⟩; have hb1' := Lib.hid hb1; obtain ⟨hc1, hf1⟩ := bcell hb1; have hz1 := hb1.size; clear hb1)
  try simp only [Exit.inBlock, Exit.then]
  have hrow := (hb1'.out.block w.heap.size (by simp)).trans (heap_alloc_new w _)
  have hB := ((Below.refl w.heap.size w).alloc (Nat.le_refl _) _).trans (hb1'.out.mono (by simp))
  rw [set10_world hrow]
  exact bodyPost_ret (results_cell_row rfl _ _ w.heap.size 26 _ _ _ rfl (setRow_heap _ _ _ _ _ _ hrow) Tryd.underlying26 rfl (by kernel_rfl)) rfl ⟨rfl, below_setRow' (g := w.heap.size) hB (Nat.le_refl _) _⟩
set_option maxHeartbeats 400000 in
theorem rvalid_any (v : V8) (r : Value) (rn : Nat) (N : Int) (w : World) (hr : ∃ a c, r = .slice a rn c) :
    Calls Tryd.prog 23 #[.agg #[.int .u32 v.a, .int .u32 v.b, .int .u32 v.c, .int .u32 v.d, .int .u32 v.e, .int .u32 v.f, .int .u32 v.g, .int .u32 v.h, r, .int .i64 N]] w
      fun e w' => e = .returned (.bool (validB N rn)) ∧ Below w.heap.size w w' := by
  obtain ⟨a, c, rfl⟩ := hr
  go_enter Tryd.func23, Tryd.ntmps23
  go_wp2
  all_goals
    go_ret
    refine ⟨ret_bool ?_, (Below.refl _ _).alloc (Nat.le_refl _) _⟩
    rw [Bool.eq_iff_iff]
    simp [validB]
    omega
end Go.Proofs.YtdlblhoaddfanaaDoor
namespace Go.Proofs.YtdlblhoaddfanaaDoor
open Go.RowKit Go.YtdlblhoaddfanaaDoor
set_option linter.unusedVariables false
set_option maxRecDepth 100000 in
set_option maxHeartbeats 400000 in
theorem radd_bad (v : V8) (rv : Value) (rn : Nat) (N : Int) (bv : Value) (w : World) (hr : ∃ a c, rv = .slice a rn c) (hv : validB N rn = false) :
    Calls Tryd.prog 6 #[.agg #[.int .u32 v.a, .int .u32 v.b, .int .u32 v.c, .int .u32 v.d, .int .u32 v.e, .int .u32 v.f, .int .u32 v.g, .int .u32 v.h, rv, .int .i64 N], bv] w
     fun e w' => e = .returned (.tuple #[.agg #[.int .u32 0, .int .u32 0, .int .u32 0, .int .u32 0, .int .u32 0, .int .u32 0, .int .u32 0, .int .u32 0, .slice none 0 0, .int .i64 0], .int .i64 8]) ∧ Below w.heap.size w w' := by
  obtain ⟨a, c, rfl⟩ := hr
  go_enter Tryd.func6, Tryd.ntmps6
  go_wp2_with (go_at_call 23; refine (rvalid_any v _ rn N _ ⟨a, c, rfl⟩).mono ?_; rintro e w1 ⟨rfl, hb1⟩; obtain ⟨hc1, hf1⟩ := bcell hb1; have hs1 := fun b (h : b < _) => Nat.lt_of_lt_of_le h hb1.size; have hb1' := Lib.hid hb1; clear hb1)
  try simp only [Exit.inBlock, Exit.then]
  obtain ⟨hB, _, hrow⟩ := below2 w _ _ hb1'.out
  rw [set10_world hrow]
  exact bodyPost_ret (results_row_tmp rfl _ _ (w.heap.size + 1) 26 _ _ _ rfl (setRow_heap _ _ _ _ _ _ hrow) Tryd.underlying26 rfl (by kernel_rfl)) rfl ⟨rfl, below_setRow' (g := w.heap.size + 1) hB (by omega) _⟩
set_option maxRecDepth 100000 in
set_option maxHeartbeats 400000 in
theorem radd_many (v : V8) (rv : Value) (rn : Nat) (N : Int) (ba : Option Addr) (bn bc : Nat) (w : World) (hr : ∃ a c, rv = .slice a rn c) (hv : validB N rn = true) (hN : 200000 - N < (bn : Int)) (h0 : 0 ≤ N) (h1 : N ≤ 200000) :
    Calls Tryd.prog 6 #[.agg #[.int .u32 v.a, .int .u32 v.b, .int .u32 v.c, .int .u32 v.d, .int .u32 v.e, .int .u32 v.f, .int .u32 v.g, .int .u32 v.h, rv, .int .i64 N], .slice ba bn bc] w
     fun e w' => e = .returned (.tuple #[.agg #[.int .u32 0, .int .u32 0, .int .u32 0, .int .u32 0, .int .u32 0, .int .u32 0, .int .u32 0, .int .u32 0, .slice none 0 0, .int .i64 0], .int .i64 4]) ∧ Below w.heap.size w w' := by
  obtain ⟨a, c, rfl⟩ := hr
  go_enter Tryd.func6, Tryd.ntmps6
  go_wp2_with (go_at_call 23; refine (rvalid_any v _ rn N _ ⟨a, c, rfl⟩).mono ?_; rintro e w1 ⟨rfl, hb1⟩; obtain ⟨hc1, hf1⟩ := bcell hb1; have hs1 := fun b (h : b < _) => Nat.lt_of_lt_of_le h hb1.size; have hb1' := Lib.hid hb1; clear hb1)
  try simp only [Exit.inBlock, Exit.then]
  obtain ⟨hB, _, hrow⟩ := below2 w _ _ hb1'.out
  rw [set10_world hrow]
  exact bodyPost_ret (results_row_tmp rfl _ _ (w.heap.size + 1) 26 _ _ _ rfl (setRow_heap _ _ _ _ _ _ hrow) Tryd.underlying26 rfl (by kernel_rfl)) rfl ⟨rfl, below_setRow' (g := w.heap.size + 1) hB (by omega) _⟩
set_option maxRecDepth 100000 in
set_option maxHeartbeats 400000 in
theorem rend_bad (v : V8) (rv : Value) (rn : Nat) (N : Int) (w : World) (hr : ∃ a c, rv = .slice a rn c) (hv : validB N rn = false) :
    Calls Tryd.prog 8 #[.agg #[.int .u32 v.a, .int .u32 v.b, .int .u32 v.c, .int .u32 v.d, .int .u32 v.e, .int .u32 v.f, .int .u32 v.g, .int .u32 v.h, rv, .int .i64 N]] w
     fun e w' => e = .returned (.tuple #[.agg (u8s (zerosB 32)), .int .i64 8]) ∧ Below w.heap.size w w' := by
  obtain ⟨a, c, rfl⟩ := hr
  go_enter Tryd.func8, Tryd.ntmps8
  go_wp2_with (first | (go_at_call 23; refine (rvalid_any v _ rn N _ ⟨a, c, rfl⟩).mono ?_; rintro e w1 ⟨rfl, hb1⟩; obtain ⟨hB1, hz1, hrow1⟩ := below2 w _ _ hb1; have hrow1' := Lib.hid (show w1.heap[w.heap.size + 1]? = some (.cells (u8s (zerosB 32)) 33 (0, 0)) from hrow1); have hB1' := Lib.hid hB1; clear hb1 hrow1 hB1) | (refine wpList_store_row rfl 33 _ _ rfl (w.heap.size + 1) (u8s (zerosB 32)) rfl rfl 33 _ hrow1'.out info_id rfl (u8s_one _) ?_))
  try simp only [Exit.inBlock, Exit.then]
  exact bodyPost_ret (results_row_tmp rfl _ _ (w.heap.size + 1) 33 _ _ _ rfl (setRow_heap _ _ _ _ _ _ hrow1'.out) Tryd.underlying33 rfl info_id) rfl ⟨rfl, below_setRow' (g := w.heap.size + 1) hB1'.out (by omega) _⟩
/-- A slice of the rest, from whole blocks on. -/
theorem rest_slice {w : World} {a : Option Addr} {n c : Nat} {l : List Int} (h : RdB w (.slice a n c) l) (hn : l.length = n) (k : Nat) (hk : k ≤ n) :
    (c - k = 0 → RdB w (.slice a (n - k) (c - k)) (l.drop k)) ∧ (∀ b o, a = some ⟨b, o, none⟩ → RdB w (.slice (some ⟨b, o + k, none⟩) (n - k) (c - k)) (l.drop k)) := by
  have hd : (l.drop k).length = n - k := by simp [hn]
  rcases h with ⟨a', c', he, hc, rfl⟩ | ⟨b, o, c', he, h1, h2, h3, h4⟩
  · obtain ⟨rfl, rfl, rfl⟩ : a = a' ∧ n = 0 ∧ c = c' := by injection he with e1 e2 e3; exact ⟨e1, e2, e3⟩
    have hk0 : k = 0 := by omega
    subst hk0
    refine ⟨fun _ => .inl ⟨a, c, rfl, hc, rfl⟩, fun b o ha => .inl ⟨_, c, rfl, (fun h => by cases h), rfl⟩⟩
  · obtain ⟨rfl, _, rfl⟩ : a = some ⟨b, o, none⟩ ∧ n = l.length ∧ c = c' := by injection he with e1 e2 e3; exact ⟨e1, e2, e3⟩
    subst hn
    have hcell : ∀ i, i < (l.drop k).length → w.cell? ⟨b, o + k + i, none⟩ = some (.int .u8 (ith (l.drop k) i)) := fun i hi => by
      rw [hd] at hi
      rw [ith_drop, Nat.add_assoc]; exact h4 _ (by omega)
    refine ⟨fun hc0 => ?_, fun b' o' ha => ?_⟩
    · have e0 : l.length - k = 0 := by omega
      rw [e0]
      exact .inl ⟨_, _, rfl, (fun h => by cases h), by apply List.eq_nil_of_length_eq_zero; omega⟩
    · obtain ⟨rfl, rfl⟩ : b = b' ∧ o = o' := by simpa using ha
      exact .inr ⟨b, o + k, c - k, by rw [hd], by omega, by omega, h3, hcell⟩
end Go.Proofs.YtdlblhoaddfanaaDoor
namespace Go.Proofs.YtdlblhoaddfanaaDoor
open Go.RowKit Go.YtdlblhoaddfanaaDoor
set_option linter.unusedVariables false
theorem cells10 {w : World} {g : Nat} {x0 x1 x2 x3 x4 x5 x6 x7 x8 x9 : Value} {T : TypeId} (h : w.heap[g]? = some (.cells #[x0, x1, x2, x3, x4, x5, x6, x7, x8, x9] T (0, 0))) :
    w.cell? ⟨g, 0, none⟩ = some x0 ∧ w.cell? ⟨g, 1, none⟩ = some x1 ∧ w.cell? ⟨g, 2, none⟩ = some x2 ∧ w.cell? ⟨g, 3, none⟩ = some x3 ∧ w.cell? ⟨g, 4, none⟩ = some x4 ∧ w.cell? ⟨g, 5, none⟩ = some x5 ∧ w.cell? ⟨g, 6, none⟩ = some x6 ∧ w.cell? ⟨g, 7, none⟩ = some x7 ∧ w.cell? ⟨g, 8, none⟩ = some x8 ∧ w.cell? ⟨g, 9, none⟩ = some x9 :=
  ⟨cell_of_row _ _ _ _ _ _ h, cell_of_row _ _ _ _ _ _ h, cell_of_row _ _ _ _ _ _ h, cell_of_row _ _ _ _ _ _ h, cell_of_row _ _ _ _ _ _ h, cell_of_row _ _ _ _ _ _ h, cell_of_row _ _ _ _ _ _ h, cell_of_row _ _ _ _ _ _ h, cell_of_row _ _ _ _ _ _ h, cell_of_row _ _ _ _ _ _ h⟩
theorem frozen10 {w : World} {g : Nat} {cs : Array Value} {T : TypeId} (h : w.heap[g]? = some (.cells cs T (0, 0))) :
    w.frozen? ⟨g, 0, none⟩ = false ∧ w.frozen? ⟨g, 1, none⟩ = false ∧ w.frozen? ⟨g, 2, none⟩ = false ∧ w.frozen? ⟨g, 3, none⟩ = false ∧ w.frozen? ⟨g, 4, none⟩ = false ∧ w.frozen? ⟨g, 5, none⟩ = false ∧ w.frozen? ⟨g, 6, none⟩ = false ∧ w.frozen? ⟨g, 7, none⟩ = false ∧ w.frozen? ⟨g, 8, none⟩ = false ∧ w.frozen? ⟨g, 9, none⟩ = false :=
  ⟨frozen_of_row _ _ _ _ _ h, frozen_of_row _ _ _ _ _ h, frozen_of_row _ _ _ _ _ h, frozen_of_row _ _ _ _ _ h, frozen_of_row _ _ _ _ _ h, frozen_of_row _ _ _ _ _ h, frozen_of_row _ _ _ _ _ h, frozen_of_row _ _ _ _ _ h, frozen_of_row _ _ _ _ _ h, frozen_of_row _ _ _ _ _ h⟩
/-- The slice's block is not an old one. -/
def NewB (B : Nat) (v : Value) : Prop := ∀ b o n c, v = .slice (some ⟨b, o, none⟩) n c → B ≤ b
theorem NewB.nil (B n c : Nat) : NewB B (.slice none n c) := fun _ _ _ _ h => by cases h
theorem NewB.at {B g o n c : Nat} (h : B ≤ g) : NewB B (.slice (some ⟨g, o, none⟩) n c) := fun _ _ _ _ e => by cases e; exact h
theorem rd_setRow {w : World} {b o n c : Nat} {l : List Int} (h : RdB w (.slice (some ⟨b, o, none⟩) n c) l) (g : Nat) (hne : b ≠ g) (cs : Array Value) : RdB (w.setRow g cs) (.slice (some ⟨b, o, none⟩) n c) l := by
  rcases h with ⟨a', c', he, hc, rfl⟩ | ⟨b', o', c', he, h1, h2, h3, h4⟩
  · exact .inl ⟨a', c', he, hc, rfl⟩
  · have e : b' = b := by injection he with e1 _ _; injection e1 with e2; injection e2 with e3 _ _; exact e3.symm
    subst e
    refine .inr ⟨b', o', c', he, h1, h2, by rw [size_setRow]; exact h3, fun i hi => ?_⟩
    have := h4 i hi
    unfold World.cell? at this ⊢
    rw [setRow_other w g b' cs (by omega)]
    exact this
set_option maxRecDepth 100000 in
set_option maxHeartbeats 4000000 in
theorem radd_ok (v G : V8) (rv : Value) (r : List Int) (M : Nat) (bv : Value) (l : List Int) (w : World) (hv : v.ok) (hr : RdB w rv r) (hl : RdB w bv l) (hrb : Bytes r) (hlb : Bytes l) (hrl : r.length = M % 64) (hN : M + l.length ≤ 200000) (hG : blocksF v (r ++ l) = G) :
    Calls Tryd.prog 6 #[.agg #[.int .u32 v.a, .int .u32 v.b, .int .u32 v.c, .int .u32 v.d, .int .u32 v.e, .int .u32 v.f, .int .u32 v.g, .int .u32 v.h, rv, .int .i64 M], bv] w
     fun e w' => ∃ r', e = .returned (.tuple #[.agg #[.int .u32 G.a, .int .u32 G.b, .int .u32 G.c, .int .u32 G.d, .int .u32 G.e, .int .u32 G.f, .int .u32 G.g, .int .u32 G.h, r', .int .i64 (M + l.length : Nat)], .int .i64 0]) ∧ RdB w' r' (restF (r ++ l)) ∧ NewB w.heap.size r' ∧ Below w.heap.size w w' := by
  obtain ⟨a, c, rfl⟩ := hr.slice
  obtain ⟨ba, bc, rfl⟩ := hl.slice
  have hvd := validB_yes M r.length (by omega) hrl
  have hab := Lib.hid (bytes_append _ _ hrb hlb)
  have hal : Hid ((r ++ l).length ≤ 1000000) := Lib.hid (by rw [List.length_append]; omega)
  have hr' := Lib.hid hr; have hl' := Lib.hid hl; have hG' := Lib.hid hG; have hv' := Lib.hid hv
  have hrl64 : r.length < 64 := by omega
  clear hr hl hG hrb hlb hrl hv
  go_enter Tryd.func6, Tryd.ntmps6
  go_upto_region 5 with (go_at_call 23; refine (rvalid_any v _ r.length M _ ⟨a, c, rfl⟩).mono ?_; rintro e w1 ⟨rfl, hb1⟩; obtain ⟨hc1, hf1⟩ := bcell hb1; have hs1 := fun b (h : b < _) => Nat.lt_of_lt_of_le h hb1.size; have hb1' := Lib.hid hb1; clear hb1)
  obtain ⟨hB1, hz1, hrow1⟩ := below2 w _ _ hb1'.out
  have hrow0 := (hb1'.out.block w.heap.size (by simp; omega)).trans ((hp1 _ _ _ (by simp)).trans (heap_alloc_new w _))
  have k1 := Lib.hid hrow1; have k0 := Lib.hid hrow0; have hB1' := Lib.hid hB1
  have c8 := (cells10 hrow0).2.2.2.2.2.2.2.2.1
  clear hc1 hf1 hs1 hb1' hrow1 hrow0 hB1 hvd
  have r1 := Lib.hid ((hr'.out.mono hB1'.out).mono ((Below.refl w1.heap.size w1).alloc (Nat.le_refl _) (.cells #[] 5)))
  generalize hln : l.length = ln at *
  generalize hrn : r.length = rn at *
  have hln' := Lib.hid hln; have hrn' := Lib.hid hrn; clear hln hrn
  have k8 : (w1.alloc (.cells #[] 5)).cell? ⟨w.heap.size, 8, none⟩ = some (.slice a rn c) := (((Below.refl w1.heap.size w1).alloc (Nat.le_refl _) (.cells #[] 5)).cell (p := ⟨w.heap.size, 8, none⟩) (show w.heap.size < _ by omega)).trans c8
  clear c8
  go_wp2_with (refine appendB rfl _ _ 24 rfl w1.heap.size 5 Tryd.underlying24 (by kernel_rfl) _ rfl _ (own0 w1) _ rfl _ r1.out (by rw [hrn'.out]; simp; omega) (by simp) ?_)
  intro v' w2 h1 h2
  have hB2 := ((Below.refl w1.heap.size w1).alloc (Nat.le_refl _) (.cells #[] 5)).trans ((own0 w1).below h2 (by simp))
  try rw [List.nil_append] at h1
  obtain ⟨pa, pc, rfl⟩ := h1.rd.slice
  have h1' := Lib.hid h1; have hB2' := Lib.hid hB2
  have r2 := Lib.hid ((hl'.out.mono hB1'.out).mono hB2)
  have hz2 := hB2.size
  clear h1 h2 hB2 r1 k8
  rw [hrn'.out] at h1' ⊢
  refine Stop.go ?_
  go_wp2_with (refine appendB rfl _ _ 24 rfl w1.heap.size 5 Tryd.underlying24 (by kernel_rfl) _ rfl _ h1'.out _ rfl _ r2.out (by rw [hrn'.out, hln'.out]; omega) hz2 ?_)
  intro v' w3 h1 h2
  have hB3 := Lib.hid (hB2'.out.trans (h1'.out.below h2 hz2))
  have hz3 := hB3.out.size
  have hrd := Lib.hid h1.rd
  have hown := h1.2
  have y1 := Lib.hid ((hB3.out.block (w.heap.size + 1) hz1).trans k1.out)
  have y0 := (hB3.out.block w.heap.size (by omega)).trans k0.out
  obtain ⟨c0, c1, c2, c3, c4, c5, c6, c7, _, c9⟩ := cells10 y0
  have hBw := Lib.hid (hB1'.out.trans (hB3.out.mono (by omega)))
  have hzw : w.heap.size + 1 < w3.heap.size := by omega
  have hnl : (r ++ l).length = rn + ln := by rw [List.length_append, hrn'.out, hln'.out]
  have hnl' := Lib.hid hnl
  clear h1 h2 h1' r2 hB2' hB3 k0 k1 hB1' y0 hnl hr' hl'
  have hblk := Lib.hid (fun (av : Value) (wz : World) (hb : Below w3.heap.size w3 wz) (h : RdB w3 av (r ++ l)) => rblocks_any v G av (r ++ l) wz hv'.out hab.out (h.mono hb) hal.out hG'.out)
  rcases hown with ⟨rfl, h0⟩ | ⟨g, pc, cur, rfl, hbg, hg, hnc, hcm, _, _⟩
  · rw [hnl'.out] at h0
    have hl0 : rn + ln = 0 := h0
    have hln0 : ln = 0 := by omega
    have hrn0 : rn = 0 := by omega
    subst hln0
    subst hrn0
    have hre : r ++ l = [] := List.eq_nil_of_length_eq_zero (by rw [hnl'.out])
    have hrf : restF (r ++ l) = [] := by rw [hre]; rfl
    have hrf' := Lib.hid hrf
    have hsum : IntKind.i64.wrap ((M : Int) + ((0 : Nat) : Int)) = (M : Int) + ((0 : Nat) : Int) := IntWalk.i64_in _ (by omega)
    clear hrf hre h0 hl0
    have hzw0 : w.heap.size < w3.heap.size := by omega
    obtain ⟨f0, f1, f2, f3, f4, f5, f6, f7, f8, f9⟩ := frozen10 y1.out
    obtain ⟨d0, d1, d2, d3, d4, d5, d6, d7, d8, d9⟩ := cells10 y1.out
    refine Stop.go ?_
    go_wp2
    go_region_held3 (fun w' => w'.cell? ⟨w.heap.size, 0, none⟩ = some (.int .u32 v.a) ∧ w'.cell? ⟨w.heap.size, 1, none⟩ = some (.int .u32 v.b) ∧ w'.cell? ⟨w.heap.size, 2, none⟩ = some (.int .u32 v.c) ∧ w'.cell? ⟨w.heap.size, 3, none⟩ = some (.int .u32 v.d) ∧ w'.cell? ⟨w.heap.size, 4, none⟩ = some (.int .u32 v.e) ∧ w'.cell? ⟨w.heap.size, 5, none⟩ = some (.int .u32 v.f) ∧ w'.cell? ⟨w.heap.size, 6, none⟩ = some (.int .u32 v.g) ∧ w'.cell? ⟨w.heap.size, 7, none⟩ = some (.int .u32 v.h) ∧ w'.cell? ⟨w.heap.size, 9, none⟩ = some (.int .i64 M)) (go_keep)
      (first | (go_at_call 24; refine (hblk.out _ _ (Below.refl _ _).drew hrd.out).mono ?_; rintro e w4 ⟨rfl, hb4⟩; obtain ⟨hc4, hf4⟩ := bcell hb4; simp only [World.size_drew, World.cell?_drew, World.frozen?_drew] at hc4 hf4; have hb4' := Lib.hid hb4; have hz4 := hb4.size; clear hb4))
    all_goals
      go_wp2
      try simp only [Exit.inBlock, Exit.then]
      have row4 := (hb4'.out.block (w.heap.size + 1) (by simp; omega)).trans (show w3.drew.heap[w.heap.size + 1]? = _ from y1.out)
      have hB4 := hBw.out.trans ((show Below w3.heap.size w3 w4 from (Below.refl _ _).drew.trans hb4'.out).mono (by omega))
      rw [set10_world row4]
      refine bodyPost_ret (results_row_tmp rfl _ _ (w.heap.size + 1) 26 _ _ _ rfl (setRow_heap _ _ _ _ _ _ row4) Tryd.underlying26 rfl (by kernel_rfl)) rfl ⟨.slice none 0 0, by rw [hln'.out]; rfl, ?_, NewB.nil _ _ _, below_setRow' (g := w.heap.size + 1) hB4 (by omega) _⟩
      rw [hrf'.out]
      exact .inl ⟨none, 0, rfl, fun _ => rfl, rfl⟩
  · rw [hnl'.out] at hnc hrd ⊢
    unfold maxLen at hcm
    have hq := rest_slice hrd.out hnl'.out ((rn + ln) / 64 * 64) (by omega)
    have hrf : restF (r ++ l) = (r ++ l).drop ((rn + ln) / 64 * 64) := by unfold restF; rw [hnl'.out, Nat.mul_comm]
    rw [← hrf] at hq
    have hq' := Lib.hid hq
    clear hq hrf hg
    have hN2 : rn + ln ≤ 1000000 := by omega
    have hsum : IntKind.i64.wrap ((M : Int) + (ln : Int)) = ((M + ln : Nat) : Int) := by rw [IntWalk.i64_in _ (by omega)]; omega
    generalize hNN : rn + ln = N at *
    have e1 : (N : Int) / 64 = ((N / 64 : Nat) : Int) := by omega
    have e2 : (N : Int).tdiv 64 = ((N / 64 : Nat) : Int) := by rw [Int.tdiv_eq_ediv_of_nonneg (by omega)]; omega
    have e3 : IntKind.i64.wrap (((N / 64 : Nat) : Int) * 64) = ((N / 64 * 64 : Nat) : Int) := by rw [IntWalk.i64_in _ (by omega)]; omega
    have e4 : IntKind.i64.wrap ((N / 64 : Nat) : Int) = ((N / 64 : Nat) : Int) := IntWalk.i64_in _ (by omega)
    have b1 : ((N / 64 * 64 : Nat) : Int) ≤ (N : Int) := by omega
    have b2 : (0 : Int) ≤ ((N / 64 * 64 : Nat) : Int) := by omega
    have b3 : N / 64 * 64 ≤ N := by omega
    generalize N / 64 * 64 = m at *
    generalize N / 64 = q at *
    by_cases hcc : pc = m
    · subst hcc
      have hcN : N = pc := by omega
      subst hcN
      have hcc2 : N - N = 0 := by omega
      clear hnc b3
      have hzw0 : w.heap.size < w3.heap.size := by omega
      obtain ⟨f0, f1, f2, f3, f4, f5, f6, f7, f8, f9⟩ := frozen10 y1.out
      obtain ⟨d0, d1, d2, d3, d4, d5, d6, d7, d8, d9⟩ := cells10 y1.out
      refine Stop.go ?_
      go_wp2
      go_region_held3 (fun w' => w'.cell? ⟨w.heap.size, 0, none⟩ = some (.int .u32 v.a) ∧ w'.cell? ⟨w.heap.size, 1, none⟩ = some (.int .u32 v.b) ∧ w'.cell? ⟨w.heap.size, 2, none⟩ = some (.int .u32 v.c) ∧ w'.cell? ⟨w.heap.size, 3, none⟩ = some (.int .u32 v.d) ∧ w'.cell? ⟨w.heap.size, 4, none⟩ = some (.int .u32 v.e) ∧ w'.cell? ⟨w.heap.size, 5, none⟩ = some (.int .u32 v.f) ∧ w'.cell? ⟨w.heap.size, 6, none⟩ = some (.int .u32 v.g) ∧ w'.cell? ⟨w.heap.size, 7, none⟩ = some (.int .u32 v.h) ∧ w'.cell? ⟨w.heap.size, 9, none⟩ = some (.int .i64 M)) (go_keep)
        (first | (go_at_call 24; refine (hblk.out _ _ (Below.refl _ _).drew hrd.out).mono ?_; rintro e w4 ⟨rfl, hb4⟩; obtain ⟨hc4, hf4⟩ := bcell hb4; simp only [World.size_drew, World.cell?_drew, World.frozen?_drew] at hc4 hf4; have hb4' := Lib.hid hb4; have hz4 := hb4.size; clear hb4))
      go_wp2
      try simp only [Exit.inBlock, Exit.then]
      have row4 := (hb4'.out.block (w.heap.size + 1) (by simp; omega)).trans (show w3.drew.heap[w.heap.size + 1]? = _ from y1.out)
      have hB4 := hBw.out.trans ((show Below w3.heap.size w3 w4 from (Below.refl _ _).drew.trans hb4'.out).mono (by omega))
      rw [set10_world row4]
      refine bodyPost_ret (results_row_tmp rfl _ _ (w.heap.size + 1) 26 _ _ _ rfl (setRow_heap _ _ _ _ _ _ row4) Tryd.underlying26 rfl (by kernel_rfl)) rfl ⟨.slice (some ⟨g, 0, none⟩) 0 0, by rw [hln'.out, Int.natCast_add]; rfl, ?_, NewB.at (by omega), below_setRow' (g := w.heap.size + 1) hB4 (by omega) _⟩
      have hqa := hq'.out.1 hcc2
      rw [Nat.sub_self] at hqa
      exact rd_setRow (hqa.mono ((Below.refl w3.heap.size w3).drew.trans hb4'.out)) _ (by omega) _
    · have hcc2 : ¬ pc - m = 0 := by omega
      have hzw0 : w.heap.size < w3.heap.size := by omega
      obtain ⟨f0, f1, f2, f3, f4, f5, f6, f7, f8, f9⟩ := frozen10 y1.out
      obtain ⟨d0, d1, d2, d3, d4, d5, d6, d7, d8, d9⟩ := cells10 y1.out
      have b4 : (N : Int) ≤ (pc : Int) := by omega
      have b5 : (m : Int) ≤ (pc : Int) := by omega
      have b6 : ¬ pc ≤ m := by omega
      have b7 : ¬ m = pc := by omega
      refine Stop.go ?_
      go_wp2
      go_region_held3 (fun w' => w'.cell? ⟨w.heap.size, 0, none⟩ = some (.int .u32 v.a) ∧ w'.cell? ⟨w.heap.size, 1, none⟩ = some (.int .u32 v.b) ∧ w'.cell? ⟨w.heap.size, 2, none⟩ = some (.int .u32 v.c) ∧ w'.cell? ⟨w.heap.size, 3, none⟩ = some (.int .u32 v.d) ∧ w'.cell? ⟨w.heap.size, 4, none⟩ = some (.int .u32 v.e) ∧ w'.cell? ⟨w.heap.size, 5, none⟩ = some (.int .u32 v.f) ∧ w'.cell? ⟨w.heap.size, 6, none⟩ = some (.int .u32 v.g) ∧ w'.cell? ⟨w.heap.size, 7, none⟩ = some (.int .u32 v.h) ∧ w'.cell? ⟨w.heap.size, 9, none⟩ = some (.int .i64 M)) (go_keep)
        (first | (go_at_call 24; refine (hblk.out _ _ (Below.refl _ _).drew hrd.out).mono ?_; rintro e w4 ⟨rfl, hb4⟩; obtain ⟨hc4, hf4⟩ := bcell hb4; simp only [World.size_drew, World.cell?_drew, World.frozen?_drew] at hc4 hf4; have hb4' := Lib.hid hb4; have hz4 := hb4.size; clear hb4))
      go_wp2
      try simp only [Exit.inBlock, Exit.then]
      have row4 := (hb4'.out.block (w.heap.size + 1) (by simp; omega)).trans (show w3.drew.heap[w.heap.size + 1]? = _ from y1.out)
      have hB4 := hBw.out.trans ((show Below w3.heap.size w3 w4 from (Below.refl _ _).drew.trans hb4'.out).mono (by omega))
      rw [set10_world row4]
      refine bodyPost_ret (results_row_tmp rfl _ _ (w.heap.size + 1) 26 _ _ _ rfl (setRow_heap _ _ _ _ _ _ row4) Tryd.underlying26 rfl (by kernel_rfl)) rfl ⟨.slice (some ⟨g, m, none⟩) (N - m) (pc - m), by rw [hln'.out, Int.natCast_add]; rfl, ?_, NewB.at (by omega), below_setRow' (g := w.heap.size + 1) hB4 (by omega) _⟩
      have hqb := hq'.out.2 g 0 rfl
      rw [Nat.zero_add] at hqb
      exact rd_setRow (((hqb).mono ((Below.refl w3.heap.size w3).drew.trans hb4'.out))) _ (by omega) _
end Go.Proofs.YtdlblhoaddfanaaDoor
namespace Go.Proofs.YtdlblhoaddfanaaDoor
open Go.RowKit Go.YtdlblhoaddfanaaDoor
set_option linter.unusedVariables false
theorem rd_at {w : World} {a : Option Addr} {n c : Nat} {l : List Int} (h : RdB w (.slice a n c) l) (i : Nat) (hi : i < l.length) : ∃ b o, a = some ⟨b, o, none⟩ ∧ b < w.heap.size ∧ w.cell? ⟨b, o + i, none⟩ = some (.int .u8 (ith l i)) := by
  rcases h with ⟨_, _, _, _, rfl⟩ | ⟨b, o, c', h1, h2, h3, h4, h5⟩
  · exact absurd hi (Nat.not_lt_zero _)
  · cases h1
    exact ⟨b, o, rfl, h4, h5 i hi⟩
end Go.Proofs.YtdlblhoaddfanaaDoor
namespace Go.Proofs.YtdlblhoaddfanaaDoor
open Go.RowKit Go.YtdlblhoaddfanaaDoor
set_option linter.unusedVariables false
set_option maxRecDepth 100000 in
theorem sameb_yes (a1 a2 : Option Addr) (c1 c2 n : Nat) (l : List Int) (w : World) (hn : l.length = n) (hm : n ≤ 140737488355328) (h1 : RdB w (.slice a1 n c1) l) (h2 : RdB w (.slice a2 n c2) l) :
    Calls Tryd.prog 10 #[.slice a1 n c1, .slice a2 n c2] w fun e w' => e = .returned (.bool true) ∧ Below w.heap.size w w' := by
  have h1' := Lib.hid h1; have h2' := Lib.hid h2; have hn' := Lib.hid hn
  clear h1 h2 hn
  go_enter Tryd.func10, Tryd.ntmps10
  go_wp2
  go_loopw [5] (fun i wr => ∃ k : Nat, k ≤ n ∧ i = .int .i64 k ∧ Draws w wr) (fun i _ => match i with | .int _ m => n - m.toNat | _ => 0)
  case atStart => exact ⟨0, Nat.zero_le _, rfl, Draws.refl _⟩
  case round =>
    obtain ⟨k, hk, rfl, hd⟩ := hrel
    by_cases hlt : k < n
    · obtain ⟨b, o, rfl, _, e1⟩ := rd_at h1'.out k (by rw [hn'.out]; exact hlt)
      obtain ⟨b', o', rfl, _, e2⟩ := rd_at h2'.out k (by rw [hn'.out]; exact hlt)
      have c1 := (hd.cell _).trans e1
      have c2 := (hd.cell _).trans e2
      go_wp2
      go_quiet (fail)
      go_wp2
      go_roundw
      case rel => exact ⟨k + 1, by omega, by go_num, hd.drewN _⟩
      case measure => go_num
    · go_wp2
      go_ret
      exact ⟨rfl, hd.below (Below.refl _ _)⟩
def millV (V : V8) (r : Value) (N : Int) : Value := .agg #[.int .u32 V.a, .int .u32 V.b, .int .u32 V.c, .int .u32 V.d, .int .u32 V.e, .int .u32 V.f, .int .u32 V.g, .int .u32 V.h, r, .int .i64 N]
set_option maxRecDepth 100000 in
set_option maxHeartbeats 1000000 in
theorem same_yes (V : V8) (r1 r2 : Value) (l : List Int) (N : Int) (w : World) (hm : l.length ≤ 140737488355328) (h1 : RdB w r1 l) (h2 : RdB w r2 l) :
    Calls Tryd.prog 9 #[millV V r1 N, millV V r2 N] w fun e w' => e = .returned (.bool true) ∧ Below w.heap.size w w' := by
  obtain ⟨a1, c1, rfl⟩ := h1.slice
  obtain ⟨a2, c2, rfl⟩ := h2.slice
  have heq := fun (wz : World) => run_equalArrW (P := Tryd.prog) wz 9998 23 22 8 Tryd.underlying23 Tryd.underlying22 (by kernel_rfl) V.list V.list rfl rfl
  simp only [decide_true] at heq
  have heq2 : ∀ wz, (Op.equalIn 10000 23 (.agg #[.int .u32 V.a, .int .u32 V.b, .int .u32 V.c, .int .u32 V.d, .int .u32 V.e, .int .u32 V.f, .int .u32 V.g, .int .u32 V.h]) (.agg #[.int .u32 V.a, .int .u32 V.b, .int .u32 V.c, .int .u32 V.d, .int .u32 V.e, .int .u32 V.f, .int .u32 V.g, .int .u32 V.h])).run Tryd.prog wz = .ok true wz := heq
  have hs : ∀ o1 o2, Calls Tryd.prog 10 #[.slice a1 l.length c1, .slice a2 l.length c2] ((w.alloc o1).alloc o2) fun e w' => e = .returned (.bool true) ∧ Below w.heap.size w w' := by
    intro o1 o2
    have hB : Below w.heap.size w ((w.alloc o1).alloc o2) := ((Below.refl _ _).alloc (Nat.le_refl _) _).alloc (by simp) _
    refine (sameb_yes a1 a2 c1 c2 _ l _ rfl hm (h1.mono hB) (h2.mono hB)).mono ?_
    rintro e w' ⟨he, hb⟩
    exact ⟨he, hB.trans (hb.mono (by simp; omega))⟩
  have hs' := Lib.hid hs
  clear heq hs h1 h2 hm
  generalize l.length = n at *
  unfold millV
  go_enter Tryd.func9, Tryd.ntmps9
  go_wp2_with (go_at_call 10; refine (hs'.out _ _).mono ?_; rintro e w' ⟨rfl, hb⟩; have hb' := Lib.hid hb; clear hb)
  go_ret
  exact ⟨rfl, hb'.out⟩
end Go.Proofs.YtdlblhoaddfanaaDoor
namespace Go.Proofs.YtdlblhoaddfanaaDoor
open Go.RowKit Go.YtdlblhoaddfanaaDoor
set_option linter.unusedVariables false
/-- The two listed variables. -/
def GlO (Tg Tf : TypeId) (w : World) : Prop := w.heap[2]? = some (.cells (u32s constW) Tg (0, 0)) ∧ w.heap[0]? = some (.cells firstW.cells Tf (0, 0))
theorem GlO.mono {Tg Tf : TypeId} {w w' : World} (h : GlO Tg Tf w) (hb : Below w.heap.size w w') : GlO Tg Tf w' :=
  ⟨(hb.block _ (Array.getElem?_eq_some_iff.1 h.1).1).trans h.1, (hb.block _ (Array.getElem?_eq_some_iff.1 h.2).1).trans h.2⟩
theorem blocksF_ok (v : V8) (l : List Int) (hv : v.ok) : (blocksF v l).ok := by unfold blocksF; exact grindN_ok _ _ _ hv
end Go.Proofs.YtdlblhoaddfanaaDoor

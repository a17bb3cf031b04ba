/- Texts that the row stands on, part 2. -/
import Derived.Test.YtdlblhoaddfanaaDoorRMillsDq01
import Derived.Deep.CutBlock
namespace Go.Proofs.YtdlblhoaddfanaaDoor
open Go.RowKit Go.YtdlblhoaddfanaaDoor
set_option linter.unusedVariables false
theorem rdW_new (w : World) (g : Nat) (x : Int) (T : TypeId) (h : w.heap[g]? = some (.cells #[.int .u32 x] T (0, 0))) : RdW w (.slice (some ⟨g, 0, none⟩) 1 1) [x] := .inr ⟨g, 0, 1, rfl, Nat.le_refl _, by decide, (Array.getElem?_eq_some_iff.1 h).1, fun i hi => by
  have hi0 : i = 0 := by simpa using hi
  subst hi0
  rw [Nat.zero_add, cell_of_row _ _ _ _ _ _ h]; rfl⟩
theorem below_lit (w : World) (o : Obj) : Below w.heap.size w (w.alloc o).drew := ((Draws.refl _).drewN 1).below ((Below.refl _ _).alloc (Nat.le_refl _) o)
theorem rturn_int (x n : Int) (w : World) (hx : In32 x) (h : 1 ≤ n) (h2 : n ≤ 31) :
    Calls Tryd.prog 38 #[.int .u32 x, .int .i64 n] w fun e w' => e = .returned (.int .u32 (rotr x n)) ∧ ∃ m, w' = w.drewN m := by
  obtain ⟨n, rfl⟩ := Int.eq_ofNat_of_zero_le (show 0 ≤ n by omega)
  exact rturn_any x n w hx.1 hx.2 (by omega) (by omega)
def nextV (a0 a9 a1 a14 : Int) : Int := (((a0 + a9) % 4294967296 + sig0 a1) % 4294967296 + sig1 a14) % 4294967296
theorem nextW_at (x : List Int) (k : Nat) (h : x.length = k + 16) : nextW x = nextV (ith x k) (ith x (k + 9)) (ith x (k + 1)) (ith x (k + 14)) := by
  have e : nextV (ith x k) (ith x (k + 9)) (ith x (k + 1)) (ith x (k + 14)) = (ith x k + ith x (k + 9) + sig0 (ith x (k + 1)) + sig1 (ith x (k + 14))) % 4294967296 := by unfold nextV; omega
  rw [e]; unfold nextW
  rw [h, show k + 16 - 16 = k by omega, show k + 16 - 7 = k + 9 by omega, show k + 16 - 15 = k + 1 by omega, show k + 16 - 2 = k + 14 by omega]
set_option maxRecDepth 100000 in
set_option maxHeartbeats 0 in
theorem rground_any (v : V8) (b o n c : Nat) (l : List Int) (w : World) (hv : v.ok) (hn : 64 ≤ n) (hnc : n ≤ c) (hcm : c ≤ maxLen) (hl : Bytes l)
    (hcell : ∀ i, i < 64 → w.cell? ⟨b, o + i, none⟩ = some (.int .u8 (ith l i))) :
    Calls Tryd.prog 32 #[.agg v.cells, .slice (some ⟨b, o, none⟩) n c] w fun e w' => e = .returned (.agg (groundF v l).cells) ∧ Below w.heap.size w w' := by
  have hbl : b < w.heap.size := World.block_lt_of_cell? _ _ (hcell 0 (by omega))
  unfold maxLen at hcm
  have hcell' := Lib.hid hcell; clear hcell
  have hl' := Lib.hid hl; clear hl
  unfold V8.cells
  go_enter Tryd.func32, Tryd.ntmps32
  go_wp2
  have k1 := Lib.hid ((hp1 (w.alloc (.cells (u32s v.list) 23)) (.cells (u32s [0, 0, 0, 0, 0, 0, 0, 0]) 23) w.heap.size (by simp)).trans (heap_alloc_new w _))
  have k2 := Lib.hid (hn2 w (.cells (u32s v.list) 23) (.cells (u32s [0, 0, 0, 0, 0, 0, 0, 0]) 23))
  have kB := Lib.hid (show Below w.heap.size w ((w.alloc (.cells (u32s v.list) 23)).alloc (.cells (u32s [0, 0, 0, 0, 0, 0, 0, 0]) 23)) from ((Below.refl _ _).alloc (Nat.le_refl _) _).alloc (by simp) _)
  have kz : ((w.alloc (.cells (u32s v.list) 23)).alloc (.cells (u32s [0, 0, 0, 0, 0, 0, 0, 0]) 23)).heap.size = w.heap.size + 2 := by simp
  change Code.wp _ _ _ _ ((w.alloc (.cells (u32s v.list) 23)).alloc (.cells (u32s [0, 0, 0, 0, 0, 0, 0, 0]) 23))
  generalize (w.alloc (.cells (u32s v.list) 23)).alloc (.cells (u32s [0, 0, 0, 0, 0, 0, 0, 0]) 23) = W at *
  go_loopw [5, 6] (fun s i wr => ∃ k : Nat, k ≤ 16 ∧ i = .int .i64 (k : Int) ∧ OwnW W.heap.size 22 wr s (wordsOf l k) ∧ Below W.heap.size W wr) (fun _ i _ => 16 - (intOf i).toNat)
  case atStart => exact ⟨0, by omega, rfl, OwnW.nil _ _ _, Below.refl _ _⟩
  case round =>
    obtain ⟨k, hk, rfl, ho, hb⟩ := hrel
    obtain ⟨sa, sc, rfl⟩ := ho.rd.slice
    have hlen := wordsOf_length l k
    by_cases hlt : k < 16
    · have hq : ∀ j, j < 4 → wr.cell? ⟨b, o + (4 * k + j), none⟩ = some (.int .u8 (ith l (4 * k + j))) := fun j hj => by
        rw [hb.cell (p := ⟨b, o + (4 * k + j), none⟩) (by rw [kz]; exact Nat.lt_of_lt_of_le hbl (by omega)), kB.out.cell (p := ⟨b, o + (4 * k + j), none⟩) hbl]; exact hcell'.out _ (by omega)
      have q0 := hq 0 (by omega); have q1 := hq 1 (by omega); have q2 := hq 2 (by omega); have q3 := hq 3 (by omega)
      rw [Nat.add_zero] at q0
      obtain ⟨a0, a1⟩ := hl'.out (4 * k); obtain ⟨b0, b1⟩ := hl'.out (4 * k + 1); obtain ⟨c0, c1⟩ := hl'.out (4 * k + 2); obtain ⟨d0, d1⟩ := hl'.out (4 * k + 3)
      have hws : wordsOf l (k + 1) = wordsOf l k ++ [word4 (ith l (4 * k)) (ith l (4 * k + 1)) (ith l (4 * k + 2)) (ith l (4 * k + 3))] := rfl
      have ho' := Lib.hid ho; have hb' := Lib.hid hb; have hzw := hb.size; have hws' := Lib.hid hws
      clear ho hb hq hws
      have m3 : 4 * k + 3 < 64 := by omega
      have x0 : IntKind.i64.wrap (4 * (k : Int)) = ((4 * k : Nat) : Int) := by rw [IntWalk.i64_in _ (by omega)]; omega
      generalize 4 * k = m at *
      have x1 : IntKind.i64.wrap ((m : Int) + 1) = (m : Int) + 1 := IntWalk.i64_in _ (by omega)
      have x2 : IntKind.i64.wrap ((m : Int) + 2) = (m : Int) + 2 := IntWalk.i64_in _ (by omega)
      have x3 : IntKind.i64.wrap ((m : Int) + 3) = (m : Int) + 3 := IntWalk.i64_in _ (by omega)
      have y0 : (m : Int) < n := by omega
      have y1 : (m : Int) + 1 < n := by omega
      have y2 : (m : Int) + 2 < n := by omega
      have y3 : (m : Int) + 3 < n := by omega
      have z1 : 0 ≤ (m : Int) + 1 := by omega
      have z2 : 0 ≤ (m : Int) + 2 := by omega
      have z3 : 0 ≤ (m : Int) + 3 := by omega
      have t1 : ((m : Int) + 1).toNat = m + 1 := by omega
      have t2 : ((m : Int) + 2).toNat = m + 2 := by omega
      have t3 : ((m : Int) + 3).toNat = m + 3 := by omega
      have e0 : IntKind.u32.wrap (ith l m) = ith l m := IntWalk.u32_in _ (by omega)
      have e1 : IntKind.u32.wrap (ith l (m + 1)) = ith l (m + 1) := IntWalk.u32_in _ (by omega)
      have e2 : IntKind.u32.wrap (ith l (m + 2)) = ith l (m + 2) := IntWalk.u32_in _ (by omega)
      have e3 : IntKind.u32.wrap (ith l (m + 3)) = ith l (m + 3) := IntWalk.u32_in _ (by omega)
      have e4 : IntKind.u32.wrap (ith l m * 256) = ith l m * 256 := IntWalk.u32_in _ (by omega)
      have e5 : IntKind.u32.wrap (ith l m * 256 + ith l (m + 1)) = ith l m * 256 + ith l (m + 1) := IntWalk.u32_in _ (by omega)
      have e6 : IntKind.u32.wrap ((ith l m * 256 + ith l (m + 1)) * 256) = (ith l m * 256 + ith l (m + 1)) * 256 := IntWalk.u32_in _ (by omega)
      have e7 : IntKind.u32.wrap ((ith l m * 256 + ith l (m + 1)) * 256 + ith l (m + 2)) = (ith l m * 256 + ith l (m + 1)) * 256 + ith l (m + 2) := IntWalk.u32_in _ (by omega)
      have e8 : IntKind.u32.wrap (((ith l m * 256 + ith l (m + 1)) * 256 + ith l (m + 2)) * 256) = ((ith l m * 256 + ith l (m + 1)) * 256 + ith l (m + 2)) * 256 := IntWalk.u32_in _ (by omega)
      have e9 : IntKind.u32.wrap (((ith l m * 256 + ith l (m + 1)) * 256 + ith l (m + 2)) * 256 + ith l (m + 3)) = word4 (ith l m) (ith l (m + 1)) (ith l (m + 2)) (ith l (m + 3)) := by
        rw [IntWalk.u32_in _ (by omega)]; unfold word4; omega
      have hlen' := Lib.hid hlen
      rw [hlen] at ho' ⊢
      generalize word4 (ith l m) (ith l (m + 1)) (ith l (m + 2)) (ith l (m + 3)) = X at *
      clear a0 a1 b0 b1 c0 c1 d0 d1 hlen
      have fin : Hid (∀ v' w', OwnW W.heap.size 22 w' v' (wordsOf l k ++ [X]) → ((wr.alloc (.cells #[.int .u32 X] 22)).drew).grownBy w' (Value.slice sa k sc).ownBlock → ∃ va vc, v' = .slice va (k + 1) vc ∧ OwnW W.heap.size 22 w' v' (wordsOf l (k + 1)) ∧ Below W.heap.size W w') := Lib.hid (by
        intro v' w' h1 h2
        rw [← hws'.out] at h1
        obtain ⟨va, vc, hv'⟩ := h1.rd.slice
        rw [wordsOf_length] at hv'
        exact ⟨va, vc, hv', h1, hb'.out.trans (((below_lit wr _).mono hzw).trans ((ho'.out.kept (below_lit wr _)).below h2 (by simp; omega)))⟩)
      go_wp2
      have kk : Hid (∀ w', Below W.heap.size W w' → w'.cell? ⟨b, o + m, none⟩ = some (.int .u8 (ith l m)) ∧ w'.cell? ⟨b, o + (m + 1), none⟩ = some (.int .u8 (ith l (m + 1))) ∧ w'.cell? ⟨b, o + (m + 2), none⟩ = some (.int .u8 (ith l (m + 2))) ∧ w'.cell? ⟨b, o + (m + 3), none⟩ = some (.int .u8 (ith l (m + 3)))) := Lib.hid (fun w' h => by
        refine ⟨?_, ?_, ?_, ?_⟩ <;> (rw [h.cell (p := ⟨b, _, none⟩) (show b < _ by rw [kz]; omega), ← hb'.out.cell (p := ⟨b, _, none⟩) (show b < _ by rw [kz]; omega)]; assumption))
      go_region_held3 (fun w' => w'.cell? ⟨b, o + m, none⟩ = some (.int .u8 (ith l m)) ∧ w'.cell? ⟨b, o + (m + 1), none⟩ = some (.int .u8 (ith l (m + 1))) ∧ w'.cell? ⟨b, o + (m + 2), none⟩ = some (.int .u8 (ith l (m + 2))) ∧ w'.cell? ⟨b, o + (m + 3), none⟩ = some (.int .u8 (ith l (m + 3))))
        (first | (exact kk.out _ h4'.out) | go_keep)
        ((refine step_appendW (by rfl) _ _ 68 (by rfl) W.heap.size 22 Tryd.underlying68 (by kernel_rfl) (.slice sa k sc) (by rfl) (wordsOf l k) (ho'.out.kept (below_lit wr (.cells #[.int .u32 X] 22))) (.slice (some ⟨wr.heap.size, 0, none⟩) 1 1) (by rfl) [X] (rdW_new _ _ _ _ (heap_alloc_new wr _)) (by rw [hlen'.out]; simp; omega) (by simp; omega) ?_; intro v' w' h1 h2; obtain ⟨va, vc, rfl, h3, h4⟩ := fin.out v' w' h1 h2; have h3' := Lib.hid h3; have h4' := Lib.hid h4; clear h1 h2 h3 h4))
      go_wp2
      go_roundw
      case rel => exact ⟨k + 1, by omega, by go_num, h3'.out, h4'.out⟩
      case measure => simp [intOf]; omega
    · obtain rfl : k = 16 := by omega
      generalize hL : wordsOf l 16 = L0 at *
      have hL32 := Lib.hid (show All32 L0 by rw [← hL]; exact wordsOf_in l hl'.out 16)
      have hLl := Lib.hid hlen
      rw [hlen]
      have hL' := Lib.hid hL
      clear hL hlen
      rw [show (((16 : Nat) : Int)) = 16 from rfl]
      rw [hLl.out] at ho
      go_wp2
      go_loopw [5, 7, 8, 9] (fun s i _ _ wr => ∃ k : Nat, k ≤ 48 ∧ i = .int .i64 (k + 16 : Nat) ∧ OwnW W.heap.size 22 wr s (extW L0 k) ∧ Below W.heap.size W wr) (fun _ i _ _ _ => 64 - (intOf i).toNat)
      case atStart => exact ⟨0, by omega, rfl, ho, hb⟩
      case round =>
        clear ho hb
        obtain ⟨k, hk, rfl, ho, hb⟩ := hrel
        have hxl : (extW L0 k).length = k + 16 := by rw [extW_length, hLl.out]; omega
        have hx32 : All32 (extW L0 k) := extW_in L0 hL32.out k
        have hxs : extW L0 (k + 1) = extW L0 k ++ [nextW (extW L0 k)] := rfl
        rw [nextW_at _ _ hxl] at hxs
        rcases ho.rd with ⟨qa, qc, rfl, _, h0⟩ | ⟨b', o', c', rfl, hc1, hc2, hb', hcl⟩
        · rw [h0] at hxl; simp at hxl
        by_cases hlt : k < 48
        · have c0 := hcl k (by omega); have c1 := hcl (k + 1) (by omega); have c9 := hcl (k + 9) (by omega); have c14 := hcl (k + 14) (by omega)
          have A1 := Lib.hid (hx32 (k + 1)); have A14 := Lib.hid (hx32 (k + 14))
          have hxs' := Lib.hid hxs; have ho' := Lib.hid ho; have hb1 := Lib.hid hb; have hxl' := Lib.hid hxl
          have hzw := hb.size
          rw [hxl] at ho' ⊢
          clear hxs ho hb hxl hcl hx32
          generalize ith (extW L0 k) k = a0 at *
          generalize ith (extW L0 k) (k + 1) = a1 at *
          generalize ith (extW L0 k) (k + 9) = a9 at *
          generalize ith (extW L0 k) (k + 14) = a14 at *
          generalize hy : extW L0 (k + 1) = y at *
          have hy' := Lib.hid hy; clear hy
          generalize extW L0 k = x at *
          unfold maxLen at hc2
          go_wp2
          go_quiet (fail)
          go_wp2
          generalize ht : k + 16 = t at *
          generalize h9 : k + 9 = k9 at *
          have e1 : IntKind.i64.wrap ((t : Int) - 16) = (k : Int) := by rw [IntWalk.i64_in _ (by omega)]; omega
          have e2 : IntKind.i64.wrap ((t : Int) - 7) = (k9 : Int) := by rw [IntWalk.i64_in _ (by omega)]; omega
          have b1 : (k : Int) < (t : Int) := by omega
          have b2 : (k9 : Int) < (t : Int) := by omega
          have b5 : t < 64 := by omega
          have b3 : (0 : Int) ≤ (k : Int) := by omega
          have b4 : (0 : Int) ≤ (k9 : Int) := by omega
          have ht' := Lib.hid ht; have h9' := Lib.hid h9
          clear ht h9
          have r1 : Hid (∀ (n : Int) (w : World), 1 ≤ n → n ≤ 31 → Calls Tryd.prog 38 #[.int .u32 a1, .int .i64 n] w fun e w' => e = .returned (.int .u32 (rotr a1 n)) ∧ ∃ m, w' = w.drewN m) := Lib.hid (fun n w h h2 => rturn_int a1 n w A1.out h h2)
          have r14 : Hid (∀ (n : Int) (w : World), 1 ≤ n → n ≤ 31 → Calls Tryd.prog 38 #[.int .u32 a14, .int .i64 n] w fun e w' => e = .returned (.int .u32 (rotr a14 n)) ∧ ∃ m, w' = w.drewN m) := Lib.hid (fun n w h h2 => rturn_int a14 n w A14.out h h2)
          have fin : Hid (∀ v' w0 w', Below wr.heap.size wr w0 → OwnW W.heap.size 22 w' v' (x ++ [nextV a0 a9 a1 a14]) → w0.grownBy w' (Value.slice (some ⟨b', o', none⟩) t c').ownBlock → ∃ va vc, v' = .slice va (t + 1) vc ∧ OwnW W.heap.size 22 w' v' y ∧ Below W.heap.size W w') := Lib.hid (by
            intro v' w0 w' h0 h1 h2
            obtain ⟨va, vc, hv'⟩ := h1.rd.slice
            rw [List.length_append, hxl'.out] at hv'
            exact ⟨va, vc, hv', by rw [hxs'.out]; exact h1, hb1.out.trans ((h0.mono hzw).trans ((ho'.out.kept h0).below h2 (Nat.le_trans hzw h0.size)))⟩)
          refine wp_region_headN (C := fun w' => ∃ n, w' = wr.drewN n) 30 [0] (by kernel_rfl) (by kernel_rfl) ⟨_, drewN_next _ _⟩ ?_
          simp only [List.take_succ_cons, List.take_zero, List.drop_succ_cons, List.drop_zero]
          refine head_pure (.slice (some ⟨b', o', none⟩) t c') (by rfl) (run_move _ rfl (by rfl)) rfl (fun K hK => ?_); go_simp; refine hK _ ?_; clear hK K
          repeat (refine head_walk (by rfl) (fun K hK => ?_); go_simp; first | (refine hK _ ?_; clear hK K) | (apply Exists.intro; refine ⟨fun _ => ?_, hK _ ?_⟩; (go_at_call 38; first | ((with_reducible refine Calls.quiet_of (r1.out _ _ ?_ ?_)) <;> decide) | ((with_reducible refine Calls.quiet_of (r14.out _ _ ?_ ?_)) <;> decide)); clear hK K))
          refine head_nil ?_
          intro w' hw'
          obtain ⟨nz, rfl⟩ := hw'
          have hbz := Lib.hid (show Below wr.heap.size wr ((wr.drewN nz).alloc (.cells #[.int .u32 (nextV a0 a9 a1 a14)] 22)) from (((Draws.refl _).drewN nz).below (Below.refl _ _)).alloc (by simp) _)
          have hrdz := Lib.hid (show RdW ((wr.drewN nz).alloc (.cells #[.int .u32 (nextV a0 a9 a1 a14)] 22)) (.slice (some ⟨wr.heap.size, 0, none⟩) 1 1) [nextV a0 a9 a1 a14] from rdW_new _ _ _ _ (heap_alloc_new (wr.drewN nz) _))
          go_wp2_with (go_loud (refine appendW rfl _ _ 68 rfl W.heap.size 22 Tryd.underlying68 (by kernel_rfl) (.slice (some ⟨b', o', none⟩) t c') (by rfl) x (ho'.out.kept hbz.out) (.slice (some ⟨wr.heap.size, 0, none⟩) 1 1) (by rfl) [nextV a0 a9 a1 a14] hrdz.out (by rw [hxl'.out]; simp; omega) (Nat.le_trans hzw hbz.out.size) ?_))
          intro v' w' h1 h2
          rw [← kz] at h1
          have h2 := show ((wr.drewN nz).alloc (.cells #[.int .u32 ((a0 + a9 + sig0 a1 + sig1 a14) % 4294967296)] 22)).grownBy w' (Value.slice (some ⟨b', o', none⟩) t c').ownBlock from h2
          rw [show (a0 + a9 + sig0 a1 + sig1 a14) % 4294967296 = nextV a0 a9 a1 a14 by unfold nextV; omega] at h2
          obtain ⟨va, vc, rfl, h3, h4⟩ := fin.out v' _ w' hbz.out h1 h2
          have h3' := Lib.hid h3; have h4' := Lib.hid h4
          clear h1 h2 h3 h4
          refine Stop.go ?_
          go_wp2
          refine NoPanic.normal ?_
          go_wp2
          go_roundw
          case rel => exact ⟨k + 1, by omega, by rw [show k + 1 + 16 = t + 1 by have := ht'.out; omega]; go_num, by rw [hy'.out]; exact h3'.out, h4'.out⟩
          case measure => have := ht'.out; simp [intOf]; omega
        · have hk48 : k = 48 := by omega
          subst hk48
          have hws : extW L0 48 = spreadF l := by rw [← hL'.out]; rfl
          rw [hws] at hcl hxl hxs ho ⊢
          have hsl := spreadF_length l
          have hs32 := Lib.hid (spreadF_in l hl'.out)
          rw [hws, hsl] at hc1
          rw [hsl] at hcl ⊢
          have hG : groundF v l = v.add (rounds constW (spreadF l) v 64) := rfl
          have hG' := Lib.hid hG
          generalize spreadF l = ws at *
          have hcl' := Lib.hid hcl; have hsl' := Lib.hid hsl; have hb1 := Lib.hid hb; have hL1 := Lib.hid hL'
          have hzw := hb.size
          clear hcl hsl hG ho hb hxl hxs hx32 hws hL'
          rw [show (((48 + 16 : Nat) : Int)) = 64 from rfl]
          have q1 := Lib.hid ((hb1.out.block w.heap.size (by omega)).trans k1.out)
          have q2 := Lib.hid ((hb1.out.block (w.heap.size + 1) (by omega)).trans k2.out)
          have hBw := Lib.hid (kB.out.trans (hb1.out.mono (by omega)))
          have hzr : w.heap.size + 1 < wr.heap.size := by omega
          clear hb1 kB k1 k2 kz
          go_wp2_with (go_at_call 39; refine (rconst_any _).mono ?_; rintro e w1 ⟨rfl, rfl⟩; refine Stop.go'' _ ?_)
          refine StopP.go ?_
          have hc64 : constW.length = 64 := by rfl
          have r1 := Lib.hid ((hp1 wr (.cells (u32s constW) 22) w.heap.size (by omega)).trans q1.out)
          have r2 := Lib.hid ((hp1 wr (.cells (u32s constW) 22) (w.heap.size + 1) (by omega)).trans q2.out)
          have r3 := Lib.hid (heap_alloc_new wr (.cells (u32s constW) 22))
          have hBx := Lib.hid (hBw.out.alloc (by omega) (.cells (u32s constW) 22))
          have hclx := Lib.hid (fun i hi => ((Below.refl wr.heap.size wr).alloc (Nat.le_refl _) (.cells (u32s constW) 22)).cell (p := ⟨b', o' + i, none⟩) hb' |>.trans (hcl'.out i hi))
          have hzx : (wr.alloc (.cells (u32s constW) 22)).heap.size = wr.heap.size + 1 := by simp
          generalize wr.alloc (.cells (u32s constW) 22) = wx at *
          generalize hgC : wr.heap.size = gC at *
          have hgC' := Lib.hid hgC
          have hzx' := Lib.hid hzx
          have hzx2 : gC < wx.heap.size := by omega
          clear q1 q2 hBw hcl' hgC hzx
          go_wp2_with (first | (refine wpList_load_row rfl 23 _ rfl w.heap.size rfl 23 _ _ _ r1.out Tryd.underlying23 rfl (by kernel_rfl) ?_) | (refine storeNew wx rfl 23 _ _ rfl (u32s v.list) 23 rfl rfl (by kernel_rfl) (by simp [u32s, V8.list]) (u32s_one _) ?_; intro wy hr hby; have r4 := Lib.hid hr; have hby' := Lib.hid hby; clear hr hby; refine Stop.go'' _ ?_))
          refine StopP.go ?_
          have q1 := Lib.hid ((hby'.out.block w.heap.size (by omega)).trans r1.out)
          have q2 := Lib.hid ((hby'.out.block (w.heap.size + 1) (by omega)).trans r2.out)
          have q3 := Lib.hid ((hby'.out.block gC (by omega)).trans r3.out)
          have hcly := Lib.hid (fun i hi => (hby'.out.cell (p := ⟨b', o' + i, none⟩) (show b' < wx.heap.size by omega)).trans (hclx.out i hi))
          have hBy := Lib.hid (hBx.out.trans (hby'.out.mono (by omega)))
          have hzy : wx.heap.size < wy.heap.size := (Array.getElem?_eq_some_iff.1 r4.out).1
          clear r1 r2 r3 hclx hBx hby'
          generalize hgV : wx.heap.size = gV at *
          clear hzx' hgV hgC' wx
          have hRok := fun k => rounds_ok constW ws v k hv
          have hRs : ∀ k, rounds constW ws v (k + 1) = shaStep (rounds constW ws v k) (ith constW k) (ith ws k) := fun k => rfl
          have hck : ∀ k, k < 64 → wy.cell? ⟨gC, k, none⟩ = some (.int .u32 (ith constW k)) := fun k hk => by rw [cell_of_row _ _ _ _ _ _ q3.out]; exact u32s_get _ _ (by rw [hc64]; exact hk)
          have hR0 : rounds constW ws v 0 = v := rfl
          have hR0' := Lib.hid hR0; have hRok' := Lib.hid hRok; have hRs' := Lib.hid hRs; have hck' := Lib.hid hck
          clear hR0 hRok hRs hck q3 hc64
          generalize constW = cs at *
          generalize hR : (fun k => rounds cs ws v k) = R
          have hRR : ∀ k, rounds cs ws v k = R k := fun k => by rw [← hR]
          have hRR' := Lib.hid hRR
          clear hR hRR
          go_wp2
          go_loopw [12] (fun i wz => ∃ k : Nat, k ≤ 64 ∧ i = .int .i64 (k : Int) ∧ Below gV wy wz ∧ wz.heap[gV]? = some (.cells (u32s (R k).list) 23 (0, 0))) (fun i _ => 64 - (intOf i).toNat)
          case atStart => exact ⟨0, by omega, rfl, Below.refl _ _, by rw [← hRR'.out, hR0'.out]; exact r4.out⟩
          case round =>
            clear r4
            obtain ⟨k, hk, rfl, hbz, hrow⟩ := hrel
            by_cases hlt : k < 64
            · have hok := hRok'.out k
              rw [hRR'.out] at hok
              have A0 := Lib.hid hok.1; have E0 := Lib.hid hok.2.2.2.2.1
              obtain ⟨⟨_, _⟩, ⟨_, _⟩, ⟨_, _⟩, ⟨_, _⟩, ⟨_, _⟩, ⟨_, _⟩, ⟨_, _⟩, ⟨_, _⟩⟩ := hok
              obtain ⟨c0, c1, c2, c3, c4, c5, c6, c7⟩ := cells8 hrow
              have ck := (hbz.cell (p := ⟨gC, k, none⟩) (show gC < gV by omega)).trans (hck'.out k hlt)
              have cw := (hbz.cell (p := ⟨b', o' + k, none⟩) (show b' < gV by omega)).trans (hcly.out k (by omega))
              have i1 : (0 : Int) ≤ (k : Int) := by omega
              have i2 : (k : Int) < 64 := by omega
              have hS := hRs'.out k
              rw [hRR'.out, hRR'.out] at hS
              have hS' := Lib.hid hS; have hbz' := Lib.hid hbz; have hrow' := Lib.hid hrow
              clear hS hbz hrow
              go_wp2
              go_quiet (fail)
              go_wp2
              go_quiet (((go_at_call 38; (with_reducible refine quiet_of2 (rturn_int _ _ _ E0.out ?_ ?_)) <;> decide)))
              have hmx : (if IntKind.u32.signed = true then (-1 : Int) else IntKind.u32.max) = IntKind.u32.max := if_neg (by decide)
              generalize hP : ((((R k).h + bits BinOp.xor IntKind.u32 (bits BinOp.xor IntKind.u32 (rotr (R k).e 6) (rotr (R k).e 11)) (rotr (R k).e 25) + bits BinOp.xor IntKind.u32 (bits BinOp.and IntKind.u32 (R k).e (R k).f) (bits BinOp.and IntKind.u32 (bits BinOp.xor IntKind.u32 (if IntKind.u32.signed = true then (-1 : Int) else IntKind.u32.max) (R k).e) (R k).g) + ith cs k) % 4294967296 + ith ws k) % 4294967296) = pp
              have hPP := Lib.hid (show pp = pOf (R k) (ith cs k) (ith ws k) by rw [← hP, hmx]; unfold pOf; omega)
              clear hP hmx
              generalize hWq : (wr.drewN _).drewN _ = wq
              have d3 : wq.cell? ⟨gV, 3, none⟩ = some (.int .u32 (R k).d) := by rw [← hWq]; exact c3
              have hroq := Lib.hid (show wq.heap[gV]? = some (.cells (u32s (R k).list) 23 (0, 0)) by rw [← hWq]; exact hrow'.out)
              have hbq := Lib.hid (show Below gV wy wq by rw [← hWq]; exact (((Draws.refl wr).drewN _).drewN _).below hbz'.out)
              clear hWq c0 c1 c2 c3 c4 c5 c6 c7 ck cw hrow' hbz'
              go_upto_region 19 with (go_at_call 38; (with_reducible refine (rturn_int _ _ _ A0.out (by decide) (by decide)).mono ?_); rintro e w' ⟨rfl, ⟨nn, rfl⟩⟩)
              generalize hQ : ((bits BinOp.xor IntKind.u32 (bits BinOp.xor IntKind.u32 (rotr (R k).a 2) (rotr (R k).a 13)) (rotr (R k).a 22) + bits BinOp.xor IntKind.u32 (bits BinOp.xor IntKind.u32 (bits BinOp.and IntKind.u32 (R k).a (R k).b) (bits BinOp.and IntKind.u32 (R k).a (R k).c)) (bits BinOp.and IntKind.u32 (R k).b (R k).c)) % 4294967296) = qq
              have hQQ : qq = qOf (R k) := by rw [← hQ]; rfl
              have hX := Lib.hid (show R (k + 1) = V8.mk ((pp + qq) % 4294967296) (R k).a (R k).b (R k).c (((R k).d + pp) % 4294967296) (R k).e (R k).f (R k).g by rw [hS'.out, hPP.out, hQQ]; rfl)
              clear hQ hQQ hPP hS' A0 E0
              generalize hWr : wq.drewN _ = wr2
              have d3 : wr2.cell? ⟨gV, 3, none⟩ = some (.int .u32 (R k).d) := by rw [← hWr]; exact d3
              have hror := Lib.hid (show wr2.heap[gV]? = some (.cells (u32s (R k).list) 23 (0, 0)) by rw [← hWr]; exact hroq.out)
              have hbr := Lib.hid (show Below gV wy wr2 by rw [← hWr]; exact ((Draws.refl wq).drewN _).below hbq.out)
              clear hWr hroq hbq
              go_wp2_with (refine wpList_store_row rfl 23 _ _ rfl gV (V8.mk ((pp + qq) % 4294967296) (R k).a (R k).b (R k).c (((R k).d + pp) % 4294967296) (R k).e (R k).f (R k).g).cells rfl rfl 23 _ hror.out (by kernel_rfl) (by simp [u32s, V8.list, V8.cells]) (by simp [V8.cells, Value.oneCell']) ?_)
              go_roundw
              case rel =>
                have h := setRow_heap _ _ _ (V8.mk ((pp + qq) % 4294967296) (R k).a (R k).b (R k).c (((R k).d + pp) % 4294967296) (R k).e (R k).f (R k).g).cells _ _ hror.out
                exact ⟨k + 1, by omega, by go_num, below_setRow' hbr.out (Nat.le_refl _) _, by rw [hX.out]; exact h⟩
              case measure => simp [intOf]; omega
            · have hk64 : k = 64 := by omega
              subst hk64
              have z1 := Lib.hid ((hbz.block w.heap.size (by omega)).trans q1.out)
              have z2 := Lib.hid ((hbz.block (w.heap.size + 1) (by omega)).trans q2.out)
              have z3 := Lib.hid hrow
              have hBz := Lib.hid (hBy.out.trans (hbz.mono (by omega)))
              have hV := hG'.out
              rw [hRR'.out] at hV
              have hV' := Lib.hid hV
              clear hbz hrow q1 q2 hcly hBy hck' hRs' hRok' hR0' hRR' hV hG' hzy hb' hzw
              generalize R 64 = V at *
              rw [show (((64 : Nat) : Int)) = 64 from rfl]
              go_wp2
              go_loopw [21] (fun i wz => ∃ k : Nat, k ≤ 8 ∧ i = .int .i64 (k : Int) ∧ Below w.heap.size w wz ∧ wz.heap[w.heap.size]? = some (.cells (u32s (addN v.list V.list k)) 23 (0, 0)) ∧ wz.heap[w.heap.size + 1]? = some (.cells (u32s [0, 0, 0, 0, 0, 0, 0, 0]) 23 (0, 0)) ∧ wz.heap[gV]? = some (.cells (u32s V.list) 23 (0, 0))) (fun i _ => 8 - (intOf i).toNat)
              case atStart => exact ⟨0, by omega, rfl, hBz.out, z1.out, z2.out, z3.out⟩
              case round =>
                clear z1 z2 z3 hBz
                obtain ⟨k, hk, rfl, hb, h0, h2, h3⟩ := hrel
                by_cases hlt : k < 8
                · have ch : wr.cell? ⟨w.heap.size, k, none⟩ = some (.int .u32 (ith (addN v.list V.list k) k)) := by
                    rw [cell_of_row _ _ _ _ _ _ h0]; exact u32s_get _ k (by rw [addN_length]; exact hlt)
                  have cv : wr.cell? ⟨gV, k, none⟩ = some (.int .u32 (ith V.list k)) := by
                    rw [cell_of_row _ _ _ _ _ _ h3]; exact u32s_get _ k hlt
                  have hf : wr.frozen? ⟨w.heap.size, k, none⟩ = false := frozen_of_row _ _ _ _ _ h0
                  have hn := setCell_row h0 k (.int .u32 ((ith (addN v.list V.list k) k + ith V.list k) % 4294967296))
                  rw [u32s_set] at hn
                  have hn2 := (setCell_rows (w := wr) w.heap.size k (.int .u32 ((ith (addN v.list V.list k) k + ith V.list k) % 4294967296)) (w.heap.size + 1) (by omega)).trans h2
                  have hn3 := (setCell_rows (w := wr) w.heap.size k (.int .u32 ((ith (addN v.list V.list k) k + ith V.list k) % 4294967296)) gV (by omega)).trans h3
                  have i1 : (0 : Int) ≤ (k : Int) := by omega
                  have i2 : (k : Int) < 8 := by omega
                  have hn' := Lib.hid hn; have hn2' := Lib.hid hn2; have hn3' := Lib.hid hn3; have hb' := Lib.hid hb
                  clear hn hn2 hn3 h0 h2 h3 hb
                  go_wp2
                  go_still_tail 8, (by kernel_rfl)
                  go_wp2
                  exact ⟨⟨k + 1, by omega, by go_num, (hb'.out.setCell (Nat.le_refl _) _).drew, hn'.out, hn2'.out, hn3'.out⟩, by simp [intOf]; omega⟩
                · have hk8 : k = 8 := by omega
                  subst hk8
                  rw [addN_eight] at h0
                  have h0' := Lib.hid h0; have h2' := Lib.hid h2
                  clear h0 h2 h3
                  go_wp2_with (first | (refine wpList_load_row rfl 23 _ rfl w.heap.size rfl 23 _ _ _ h0'.out Tryd.underlying23 rfl (by kernel_rfl) ?_) | (refine storeRow rfl 23 _ _ rfl (w.heap.size + 1) rfl _ rfl 23 _ h2'.out (by kernel_rfl) (by simp [u32s, V8.list]) (u32s_one _) ?_))
                  try simp only [Exit.inBlock, Exit.then]
                  refine bodyPost_ret (v := .agg (v.add V).cells) (results_cell_row rfl _ _ (w.heap.size + 1) 23 _ _ _ rfl (setRow_heap _ _ _ _ _ _ h2'.out) Tryd.underlying23 rfl (by kernel_rfl)) rfl ⟨by rw [hV'.out]; rfl, below_setRow' hb (by omega) _⟩
end Go.Proofs.YtdlblhoaddfanaaDoor
namespace Go.Proofs.YtdlblhoaddfanaaDoor
open Go.RowKit Go.YtdlblhoaddfanaaDoor
set_option linter.unusedVariables false
theorem rground_lit (v G : V8) (b o n c : Nat) (l : List Int) (w : World) (hv : v.ok) (hG : groundF v l = G) (hn : 64 ≤ n) (hnc : n ≤ c) (hcm : c ≤ maxLen) (hl : Bytes l)
    (hcell : ∀ i, i < 64 → w.cell? ⟨b, o + i, none⟩ = some (.int .u8 (ith l i))) :
    Calls Tryd.prog 32 #[.agg #[.int .u32 v.a, .int .u32 v.b, .int .u32 v.c, .int .u32 v.d, .int .u32 v.e, .int .u32 v.f, .int .u32 v.g, .int .u32 v.h], .slice (some ⟨b, o, none⟩) n c] w
      fun e w' => e = .returned (.agg #[.int .u32 G.a, .int .u32 G.b, .int .u32 G.c, .int .u32 G.d, .int .u32 G.e, .int .u32 G.f, .int .u32 G.g, .int .u32 G.h]) ∧ Below w.heap.size w w' := by
  subst hG
  exact rground_any v b o n c l w hv hn hnc hcm hl hcell
set_option maxRecDepth 100000 in
set_option maxHeartbeats 1000000 in
theorem rblocks_some (v : V8) (b o c : Nat) (l : List Int) (w : World) (hv : v.ok) (hlc : l.length ≤ c) (hcm : c ≤ maxLen) (hl : Bytes l) (hbw : b < w.heap.size) (hlm : l.length ≤ 1000000)
    (hcell : ∀ i, i < l.length → w.cell? ⟨b, o + i, none⟩ = some (.int .u8 (ith l i))) :
    Calls Tryd.prog 24 #[.agg #[.int .u32 v.a, .int .u32 v.b, .int .u32 v.c, .int .u32 v.d, .int .u32 v.e, .int .u32 v.f, .int .u32 v.g, .int .u32 v.h], .slice (some ⟨b, o, none⟩) l.length c] w
     fun e w' => e = .returned (.agg (blocksF v l).cells) ∧ Below w.heap.size w w' := by
  have hcell' := Lib.hid hcell; have hl' := Lib.hid hl
  clear hcell hl
  unfold maxLen at hcm
  generalize hn : l.length = n at *
  have hn' := Lib.hid hn; clear hn
  generalize hR : (fun k => grindN v l k) = R
  have hRok : ∀ k, (R k).ok := by subst hR; exact fun k => grindN_ok v l k hv
  have hR0 : R 0 = v := by subst hR; rfl
  have hRs : ∀ k, R (k + 1) = groundF (R k) (l.drop (64 * k)) := by subst hR; intro k; rfl
  have hRok' := Lib.hid hRok; have hR0' := Lib.hid hR0; have hRs' := Lib.hid hRs; have hR' := Lib.hid hR
  clear hRok hR0 hRs hR
  go_enter Tryd.func24, Tryd.ntmps24
  go_wp2
  go_loopw [5] (fun s wr => ∃ k : Nat, 64 * k ≤ n ∧ s = .int .i64 ((64 * k : Nat) : Int) ∧ Below w.heap.size w wr ∧ wr.heap[w.heap.size]? = some (.cells (u32s (R k).list) 23 (0, 0)) ∧ wr.heap[w.heap.size + 1]? = some (.cells (u32s [0, 0, 0, 0, 0, 0, 0, 0]) 23 (0, 0))) (fun s _ => n + 64 - (intOf s).toNat)
  case atStart =>
    refine ⟨0, by omega, rfl, ((Below.refl _ _).alloc (Nat.le_refl _) _).alloc (by simp) _, ?_, hn2 w _ _⟩
    rw [hR0'.out]; exact (hp1 _ _ _ (by simp)).trans (heap_alloc_new w _)
  case round =>
    obtain ⟨k, hk, rfl, hb, h0, h1⟩ := hrel
    have h0' := Lib.hid h0; have h1' := Lib.hid h1; have hb' := Lib.hid hb
    have hzr : w.heap.size + 1 < wr.heap.size := (Array.getElem?_eq_some_iff.1 h1).1
    clear h0 h1 hb
    by_cases hlt : 64 * k + 64 ≤ n
    · have hg := rground_lit (R k) (R (k + 1)) b (o + 64 * k) 64 (c - 64 * k) (l.drop (64 * k))
      have hS := hRs'.out k
      have hcl : ∀ wz, Below w.heap.size w wz → ∀ i, i < 64 → wz.cell? ⟨b, o + 64 * k + i, none⟩ = some (.int .u8 (ith (l.drop (64 * k)) i)) := fun wz h i hi => by
        rw [h.cell (p := (⟨b, o + 64 * k + i, none⟩ : Addr)) hbw, ith_drop, Nat.add_assoc]; exact hcell'.out _ (by omega)
      have hg2 := Lib.hid (fun wz h => hg wz (hRok'.out k) hS.symm (Nat.le_refl _) (by omega) (by unfold maxLen; omega) (bytes_drop _ _ hl'.out) (hcl wz h))
      clear hg hS hcl
      obtain ⟨c0, c1, c2, c3, c4, c5, c6, c7⟩ := cells8 h0'.out
      generalize hm : 64 * k = m at *
      have hm' := Lib.hid hm; clear hm
      have x1 : IntKind.i64.wrap ((m : Int) + 64) = (m : Int) + 64 := IntWalk.i64_in _ (by omega)
      have x2 : (0 : Int) ≤ (m : Int) + 64 := by omega
      have x3 : (m : Int) + 64 ≤ (c : Int) := by omega
      have x4 : ((m : Int) + 64).toNat = m + 64 := by omega
      have x5 : (m : Int) ≤ (m : Int) + 64 := by omega
      have x6 : m + 64 - m = 64 := by omega
      have x7 : ¬ c = m := by omega
      have x8 : ¬ c - m = 0 := by omega
      have x9 : (m : Int) + 64 ≤ (n : Int) := by omega
      go_wp2
      refine wp_region_headN (C := fun w' => ∃ n, w' = wr.drewN n) 6 [] (by kernel_rfl) (by kernel_rfl) ⟨1, rfl⟩ ?_
      simp only [List.take_succ_cons, List.take_zero, List.drop_succ_cons, List.drop_zero]
      repeat (refine head_walk (by rfl) (fun K hK => ?_); go_simp; refine hK _ ?_; clear hK K)
      refine head_nil ?_
      intro w' hw'
      obtain ⟨nz, rfl⟩ := hw'
      clear x1 x2 x3 x4 x5 x6 x7 x8 x9 c0 c1 c2 c3 c4 c5 c6 c7
      have hbz := Lib.hid (((Draws.refl wr).drewN nz).below hb'.out)
      have z0 := Lib.hid (show (wr.drewN nz).heap[w.heap.size]? = _ from h0'.out); have z1 := Lib.hid (show (wr.drewN nz).heap[w.heap.size + 1]? = _ from h1'.out)
      have hzz : w.heap.size + 1 < (wr.drewN nz).heap.size := hzr
      clear h0' h1' hb' hzr
      generalize wr.drewN nz = wz at *
      go_wp2_with (first | (go_at_call 32; refine (hg2.out wz hbz.out).mono ?_; rintro e w2 ⟨rfl, hb2⟩; have y0 := Lib.hid ((hb2.block w.heap.size (by omega)).trans z0.out); have y1 := Lib.hid ((hb2.block (w.heap.size + 1) (by omega)).trans z1.out); have hB2 := Lib.hid (hbz.out.trans (hb2.mono (by omega))); clear hb2) | (refine wpList_store_row rfl 23 _ _ rfl w.heap.size _ rfl rfl 23 _ y0.out (by kernel_rfl) (by simp [u32s, V8.list]) (by simp [Value.oneCell']) ?_))
      refine NoPanic.normal ?_
      go_wp2
      go_roundw
      case rel =>
        have h2 := setRow_heap w2 w.heap.size (u32s (R k).list) (u32s (R (k + 1)).list) 23 (0, 0) y0.out
        have h3 := (setRow_other w2 w.heap.size (w.heap.size + 1) (u32s (R (k + 1)).list) (by omega)).trans y1.out
        exact ⟨k + 1, by have := hm'.out; omega, by rw [show 64 * (k + 1) = m + 64 by have := hm'.out; omega]; go_num, below_setRow' hB2.out (Nat.le_refl _) _, h2, h3⟩
      case measure => have := hm'.out; simp [intOf]; omega
    · have hk' : k = n / 64 := by omega
      subst hk'
      have hRk : R (n / 64) = blocksF v l := by rw [← hR'.out, ← hn'.out]; rfl
      rw [hRk] at h0'
      clear hRk
      generalize hm : 64 * (n / 64) = m at *
      clear hm
      go_wp2_with (first | (refine wpList_load_row rfl 23 _ rfl w.heap.size rfl 23 _ _ _ h0'.out Tryd.underlying23 rfl (by kernel_rfl) ?_) | (refine wpList_store_row rfl 23 _ _ rfl (w.heap.size + 1) _ rfl rfl 23 _ h1'.out (by kernel_rfl) (by simp [u32s, V8.list]) (u32s_one _) ?_))
      try simp only [Exit.inBlock, Exit.then]
      exact bodyPost_ret (results_cell_row rfl _ _ (w.heap.size + 1) 23 _ _ _ rfl (setRow_heap _ _ _ _ _ _ h1'.out) Tryd.underlying23 rfl (by kernel_rfl)) rfl ⟨rfl, below_setRow' hb'.out (by omega) _⟩
theorem rblocks_none (v : V8) (a : Option Addr) (c : Nat) (w : World) :
    Calls Tryd.prog 24 #[.agg #[.int .u32 v.a, .int .u32 v.b, .int .u32 v.c, .int .u32 v.d, .int .u32 v.e, .int .u32 v.f, .int .u32 v.g, .int .u32 v.h], .slice a 0 c] w
     fun e w' => e = .returned (.agg v.cells) ∧ Below w.heap.size w w' := by
  go_enter Tryd.func24, Tryd.ntmps24
  go_wp2
  go_rounds 2
  try simp only [Exit.inBlock, Exit.then]
  exact bodyPost_ret (results_cell_row rfl _ _ (w.heap.size + 1) 23 _ _ _ rfl (hn2 w _ _) Tryd.underlying23 rfl (by kernel_rfl)) rfl ⟨rfl, ((Below.refl _ _).alloc (Nat.le_refl _) _).alloc (by simp) _⟩
theorem rblocks_any (v G : V8) (bv : Value) (l : List Int) (w : World) (hv : v.ok) (hl : Bytes l) (hr : RdB w bv l) (hlm : l.length ≤ 1000000) (hG : blocksF v l = G) :
    Calls Tryd.prog 24 #[.agg #[.int .u32 v.a, .int .u32 v.b, .int .u32 v.c, .int .u32 v.d, .int .u32 v.e, .int .u32 v.f, .int .u32 v.g, .int .u32 v.h], bv] w
     fun e w' => e = .returned (.agg #[.int .u32 G.a, .int .u32 G.b, .int .u32 G.c, .int .u32 G.d, .int .u32 G.e, .int .u32 G.f, .int .u32 G.g, .int .u32 G.h]) ∧ Below w.heap.size w w' := by
  subst hG
  rcases hr with ⟨a, c, rfl, hn, rfl⟩ | ⟨b, o, c, rfl, h1, h2, h3, h4⟩
  · exact rblocks_none v a c w
  · exact rblocks_some v b o c l w hv h1 h2 hl h3 hlm h4
end Go.Proofs.YtdlblhoaddfanaaDoor
namespace Go.Proofs.YtdlblhoaddfanaaDoor
open Go.RowKit Go.YtdlblhoaddfanaaDoor
set_option linter.unusedVariables false
def tailF (n : Nat) : List Int := tl (zT n) ++ [0, 0, 0, 0] ++ be4 (8 * (n : Int))
theorem tailF_length (n : Nat) : (tailF n).length = zT n + 9 := by simp [tailF, tl_length, be4]
theorem zT_lt (n : Nat) : zT n < 64 := Nat.mod_lt _ (by decide)
theorem tailF_bytes (n : Nat) (hn : n ≤ 300000) : Bytes (tailF n) := by
  unfold tailF
  refine bytes_append _ _ (bytes_append _ _ ?_ (bytes_replicate 4)) (be4_bytes _ ⟨by omega, by omega⟩)
  exact bytes_append [128] _ (bytes_one 128 (by omega)) (bytes_replicate _)
theorem tail_ending (r : List Int) (n : Nat) (h : r.length = n % 64) : r ++ tailF n = endingF r n := by
  have e : List.replicate (zT n) (0 : Int) ++ [0, 0, 0, 0] = List.replicate (endSize r.length - 4 - (r.length + 1)) 0 := by
    rw [show ([0, 0, 0, 0] : List Int) = List.replicate 4 0 from rfl, List.replicate_append_replicate]
    congr 1
    unfold zT endSize
    split <;> omega
  unfold tailF endingF tl
  rw [← e]
  simp
theorem rfirst_F (F : V8) (hF : firstW = F) (w : World) : Calls Tryd.prog 28 #[] w fun e w' => e = .returned (.agg #[.int .u32 F.a, .int .u32 F.b, .int .u32 F.c, .int .u32 F.d, .int .u32 F.e, .int .u32 F.f, .int .u32 F.g, .int .u32 F.h]) ∧ Below w.heap.size w w' := by
  subst hF; exact rfirst_any w
theorem rwritten_G (G : V8) (D : List Int) (w : World) (hG : G.ok) (hD : writtenF G = D) : Calls Tryd.prog 26 #[.agg #[.int .u32 G.a, .int .u32 G.b, .int .u32 G.c, .int .u32 G.d, .int .u32 G.e, .int .u32 G.f, .int .u32 G.g, .int .u32 G.h]] w fun e w' => e = .returned (.agg (u8s D)) ∧ Below w.heap.size w w' := by
  subst hD; exact rwritten_any G w hG
theorem rtail_F (n : Nat) (w : World) (hn : n ≤ 300000) : Calls Tryd.prog 27 #[.int .i64 (n : Int)] w fun e w' => ∃ ta tc, e = .returned (.slice ta (zT n + 9) tc) ∧ RdB w' (.slice ta (zT n + 9) tc) (tailF n) ∧ Below w.heap.size w w' := by
  refine (rtail_any n w hn).mono ?_
  rintro e w' ⟨r, rfl, ho, hb⟩
  have h := show RdB w' r (tailF n) from ho.rd
  obtain ⟨ta, tc, rfl⟩ := h.slice
  rw [tailF_length] at h ⊢
  exact ⟨ta, tc, rfl, h, hb⟩
theorem own0 (w : World) : OwnB w.heap.size 5 (w.alloc (.cells #[] 5)) (.slice (some ⟨w.heap.size, 0, none⟩) 0 0) [] :=
  ⟨rfl, .inr ⟨w.heap.size, 0, _, rfl, Nat.le_refl _, heap_alloc_new w _, Nat.le_refl _, by decide, rfl, rfl⟩⟩
end Go.Proofs.YtdlblhoaddfanaaDoor
namespace Go.Proofs.YtdlblhoaddfanaaDoor
open Go.RowKit Go.YtdlblhoaddfanaaDoor
set_option linter.unusedVariables false
theorem rstart_F (F : V8) (hF : firstW = F) (w : World) :
    Calls Tryd.prog 12 #[] w
      fun e w' => e = .returned (.agg #[.int .u32 F.a, .int .u32 F.b, .int .u32 F.c, .int .u32 F.d, .int .u32 F.e, .int .u32 F.f, .int .u32 F.g, .int .u32 F.h, .slice none 0 0, .int .i64 0]) ∧ Below w.heap.size w w' := by
  have hF' := Lib.hid hF
  clear hF
  go_enter Tryd.func12, Tryd.ntmps12
  go_wp2_with (go_at_call 28; refine (rfirst_F F hF'.out _).mono ?_; rintro e w1 ⟨rfl, hb1⟩; have hb1' := Lib.hid hb1; obtain ⟨hc1, hf1⟩ := bcell hb1; have hz1 := hb1.size; clear hb1)
  try simp only [Exit.inBlock, Exit.then]
  have hrow := (hb1'.out.block w.heap.size (by simp)).trans (heap_alloc_new w _)
  have hB := ((Below.refl w.heap.size w).alloc (Nat.le_refl _) _).trans (hb1'.out.mono (by simp))
  rw [set10_world hrow]
  exact bodyPost_ret (results_cell_row rfl _ _ w.heap.size 26 _ _ _ rfl (setRow_heap _ _ _ _ _ _ hrow) Tryd.underlying26 rfl (by kernel_rfl)) rfl ⟨rfl, below_setRow' (g := w.heap.size) hB (Nat.le_refl _) _⟩
set_option maxHeartbeats 400000 in
theorem rvalid_any (v : V8) (r : Value) (rn : Nat) (N : Int) (w : World) (hr : ∃ a c, r = .slice a rn c) :
    Calls Tryd.prog 23 #[.agg #[.int .u32 v.a, .int .u32 v.b, .int .u32 v.c, .int .u32 v.d, .int .u32 v.e, .int .u32 v.f, .int .u32 v.g, .int .u32 v.h, r, .int .i64 N]] w
      fun e w' => e = .returned (.bool (validB N rn)) ∧ Below w.heap.size w w' := by
  obtain ⟨a, c, rfl⟩ := hr
  go_enter Tryd.func23, Tryd.ntmps23
  go_wp2
  all_goals
    go_ret
    refine ⟨ret_bool ?_, (Below.refl _ _).alloc (Nat.le_refl _) _⟩
    rw [Bool.eq_iff_iff]
    simp [validB]
    omega
end Go.Proofs.YtdlblhoaddfanaaDoor
namespace Go.Proofs.YtdlblhoaddfanaaDoor
open Go.RowKit Go.YtdlblhoaddfanaaDoor
set_option linter.unusedVariables false
set_option maxRecDepth 100000 in
set_option maxHeartbeats 400000 in
theorem radd_bad (v : V8) (rv : Value) (rn : Nat) (N : Int) (bv : Value) (w : World) (hr : ∃ a c, rv = .slice a rn c) (hv : validB N rn = false) :
    Calls Tryd.prog 6 #[.agg #[.int .u32 v.a, .int .u32 v.b, .int .u32 v.c, .int .u32 v.d, .int .u32 v.e, .int .u32 v.f, .int .u32 v.g, .int .u32 v.h, rv, .int .i64 N], bv] w
     fun e w' => e = .returned (.tuple #[.agg #[.int .u32 0, .int .u32 0, .int .u32 0, .int .u32 0, .int .u32 0, .int .u32 0, .int .u32 0, .int .u32 0, .slice none 0 0, .int .i64 0], .int .i64 8]) ∧ Below w.heap.size w w' := by
  obtain ⟨a, c, rfl⟩ := hr
  go_enter Tryd.func6, Tryd.ntmps6
  go_wp2_with (go_at_call 23; refine (rvalid_any v _ rn N _ ⟨a, c, rfl⟩).mono ?_; rintro e w1 ⟨rfl, hb1⟩; obtain ⟨hc1, hf1⟩ := bcell hb1; have hs1 := fun b (h : b < _) => Nat.lt_of_lt_of_le h hb1.size; have hb1' := Lib.hid hb1; clear hb1)
  try simp only [Exit.inBlock, Exit.then]
  obtain ⟨hB, _, hrow⟩ := below2 w _ _ hb1'.out
  rw [set10_world hrow]
  exact bodyPost_ret (results_row_tmp rfl _ _ (w.heap.size + 1) 26 _ _ _ rfl (setRow_heap _ _ _ _ _ _ hrow) Tryd.underlying26 rfl (by kernel_rfl)) rfl ⟨rfl, below_setRow' (g := w.heap.size + 1) hB (by omega) _⟩
set_option maxRecDepth 100000 in
set_option maxHeartbeats 400000 in
theorem radd_many (v : V8) (rv : Value) (rn : Nat) (N : Int) (ba : Option Addr) (bn bc : Nat) (w : World) (hr : ∃ a c, rv = .slice a rn c) (hv : validB N rn = true) (hN : 200000 - N < (bn : Int)) (h0 : 0 ≤ N) (h1 : N ≤ 200000) :
    Calls Tryd.prog 6 #[.agg #[.int .u32 v.a, .int .u32 v.b, .int .u32 v.c, .int .u32 v.d, .int .u32 v.e, .int .u32 v.f, .int .u32 v.g, .int .u32 v.h, rv, .int .i64 N], .slice ba bn bc] w
     fun e w' => e = .returned (.tuple #[.agg #[.int .u32 0, .int .u32 0, .int .u32 0, .int .u32 0, .int .u32 0, .int .u32 0, .int .u32 0, .int .u32 0, .slice none 0 0, .int .i64 0], .int .i64 4]) ∧ Below w.heap.size w w' := by
  obtain ⟨a, c, rfl⟩ := hr
  go_enter Tryd.func6, Tryd.ntmps6
  go_wp2_with (go_at_call 23; refine (rvalid_any v _ rn N _ ⟨a, c, rfl⟩).mono ?_; rintro e w1 ⟨rfl, hb1⟩; obtain ⟨hc1, hf1⟩ := bcell hb1; have hs1 := fun b (h : b < _) => Nat.lt_of_lt_of_le h hb1.size; have hb1' := Lib.hid hb1; clear hb1)
  try simp only [Exit.inBlock, Exit.then]
  obtain ⟨hB, _, hrow⟩ := below2 w _ _ hb1'.out
  rw [set10_world hrow]
  exact bodyPost_ret (results_row_tmp rfl _ _ (w.heap.size + 1) 26 _ _ _ rfl (setRow_heap _ _ _ _ _ _ hrow) Tryd.underlying26 rfl (by kernel_rfl)) rfl ⟨rfl, below_setRow' (g := w.heap.size + 1) hB (by omega) _⟩
set_option maxRecDepth 100000 in
set_option maxHeartbeats 400000 in
theorem rend_bad (v : V8) (rv : Value) (rn : Nat) (N : Int) (w : World) (hr : ∃ a c, rv = .slice a rn c) (hv : validB N rn = false) :
    Calls Tryd.prog 8 #[.agg #[.int .u32 v.a, .int .u32 v.b, .int .u32 v.c, .int .u32 v.d, .int .u32 v.e, .int .u32 v.f, .int .u32 v.g, .int .u32 v.h, rv, .int .i64 N]] w
     fun e w' => e = .returned (.tuple #[.agg (u8s (zerosB 32)), .int .i64 8]) ∧ Below w.heap.size w w' := by
  obtain ⟨a, c, rfl⟩ := hr
  go_enter Tryd.func8, Tryd.ntmps8
  go_wp2_with (first | (go_at_call 23; refine (rvalid_any v _ rn N _ ⟨a, c, rfl⟩).mono ?_; rintro e w1 ⟨rfl, hb1⟩; obtain ⟨hB1, hz1, hrow1⟩ := below2 w _ _ hb1; have hrow1' := Lib.hid (show w1.heap[w.heap.size + 1]? = some (.cells (u8s (zerosB 32)) 33 (0, 0)) from hrow1); have hB1' := Lib.hid hB1; clear hb1 hrow1 hB1) | (refine wpList_store_row rfl 33 _ _ rfl (w.heap.size + 1) (u8s (zerosB 32)) rfl rfl 33 _ hrow1'.out info_id rfl (u8s_one _) ?_))
  try simp only [Exit.inBlock, Exit.then]
  exact bodyPost_ret (results_row_tmp rfl _ _ (w.heap.size + 1) 33 _ _ _ rfl (setRow_heap _ _ _ _ _ _ hrow1'.out) Tryd.underlying33 rfl info_id) rfl ⟨rfl, below_setRow' (g := w.heap.size + 1) hB1'.out (by omega) _⟩
/-- A slice of the rest, from whole blocks on. -/
theorem rest_slice {w : World} {a : Option Addr} {n c : Nat} {l : List Int} (h : RdB w (.slice a n c) l) (hn : l.length = n) (k : Nat) (hk : k ≤ n) :
    (c - k = 0 → RdB w (.slice a (n - k) (c - k)) (l.drop k)) ∧ (∀ b o, a = some ⟨b, o, none⟩ → RdB w (.slice (some ⟨b, o + k, none⟩) (n - k) (c - k)) (l.drop k)) := by
  have hd : (l.drop k).length = n - k := by simp [hn]
  rcases h with ⟨a', c', he, hc, rfl⟩ | ⟨b, o, c', he, h1, h2, h3, h4⟩
  · obtain ⟨rfl, rfl, rfl⟩ : a = a' ∧ n = 0 ∧ c = c' := by injection he with e1 e2 e3; exact ⟨e1, e2, e3⟩
    have hk0 : k = 0 := by omega
    subst hk0
    refine ⟨fun _ => .inl ⟨a, c, rfl, hc, rfl⟩, fun b o ha => .inl ⟨_, c, rfl, (fun h => by cases h), rfl⟩⟩
  · obtain ⟨rfl, _, rfl⟩ : a = some ⟨b, o, none⟩ ∧ n = l.length ∧ c = c' := by injection he with e1 e2 e3; exact ⟨e1, e2, e3⟩
    subst hn
    have hcell : ∀ i, i < (l.drop k).length → w.cell? ⟨b, o + k + i, none⟩ = some (.int .u8 (ith (l.drop k) i)) := fun i hi => by
      rw [hd] at hi
      rw [ith_drop, Nat.add_assoc]; exact h4 _ (by omega)
    refine ⟨fun hc0 => ?_, fun b' o' ha => ?_⟩
    · have e0 : l.length - k = 0 := by omega
      rw [e0]
      exact .inl ⟨_, _, rfl, (fun h => by cases h), by apply List.eq_nil_of_length_eq_zero; omega⟩
    · obtain ⟨rfl, rfl⟩ : b = b' ∧ o = o' := by simpa using ha
      exact .inr ⟨b, o + k, c - k, by rw [hd], by omega, by omega, h3, hcell⟩
end Go.Proofs.YtdlblhoaddfanaaDoor
namespace Go.Proofs.YtdlblhoaddfanaaDoor
open Go.RowKit Go.YtdlblhoaddfanaaDoor
set_option linter.unusedVariables false
theorem cells10 {w : World} {g : Nat} {x0 x1 x2 x3 x4 x5 x6 x7 x8 x9 : Value} {T : TypeId} (h : w.heap[g]? = some (.cells #[x0, x1, x2, x3, x4, x5, x6, x7, x8, x9] T (0, 0))) :
    w.cell? ⟨g, 0, none⟩ = some x0 ∧ w.cell? ⟨g, 1, none⟩ = some x1 ∧ w.cell? ⟨g, 2, none⟩ = some x2 ∧ w.cell? ⟨g, 3, none⟩ = some x3 ∧ w.cell? ⟨g, 4, none⟩ = some x4 ∧ w.cell? ⟨g, 5, none⟩ = some x5 ∧ w.cell? ⟨g, 6, none⟩ = some x6 ∧ w.cell? ⟨g, 7, none⟩ = some x7 ∧ w.cell? ⟨g, 8, none⟩ = some x8 ∧ w.cell? ⟨g, 9, none⟩ = some x9 :=
  ⟨cell_of_row _ _ _ _ _ _ h, cell_of_row _ _ _ _ _ _ h, cell_of_row _ _ _ _ _ _ h, cell_of_row _ _ _ _ _ _ h, cell_of_row _ _ _ _ _ _ h, cell_of_row _ _ _ _ _ _ h, cell_of_row _ _ _ _ _ _ h, cell_of_row _ _ _ _ _ _ h, cell_of_row _ _ _ _ _ _ h, cell_of_row _ _ _ _ _ _ h⟩
theorem frozen10 {w : World} {g : Nat} {cs : Array Value} {T : TypeId} (h : w.heap[g]? = some (.cells cs T (0, 0))) :
    w.frozen? ⟨g, 0, none⟩ = false ∧ w.frozen? ⟨g, 1, none⟩ = false ∧ w.frozen? ⟨g, 2, none⟩ = false ∧ w.frozen? ⟨g, 3, none⟩ = false ∧ w.frozen? ⟨g, 4, none⟩ = false ∧ w.frozen? ⟨g, 5, none⟩ = false ∧ w.frozen? ⟨g, 6, none⟩ = false ∧ w.frozen? ⟨g, 7, none⟩ = false ∧ w.frozen? ⟨g, 8, none⟩ = false ∧ w.frozen? ⟨g, 9, none⟩ = false :=
  ⟨frozen_of_row _ _ _ _ _ h, frozen_of_row _ _ _ _ _ h, frozen_of_row _ _ _ _ _ h, frozen_of_row _ _ _ _ _ h, frozen_of_row _ _ _ _ _ h, frozen_of_row _ _ _ _ _ h, frozen_of_row _ _ _ _ _ h, frozen_of_row _ _ _ _ _ h, frozen_of_row _ _ _ _ _ h, frozen_of_row _ _ _ _ _ h⟩
/-- The slice's block is not an old one. -/
def NewB (B : Nat) (v : Value) : Prop := ∀ b o n c, v = .slice (some ⟨b, o, none⟩) n c → B ≤ b
theorem NewB.nil (B n c : Nat) : NewB B (.slice none n c) := fun _ _ _ _ h => by cases h
theorem NewB.at {B g o n c : Nat} (h : B ≤ g) : NewB B (.slice (some ⟨g, o, none⟩) n c) := fun _ _ _ _ e => by cases e; exact h
theorem rd_setRow {w : World} {b o n c : Nat} {l : List Int} (h : RdB w (.slice (some ⟨b, o, none⟩) n c) l) (g : Nat) (hne : b ≠ g) (cs : Array Value) : RdB (w.setRow g cs) (.slice (some ⟨b, o, none⟩) n c) l := by
  rcases h with ⟨a', c', he, hc, rfl⟩ | ⟨b', o', c', he, h1, h2, h3, h4⟩
  · exact .inl ⟨a', c', he, hc, rfl⟩
  · have e : b' = b := by injection he with e1 _ _; injection e1 with e2; injection e2 with e3 _ _; exact e3.symm
    subst e
    refine .inr ⟨b', o', c', he, h1, h2, by rw [size_setRow]; exact h3, fun i hi => ?_⟩
    have := h4 i hi
    unfold World.cell? at this ⊢
    rw [setRow_other w g b' cs (by omega)]
    exact this
set_option maxRecDepth 100000 in
set_option maxHeartbeats 4000000 in
theorem radd_ok (v G : V8) (rv : Value) (r : List Int) (M : Nat) (bv : Value) (l : List Int) (w : World) (hv : v.ok) (hr : RdB w rv r) (hl : RdB w bv l) (hrb : Bytes r) (hlb : Bytes l) (hrl : r.length = M % 64) (hN : M + l.length ≤ 200000) (hG : blocksF v (r ++ l) = G) :
    Calls Tryd.prog 6 #[.agg #[.int .u32 v.a, .int .u32 v.b, .int .u32 v.c, .int .u32 v.d, .int .u32 v.e, .int .u32 v.f, .int .u32 v.g, .int .u32 v.h, rv, .int .i64 M], bv] w
     fun e w' => ∃ r', e = .returned (.tuple #[.agg #[.int .u32 G.a, .int .u32 G.b, .int .u32 G.c, .int .u32 G.d, .int .u32 G.e, .int .u32 G.f, .int .u32 G.g, .int .u32 G.h, r', .int .i64 (M + l.length : Nat)], .int .i64 0]) ∧ RdB w' r' (restF (r ++ l)) ∧ NewB w.heap.size r' ∧ Below w.heap.size w w' := by
  obtain ⟨a, c, rfl⟩ := hr.slice
  obtain ⟨ba, bc, rfl⟩ := hl.slice
  have hvd := validB_yes M r.length (by omega) hrl
  have hab := Lib.hid (bytes_append _ _ hrb hlb)
  have hal : Hid ((r ++ l).length ≤ 1000000) := Lib.hid (by rw [List.length_append]; omega)
  have hr' := Lib.hid hr; have hl' := Lib.hid hl; have hG' := Lib.hid hG; have hv' := Lib.hid hv
  have hrl64 : r.length < 64 := by omega
  clear hr hl hG hrb hlb hrl hv
  go_enter Tryd.func6, Tryd.ntmps6
  go_upto_region 5 with (go_at_call 23; refine (rvalid_any v _ r.length M _ ⟨a, c, rfl⟩).mono ?_; rintro e w1 ⟨rfl, hb1⟩; obtain ⟨hc1, hf1⟩ := bcell hb1; have hs1 := fun b (h : b < _) => Nat.lt_of_lt_of_le h hb1.size; have hb1' := Lib.hid hb1; clear hb1)
  obtain ⟨hB1, hz1, hrow1⟩ := below2 w _ _ hb1'.out
  have hrow0 := (hb1'.out.block w.heap.size (by simp; omega)).trans ((hp1 _ _ _ (by simp)).trans (heap_alloc_new w _))
  have k1 := Lib.hid hrow1; have k0 := Lib.hid hrow0; have hB1' := Lib.hid hB1
  have c8 := (cells10 hrow0).2.2.2.2.2.2.2.2.1
  clear hc1 hf1 hs1 hb1' hrow1 hrow0 hB1 hvd
  have r1 := Lib.hid ((hr'.out.mono hB1'.out).mono ((Below.refl w1.heap.size w1).alloc (Nat.le_refl _) (.cells #[] 5)))
  generalize hln : l.length = ln at *
  generalize hrn : r.length = rn at *
  have hln' := Lib.hid hln; have hrn' := Lib.hid hrn; clear hln hrn
  have k8 : (w1.alloc (.cells #[] 5)).cell? ⟨w.heap.size, 8, none⟩ = some (.slice a rn c) := (((Below.refl w1.heap.size w1).alloc (Nat.le_refl _) (.cells #[] 5)).cell (p := ⟨w.heap.size, 8, none⟩) (show w.heap.size < _ by omega)).trans c8
  clear c8
  go_wp2_with (refine appendB rfl _ _ 24 rfl w1.heap.size 5 Tryd.underlying24 (by kernel_rfl) _ rfl _ (own0 w1) _ rfl _ r1.out (by rw [hrn'.out]; simp; omega) (by simp) ?_)
  intro v' w2 h1 h2
  have hB2 := ((Below.refl w1.heap.size w1).alloc (Nat.le_refl _) (.cells #[] 5)).trans ((own0 w1).below h2 (by simp))
  try rw [List.nil_append] at h1
  obtain ⟨pa, pc, rfl⟩ := h1.rd.slice
  have h1' := Lib.hid h1; have hB2' := Lib.hid hB2
  have r2 := Lib.hid ((hl'.out.mono hB1'.out).mono hB2)
  have hz2 := hB2.size
  clear h1 h2 hB2 r1 k8
  rw [hrn'.out] at h1' ⊢
  refine Stop.go ?_
  go_wp2_with (refine appendB rfl _ _ 24 rfl w1.heap.size 5 Tryd.underlying24 (by kernel_rfl) _ rfl _ h1'.out _ rfl _ r2.out (by rw [hrn'.out, hln'.out]; omega) hz2 ?_)
  intro v' w3 h1 h2
  have hB3 := Lib.hid (hB2'.out.trans (h1'.out.below h2 hz2))
  have hz3 := hB3.out.size
  have hrd := Lib.hid h1.rd
  have hown := h1.2
  have y1 := Lib.hid ((hB3.out.block (w.heap.size + 1) hz1).trans k1.out)
  have y0 := (hB3.out.block w.heap.size (by omega)).trans k0.out
  obtain ⟨c0, c1, c2, c3, c4, c5, c6, c7, _, c9⟩ := cells10 y0
  have hBw := Lib.hid (hB1'.out.trans (hB3.out.mono (by omega)))
  have hzw : w.heap.size + 1 < w3.heap.size := by omega
  have hnl : (r ++ l).length = rn + ln := by rw [List.length_append, hrn'.out, hln'.out]
  have hnl' := Lib.hid hnl
  clear h1 h2 h1' r2 hB2' hB3 k0 k1 hB1' y0 hnl hr' hl'
  have hblk := Lib.hid (fun (av : Value) (wz : World) (hb : Below w3.heap.size w3 wz) (h : RdB w3 av (r ++ l)) => rblocks_any v G av (r ++ l) wz hv'.out hab.out (h.mono hb) hal.out hG'.out)
  rcases hown with ⟨rfl, h0⟩ | ⟨g, pc, cur, rfl, hbg, hg, hnc, hcm, _, _⟩
  · rw [hnl'.out] at h0
    have hl0 : rn + ln = 0 := h0
    have hln0 : ln = 0 := by omega
    have hrn0 : rn = 0 := by omega
    subst hln0
    subst hrn0
    have hre : r ++ l = [] := List.eq_nil_of_length_eq_zero (by rw [hnl'.out])
    have hrf : restF (r ++ l) = [] := by rw [hre]; rfl
    have hrf' := Lib.hid hrf
    have hsum : IntKind.i64.wrap ((M : Int) + ((0 : Nat) : Int)) = (M : Int) + ((0 : Nat) : Int) := IntWalk.i64_in _ (by omega)
    have e1 : (0 : Int).tdiv 64 = 0 := rfl
    have e3 : IntKind.i64.wrap 0 = 0 := rfl
    have e5 : IntKind.i64.wrap (0 * 64) = 0 := rfl
    have e6 : IntKind.i64.wrap (M : Int) = (M : Int) := IntWalk.i64_in _ (by omega)
    clear hrf hre h0 hl0
    have hzw0 : w.heap.size < w3.heap.size := by omega
    obtain ⟨f0, f1, f2, f3, f4, f5, f6, f7, f8, f9⟩ := frozen10 y1.out
    obtain ⟨d0, d1, d2, d3, d4, d5, d6, d7, d8, d9⟩ := cells10 y1.out
    refine Stop.go ?_
    go_wp2
    go_region_held3 (fun w' => w'.cell? ⟨w.heap.size, 0, none⟩ = some (.int .u32 v.a) ∧ w'.cell? ⟨w.heap.size, 1, none⟩ = some (.int .u32 v.b) ∧ w'.cell? ⟨w.heap.size, 2, none⟩ = some (.int .u32 v.c) ∧ w'.cell? ⟨w.heap.size, 3, none⟩ = some (.int .u32 v.d) ∧ w'.cell? ⟨w.heap.size, 4, none⟩ = some (.int .u32 v.e) ∧ w'.cell? ⟨w.heap.size, 5, none⟩ = some (.int .u32 v.f) ∧ w'.cell? ⟨w.heap.size, 6, none⟩ = some (.int .u32 v.g) ∧ w'.cell? ⟨w.heap.size, 7, none⟩ = some (.int .u32 v.h) ∧ w'.cell? ⟨w.heap.size, 9, none⟩ = some (.int .i64 M)) (go_keep)
      (first | (go_at_call 24; refine (hblk.out _ _ (Below.refl _ _).drew hrd.out).mono ?_; rintro e w4 ⟨rfl, hb4⟩; obtain ⟨hc4, hf4⟩ := bcell hb4; simp only [World.size_drew, World.cell?_drew, World.frozen?_drew] at hc4 hf4; have hb4' := Lib.hid hb4; have hz4 := hb4.size; clear hb4))
    all_goals
      go_wp2
      try simp only [Exit.inBlock, Exit.then]
      have row4 := (hb4'.out.block (w.heap.size + 1) (by simp; omega)).trans (show w3.drew.heap[w.heap.size + 1]? = _ from y1.out)
      have hB4 := hBw.out.trans ((show Below w3.heap.size w3 w4 from (Below.refl _ _).drew.trans hb4'.out).mono (by omega))
      rw [set10_world row4]
      refine bodyPost_ret (results_row_tmp rfl _ _ (w.heap.size + 1) 26 _ _ _ rfl (setRow_heap _ _ _ _ _ _ row4) Tryd.underlying26 rfl (by kernel_rfl)) rfl ⟨.slice none 0 0, by rw [hln'.out]; rfl, ?_, NewB.nil _ _ _, below_setRow' (g := w.heap.size + 1) hB4 (by omega) _⟩
      rw [hrf'.out]
      exact .inl ⟨none, 0, rfl, fun _ => rfl, rfl⟩
  · rw [hnl'.out] at hnc hrd ⊢
    unfold maxLen at hcm
    have hq := rest_slice hrd.out hnl'.out ((rn + ln) / 64 * 64) (by omega)
    have hrf : restF (r ++ l) = (r ++ l).drop ((rn + ln) / 64 * 64) := by unfold restF; rw [hnl'.out, Nat.mul_comm]
    rw [← hrf] at hq
    have hq' := Lib.hid hq
    clear hq hrf hg
    have hN2 : rn + ln ≤ 1000000 := by omega
    have hsum : IntKind.i64.wrap ((M : Int) + (ln : Int)) = ((M + ln : Nat) : Int) := by rw [IntWalk.i64_in _ (by omega)]; omega
    generalize hNN : rn + ln = N at *
    have e1 : (N : Int) / 64 = ((N / 64 : Nat) : Int) := by omega
    have e2 : (N : Int).tdiv 64 = ((N / 64 : Nat) : Int) := by rw [Int.tdiv_eq_ediv_of_nonneg (by omega)]; omega
    have e3 : IntKind.i64.wrap (((N / 64 : Nat) : Int) * 64) = ((N / 64 * 64 : Nat) : Int) := by rw [IntWalk.i64_in _ (by omega)]; omega
    have e4 : IntKind.i64.wrap ((N / 64 : Nat) : Int) = ((N / 64 : Nat) : Int) := IntWalk.i64_in _ (by omega)
    have b1 : ((N / 64 * 64 : Nat) : Int) ≤ (N : Int) := by omega
    have b2 : (0 : Int) ≤ ((N / 64 * 64 : Nat) : Int) := by omega
    have b3 : N / 64 * 64 ≤ N := by omega
    generalize N / 64 * 64 = m at *
    generalize N / 64 = q at *
    by_cases hcc : pc = m
    · subst hcc
      have hcN : N = pc := by omega
      subst hcN
      have hcc2 : N - N = 0 := by omega
      clear hnc b3
      have hzw0 : w.heap.size < w3.heap.size := by omega
      obtain ⟨f0, f1, f2, f3, f4, f5, f6, f7, f8, f9⟩ := frozen10 y1.out
      obtain ⟨d0, d1, d2, d3, d4, d5, d6, d7, d8, d9⟩ := cells10 y1.out
      refine Stop.go ?_
      go_wp2
      go_region_held3 (fun w' => w'.cell? ⟨w.heap.size, 0, none⟩ = some (.int .u32 v.a) ∧ w'.cell? ⟨w.heap.size, 1, none⟩ = some (.int .u32 v.b) ∧ w'.cell? ⟨w.heap.size, 2, none⟩ = some (.int .u32 v.c) ∧ w'.cell? ⟨w.heap.size, 3, none⟩ = some (.int .u32 v.d) ∧ w'.cell? ⟨w.heap.size, 4, none⟩ = some (.int .u32 v.e) ∧ w'.cell? ⟨w.heap.size, 5, none⟩ = some (.int .u32 v.f) ∧ w'.cell? ⟨w.heap.size, 6, none⟩ = some (.int .u32 v.g) ∧ w'.cell? ⟨w.heap.size, 7, none⟩ = some (.int .u32 v.h) ∧ w'.cell? ⟨w.heap.size, 9, none⟩ = some (.int .i64 M)) (go_keep)
        (first | (go_at_call 24; refine (hblk.out _ _ (Below.refl _ _).drew hrd.out).mono ?_; rintro e w4 ⟨rfl, hb4⟩; obtain ⟨hc4, hf4⟩ := bcell hb4; simp only [World.size_drew, World.cell?_drew, World.frozen?_drew] at hc4 hf4; have hb4' := Lib.hid hb4; have hz4 := hb4.size; clear hb4))
      go_wp2
      try simp only [Exit.inBlock, Exit.then]
      have row4 := (hb4'.out.block (w.heap.size + 1) (by simp; omega)).trans (show w3.drew.heap[w.heap.size + 1]? = _ from y1.out)
      have hB4 := hBw.out.trans ((show Below w3.heap.size w3 w4 from (Below.refl _ _).drew.trans hb4'.out).mono (by omega))
      rw [set10_world row4]
      refine bodyPost_ret (results_row_tmp rfl _ _ (w.heap.size + 1) 26 _ _ _ rfl (setRow_heap _ _ _ _ _ _ row4) Tryd.underlying26 rfl (by kernel_rfl)) rfl ⟨.slice (some ⟨g, 0, none⟩) 0 0, by rw [hln'.out, Int.natCast_add]; rfl, ?_, NewB.at (by omega), below_setRow' (g := w.heap.size + 1) hB4 (by omega) _⟩
      have hqa := hq'.out.1 hcc2
      rw [Nat.sub_self] at hqa
      exact rd_setRow (hqa.mono ((Below.refl w3.heap.size w3).drew.trans hb4'.out)) _ (by omega) _
    · have hcc2 : ¬ pc - m = 0 := by omega
      have hzw0 : w.heap.size < w3.heap.size := by omega
      obtain ⟨f0, f1, f2, f3, f4, f5, f6, f7, f8, f9⟩ := frozen10 y1.out
      obtain ⟨d0, d1, d2, d3, d4, d5, d6, d7, d8, d9⟩ := cells10 y1.out
      have b4 : (N : Int) ≤ (pc : Int) := by omega
      have b5 : (m : Int) ≤ (pc : Int) := by omega
      have b6 : ¬ pc ≤ m := by omega
      have b7 : ¬ m = pc := by omega
      refine Stop.go ?_
      go_wp2
      go_region_held3 (fun w' => w'.cell? ⟨w.heap.size, 0, none⟩ = some (.int .u32 v.a) ∧ w'.cell? ⟨w.heap.size, 1, none⟩ = some (.int .u32 v.b) ∧ w'.cell? ⟨w.heap.size, 2, none⟩ = some (.int .u32 v.c) ∧ w'.cell? ⟨w.heap.size, 3, none⟩ = some (.int .u32 v.d) ∧ w'.cell? ⟨w.heap.size, 4, none⟩ = some (.int .u32 v.e) ∧ w'.cell? ⟨w.heap.size, 5, none⟩ = some (.int .u32 v.f) ∧ w'.cell? ⟨w.heap.size, 6, none⟩ = some (.int .u32 v.g) ∧ w'.cell? ⟨w.heap.size, 7, none⟩ = some (.int .u32 v.h) ∧ w'.cell? ⟨w.heap.size, 9, none⟩ = some (.int .i64 M)) (go_keep)
        (first | (go_at_call 24; refine (hblk.out _ _ (Below.refl _ _).drew hrd.out).mono ?_; rintro e w4 ⟨rfl, hb4⟩; obtain ⟨hc4, hf4⟩ := bcell hb4; simp only [World.size_drew, World.cell?_drew, World.frozen?_drew] at hc4 hf4; have hb4' := Lib.hid hb4; have hz4 := hb4.size; clear hb4))
      go_wp2
      try simp only [Exit.inBlock, Exit.then]
      have row4 := (hb4'.out.block (w.heap.size + 1) (by simp; omega)).trans (show w3.drew.heap[w.heap.size + 1]? = _ from y1.out)
      have hB4 := hBw.out.trans ((show Below w3.heap.size w3 w4 from (Below.refl _ _).drew.trans hb4'.out).mono (by omega))
      rw [set10_world row4]
      refine bodyPost_ret (results_row_tmp rfl _ _ (w.heap.size + 1) 26 _ _ _ rfl (setRow_heap _ _ _ _ _ _ row4) Tryd.underlying26 rfl (by kernel_rfl)) rfl ⟨.slice (some ⟨g, m, none⟩) (N - m) (pc - m), by rw [hln'.out, Int.natCast_add]; rfl, ?_, NewB.at (by omega), below_setRow' (g := w.heap.size + 1) hB4 (by omega) _⟩
      have hqb := hq'.out.2 g 0 rfl
      rw [Nat.zero_add] at hqb
      exact rd_setRow (((hqb).mono ((Below.refl w3.heap.size w3).drew.trans hb4'.out))) _ (by omega) _
end Go.Proofs.YtdlblhoaddfanaaDoor
namespace Go.Proofs.YtdlblhoaddfanaaDoor
open Go.RowKit Go.YtdlblhoaddfanaaDoor
set_option linter.unusedVariables false
theorem rd_at {w : World} {a : Option Addr} {n c : Nat} {l : List Int} (h : RdB w (.slice a n c) l) (i : Nat) (hi : i < l.length) : ∃ b o, a = some ⟨b, o, none⟩ ∧ b < w.heap.size ∧ w.cell? ⟨b, o + i, none⟩ = some (.int .u8 (ith l i)) := by
  rcases h with ⟨_, _, _, _, rfl⟩ | ⟨b, o, c', h1, h2, h3, h4, h5⟩
  · exact absurd hi (Nat.not_lt_zero _)
  · cases h1
    exact ⟨b, o, rfl, h4, h5 i hi⟩
end Go.Proofs.YtdlblhoaddfanaaDoor
namespace Go.Proofs.YtdlblhoaddfanaaDoor
open Go.RowKit Go.YtdlblhoaddfanaaDoor
set_option linter.unusedVariables false
set_option maxRecDepth 100000 in
theorem sameb_yes (a1 a2 : Option Addr) (c1 c2 n : Nat) (l : List Int) (w : World) (hn : l.length = n) (hm : n ≤ 140737488355328) (h1 : RdB w (.slice a1 n c1) l) (h2 : RdB w (.slice a2 n c2) l) :
    Calls Tryd.prog 10 #[.slice a1 n c1, .slice a2 n c2] w fun e w' => e = .returned (.bool true) ∧ Below w.heap.size w w' := by
  have h1' := Lib.hid h1; have h2' := Lib.hid h2; have hn' := Lib.hid hn
  clear h1 h2 hn
  go_enter Tryd.func10, Tryd.ntmps10
  go_wp2
  go_loopw [5] (fun i wr => ∃ k : Nat, k ≤ n ∧ i = .int .i64 k ∧ Draws w wr) (fun i _ => match i with | .int _ m => n - m.toNat | _ => 0)
  case atStart => exact ⟨0, Nat.zero_le _, rfl, Draws.refl _⟩
  case round =>
    obtain ⟨k, hk, rfl, hd⟩ := hrel
    by_cases hlt : k < n
    · obtain ⟨b, o, rfl, _, e1⟩ := rd_at h1'.out k (by rw [hn'.out]; exact hlt)
      obtain ⟨b', o', rfl, _, e2⟩ := rd_at h2'.out k (by rw [hn'.out]; exact hlt)
      have c1 := (hd.cell _).trans e1
      have c2 := (hd.cell _).trans e2
      go_wp2
      go_quiet (fail)
      go_wp2
      go_roundw
      case rel => exact ⟨k + 1, by omega, by go_num, hd.drewN _⟩
      case measure => go_num
    · go_wp2
      go_ret
      exact ⟨rfl, hd.below (Below.refl _ _)⟩
def millV (V : V8) (r : Value) (N : Int) : Value := .agg #[.int .u32 V.a, .int .u32 V.b, .int .u32 V.c, .int .u32 V.d, .int .u32 V.e, .int .u32 V.f, .int .u32 V.g, .int .u32 V.h, r, .int .i64 N]
set_option maxRecDepth 100000 in
set_option maxHeartbeats 1000000 in
theorem same_yes (V : V8) (r1 r2 : Value) (l : List Int) (N : Int) (w : World) (hm : l.length ≤ 140737488355328) (h1 : RdB w r1 l) (h2 : RdB w r2 l) :
    Calls Tryd.prog 9 #[millV V r1 N, millV V r2 N] w fun e w' => e = .returned (.bool true) ∧ Below w.heap.size w w' := by
  obtain ⟨a1, c1, rfl⟩ := h1.slice
  obtain ⟨a2, c2, rfl⟩ := h2.slice
  have heq := fun (wz : World) => run_equalArrW (P := Tryd.prog) wz 9998 23 22 8 Tryd.underlying23 Tryd.underlying22 (by kernel_rfl) V.list V.list rfl rfl
  simp only [decide_true] at heq
  have heq2 : ∀ wz, (Op.equalIn 10000 23 (.agg #[.int .u32 V.a, .int .u32 V.b, .int .u32 V.c, .int .u32 V.d, .int .u32 V.e, .int .u32 V.f, .int .u32 V.g, .int .u32 V.h]) (.agg #[.int .u32 V.a, .int .u32 V.b, .int .u32 V.c, .int .u32 V.d, .int .u32 V.e, .int .u32 V.f, .int .u32 V.g, .int .u32 V.h])).run Tryd.prog wz = .ok true wz := heq
  have hs : ∀ o1 o2, Calls Tryd.prog 10 #[.slice a1 l.length c1, .slice a2 l.length c2] ((w.alloc o1).alloc o2) fun e w' => e = .returned (.bool true) ∧ Below w.heap.size w w' := by
    intro o1 o2
    have hB : Below w.heap.size w ((w.alloc o1).alloc o2) := ((Below.refl _ _).alloc (Nat.le_refl _) _).alloc (by simp) _
    refine (sameb_yes a1 a2 c1 c2 _ l _ rfl hm (h1.mono hB) (h2.mono hB)).mono ?_
    rintro e w' ⟨he, hb⟩
    exact ⟨he, hB.trans (hb.mono (by simp; omega))⟩
  have hs' := Lib.hid hs
  clear heq hs h1 h2 hm
  generalize l.length = n at *
  unfold millV
  go_enter Tryd.func9, Tryd.ntmps9
  go_wp2_with (go_at_call 10; refine (hs'.out _ _).mono ?_; rintro e w' ⟨rfl, hb⟩; have hb' := Lib.hid hb; clear hb)
  go_ret
  exact ⟨rfl, hb'.out⟩
end Go.Proofs.YtdlblhoaddfanaaDoor
namespace Go.Proofs.YtdlblhoaddfanaaDoor
open Go.RowKit Go.YtdlblhoaddfanaaDoor
set_option linter.unusedVariables false
/-- The two listed variables. -/
def GlO (Tg Tf : TypeId) (w : World) : Prop := w.heap[2]? = some (.cells (u32s constW) Tg (0, 0)) ∧ w.heap[0]? = some (.cells firstW.cells Tf (0, 0))
theorem GlO.mono {Tg Tf : TypeId} {w w' : World} (h : GlO Tg Tf w) (hb : Below w.heap.size w w') : GlO Tg Tf w' :=
  ⟨(hb.block _ (Array.getElem?_eq_some_iff.1 h.1).1).trans h.1, (hb.block _ (Array.getElem?_eq_some_iff.1 h.2).1).trans h.2⟩
theorem blocksF_ok (v : V8) (l : List Int) (hv : v.ok) : (blocksF v l).ok := by unfold blocksF; exact grindN_ok _ _ _ hv
end Go.Proofs.YtdlblhoaddfanaaDoor
namespace Go.Proofs.YtdlblhoaddfanaaDoor
open Go.RowKit Go.YtdlblhoaddfanaaDoor
set_option linter.unusedVariables false
theorem below_aD (w : World) (o : Obj) : Below w.heap.size w (w.alloc o) := (Below.refl _ _).alloc (Nat.le_refl _) _
theorem rowD {w w' : World} {g : Nat} {o : Obj} (h : w.heap[g]? = some o) (hb : Below w.heap.size w w') : w'.heap[g]? = some o := (hb.block g (Array.getElem?_eq_some_iff.1 h).1).trans h
theorem own_lit0 {w : World} {g B : Nat} (hg : w.heap[g]? = some (.cells #[] 5 (0, 0))) (hB : B ≤ g) : OwnB B 5 w (.slice (some ⟨g, 0, none⟩) 0 0) [] :=
  ⟨rfl, .inr ⟨g, 0, _, rfl, hB, hg, Nat.le_refl _, by decide, rfl, rfl⟩⟩
end Go.Proofs.YtdlblhoaddfanaaDoor
namespace Go
namespace YtdlblhoaddfanaaDoor
set_option linter.unusedVariables false
section
variable {P : Program} {ops : Array Oper} {md : Region.Mode} {Q : Exit → Act → World → Prop}
/-- What an operation that ends well leaves: a value and a world, of which R is true. -/
def fxUpon (P : Program) (R : Value → World → Prop) : Result Next → Prop
  | .ok (.value v) w' => R v w'
  | .ok .skip w' => R undef w'
  | .ok (.enter f args) w' => Calls P f args w' fun e w'' => ∃ v, e = .returned v ∧ R v w''
  | _ => False
def FxStep (P : Program) (ops : Array Oper) (o : Oper) (a : Act) (w : World) (R : Value → World → Prop) : Prop :=
  if Region.wanted o (yielded ops a.tmps) = true then fxUpon P R ((execOp a.eval o).run P w) else R undef w
theorem fx_wpOp {i : Nat} {o : Oper} {a : Act} {w : World} {R : Value → World → Prop} {K : Act → World → Prop} (hi : ops[i]? = some o) (h : FxStep P ops o a w R) (hK : ∀ v w', R v w' → K (a.put o.dst v) w') : wpOp P ops Q i K a w := by
  unfold wpOp
  simp only [hi]
  unfold FxStep at h
  split
  · rename_i hw
    rw [if_pos hw] at h
    refine .inl ?_
    unfold Oper.wp
    generalize (execOp a.eval o).run P w = r at h
    cases r with
    | halt x w' => cases x <;> exact h.elim
    | ok nx w' =>
      cases nx with
      | value v => exact hK v w' h
      | skip => exact hK undef w' h
      | defer d => exact h.elim
      | row r a => exact h.elim
      | enter f args =>
        refine Calls.mono h fun e w'' he => ?_
        obtain ⟨v, rfl, hR⟩ := he
        exact hK v w'' hR
      | _ => exact h.elim
  · rename_i hw
    rw [if_neg hw] at h
    exact hK undef w h
/-- The frame: those of the first k operations that L names have put their values. -/
def fxF (ops : Array Oper) (vs : Nat → Value) (L : Nat → Bool) (a0 : Act) : Nat → Act
  | 0 => a0
  | k + 1 => if L k = true then (fxF ops vs L a0 k).put ((ops[k]?).bind (·.dst)) (vs k) else fxF ops vs L a0 k
abbrev fxT : Nat → Bool := fun _ => true
theorem put_tmps_ne (a : Act) (x : Option Tmp) (v : Value) (t : Tmp) (h : x ≠ some t) : (a.put x v).tmps[t]? = a.tmps[t]? := by
  cases x with
  | none => rfl
  | some d =>
    have hne : d ≠ t := fun e => h (by rw [e])
    simp [Act.put, Array.getElem?_setIfInBounds_ne hne]
theorem put_tmps_congr (a b : Act) (x : Option Tmp) (v : Value) (t : Tmp) (h : a.tmps[t]? = b.tmps[t]?) : (a.put x v).tmps[t]? = (b.put x v).tmps[t]? := by
  cases x with
  | none => exact h
  | some d =>
    by_cases e : d = t
    · subst e
      simp only [Act.put, Array.getElem?_setIfInBounds, if_true]
      have h1 : d < a.tmps.size ↔ d < b.tmps.size := by
        constructor
        · intro hl
          rw [Array.getElem?_eq_getElem hl] at h
          exact (Array.getElem?_eq_some_iff.1 h.symm).1
        · intro hl
          rw [Array.getElem?_eq_getElem hl] at h
          exact (Array.getElem?_eq_some_iff.1 h).1
      by_cases hl : d < a.tmps.size
      · rw [if_pos hl, if_pos (h1.1 hl)]
      · rw [if_neg hl, if_neg (fun h2 => hl (h1.2 h2))]
    · simp only [Act.put, Array.getElem?_setIfInBounds_ne e]; exact h
theorem eval_tmps (a b : Act) (x : Operand) (h : ∀ t, x = .tmp t → a.tmps[t]? = b.tmps[t]?) : a.eval x = b.eval x := by
  cases x with
  | tmp t => simp only [Act.eval, Array.getD_eq_getD_getElem?, h t rfl]
  | _ => rfl
/-- A slot that the operation i looks at: it has what the lexical order gives. -/
theorem fxF_look (vs : Nat → Value) (L : Nat → Bool) (a0 : Act) (n i : Nat) (hi : i ≤ n) (t : Tmp) (hl : ∀ j, j < n → (ops[j]?).bind (·.dst) = some t → (j < i → L j = true) ∧ (i ≤ j → L j = false)) :
    (fxF ops vs L a0 n).tmps[t]? = (fxF ops vs fxT a0 i).tmps[t]? := by
  have h1 : ∀ k, k ≤ i → (fxF ops vs L a0 k).tmps[t]? = (fxF ops vs fxT a0 k).tmps[t]? := by
    intro k
    induction k with
    | zero => intro _; rfl
    | succ k ih =>
      intro hk
      have ih := ih (by omega)
      simp only [fxF, fxT, if_true]
      by_cases hd : (ops[k]?).bind (·.dst) = some t
      · rw [if_pos ((hl k (by omega) hd).1 (by omega))]
        exact put_tmps_congr _ _ _ _ _ ih
      · rw [put_tmps_ne _ _ _ _ hd]
        split
        · rw [put_tmps_ne _ _ _ _ hd]; exact ih
        · exact ih
  have h2 : ∀ d, i + d ≤ n → (fxF ops vs L a0 (i + d)).tmps[t]? = (fxF ops vs L a0 i).tmps[t]? := by
    intro d
    induction d with
    | zero => intro _; rfl
    | succ d ih =>
      intro hk
      rw [← ih (by omega)]
      show (fxF ops vs L a0 (i + d + 1)).tmps[t]? = _
      simp only [fxF]
      split
      · rename_i hL
        refine put_tmps_ne _ _ _ _ fun hd => ?_
        rw [(hl (i + d) (by omega) hd).2 (by omega)] at hL; cases hL
      · rfl
  have := h2 (n - i) (by omega)
  rw [show i + (n - i) = n by omega] at this
  rw [this, h1 i (Nat.le_refl _)]
theorem fxF_agree (vs vs' : Nat → Value) (L L' : Nat → Bool) (a0 : Act) (k : Nat) (h : ∀ j, j < k → L j = L' j ∧ (L j = true → vs j = vs' j)) : fxF ops vs L a0 k = fxF ops vs' L' a0 k := by
  induction k with
  | zero => rfl
  | succ k ih =>
    have h1 := h k (Nat.lt_succ_self _)
    simp only [fxF]
    rw [ih fun j hj => h j (by omega), ← h1.1]
    split
    · rename_i hL; rw [h1.2 hL]
    · rfl
theorem fxF_put (vs : Nat → Value) (L : Nat → Bool) (a0 : Act) (n i : Nat) (v : Value) (hin : i < n) (hL : L i = false) (hd : ∀ k, i < k → k < n → L k = true → ∀ d, (ops[i]?).bind (·.dst) = some d → (ops[k]?).bind (·.dst) ≠ some d) :
    (fxF ops vs L a0 n).put ((ops[i]?).bind (·.dst)) v = fxF ops (fun j => if j = i then v else vs j) (fun j => if j = i then true else L j) a0 n := by
  have key : ∀ d, i + 1 + d ≤ n → (fxF ops vs L a0 (i + 1 + d)).put ((ops[i]?).bind (·.dst)) v = fxF ops (fun j => if j = i then v else vs j) (fun j => if j = i then true else L j) a0 (i + 1 + d) := by
    intro d
    induction d with
    | zero =>
      intro _
      simp only [fxF, Nat.add_zero, if_true, hL]
      rw [if_neg (by decide)]
      congr 1
      exact fxF_agree _ _ _ _ _ _ fun j hj => by
        have hne : j ≠ i := by omega
        simp [hne]
    | succ d ih =>
      intro hk
      have ih := ih (by omega)
      have hne : i + 1 + d ≠ i := by omega
      show (fxF ops vs L a0 (i + 1 + d + 1)).put _ v = fxF ops _ _ a0 (i + 1 + d + 1)
      simp only [fxF, if_neg hne]
      by_cases hLk : L (i + 1 + d) = true
      · rw [if_pos hLk, if_pos hLk, ← ih]
        exact (Act.put_comm _ _ _ fun d' hd' hd2 => hd (i + 1 + d) (by omega) (by omega) hLk d' hd2 hd').trans rfl
      · rw [if_neg hLk, if_neg hLk]; exact ih
  have := key (n - (i + 1)) (by omega)
  rwa [show i + 1 + (n - (i + 1)) = n by omega] at this
/-- The waiting of the operations, and the frames, as' they are to be; A names for each operation all that must come before it. -/
def fxB (ops : Array Oper) (n : Nat) (A : List (List Nat)) : Bool :=
  Region.noSelect ops && decide (n ≤ ops.size) &&
  ((List.range ops.size).all fun i => match ops[i]? with
    | none => true
    | some o => (o.after.all fun e => !Region.binds .any e || decide (e.on < i)) && ((A.getD i []).all fun j => decide (j < i) && o.after.any fun e => Region.binds .any e && (e.on == j || (A.getD e.on []).contains j))) &&
  ((List.range ops.size).all fun i => decide (i < n) || (List.range n).all fun j => (A.getD i []).contains j) &&
  ((List.range n).all fun i => match ops[i]? with
    | none => true
    | some o => (List.range n).all fun j => match (ops[j]?).bind (·.dst) with
      | none => true
      | some d => (!(o.looksAt ops).contains d || (decide (j < i) && (A.getD i []).contains j) || (decide (i < j) && (A.getD j []).contains i) || decide (j = i)) &&
        (!(o.dst == some d) || decide (j ≤ i) || (A.getD j []).contains i)) &&
  Region.seqB .any ops (ops.size - n) n ((Array.replicate n true) ++ (Array.replicate (ops.size - n) false))
structure FxOk (ops : Array Oper) (n : Nat) (A : List (List Nat)) : Prop where
  sel : Region.noSelect ops = true
  le : n ≤ ops.size
  aft : ∀ i o, ops[i]? = some o → ∀ e ∈ o.after, Region.binds .any e = true → e.on < i
  anc : ∀ i o, ops[i]? = some o → ∀ j ∈ A.getD i [], j < i ∧ ∃ e ∈ o.after, Region.binds .any e = true ∧ (e.on = j ∨ j ∈ A.getD e.on [])
  tail : ∀ i, n ≤ i → i < ops.size → ∀ j, j < n → j ∈ A.getD i []
  look : ∀ i o j d, i < n → j < n → ops[i]? = some o → (ops[j]?).bind (·.dst) = some d → d ∈ o.looksAt ops → (j < i ∧ j ∈ A.getD i []) ∨ (i < j ∧ i ∈ A.getD j []) ∨ j = i
  dst : ∀ i o j d, i < n → j < n → ops[i]? = some o → (ops[j]?).bind (·.dst) = some d → o.dst = some d → i < j → i ∈ A.getD j []
  seq : Region.seqB .any ops (ops.size - n) n ((Array.replicate n true) ++ (Array.replicate (ops.size - n) false)) = true
theorem fxB_ok {n : Nat} {A : List (List Nat)} (h : fxB ops n A = true) : FxOk ops n A := by
  unfold fxB at h
  simp only [Bool.and_eq_true, decide_eq_true_eq] at h
  obtain ⟨⟨⟨⟨⟨h1, h2⟩, h3⟩, h4⟩, h5⟩, h6⟩ := h
  refine ⟨h1, h2, fun i o ho e he hb => ?_, fun i o ho j hj => ?_, fun i hi hs j hj => ?_, fun i o j d hi hj ho hd hl => ?_, fun i o j d hi hj ho hd hl hij => ?_, h6⟩
  · have hi := (Array.getElem?_eq_some_iff.1 ho).1
    have k := List.all_eq_true.1 h3 i (List.mem_range.2 hi)
    simp only [ho, Bool.and_eq_true] at k
    have k1 := Array.all_eq_true'.1 k.1 e he
    simpa [hb] using k1
  · have hi := (Array.getElem?_eq_some_iff.1 ho).1
    have k := List.all_eq_true.1 h3 i (List.mem_range.2 hi)
    simp only [ho, Bool.and_eq_true] at k
    have k1 := List.all_eq_true.1 k.2 j hj
    simp only [Bool.and_eq_true, decide_eq_true_eq] at k1
    refine ⟨k1.1, ?_⟩
    obtain ⟨e, he, hb⟩ := Array.any_eq_true'.1 k1.2
    simp only [Bool.and_eq_true, Bool.or_eq_true, beq_iff_eq, List.contains_iff_mem] at hb
    exact ⟨e, he, hb.1, hb.2⟩
  · have k := List.all_eq_true.1 h4 i (List.mem_range.2 hs)
    rw [Bool.or_eq_true, decide_eq_true_eq] at k
    rcases k with k | k
    · omega
    · have := List.all_eq_true.1 k j (List.mem_range.2 hj)
      simpa using this
  · have k := List.all_eq_true.1 h5 i (List.mem_range.2 hi)
    simp only [ho] at k
    have k1 := List.all_eq_true.1 k j (List.mem_range.2 hj)
    simp only [hd, Bool.and_eq_true] at k1
    have k2 := k1.1
    simp only [Bool.or_eq_true, Bool.and_eq_true, decide_eq_true_eq, List.contains_iff_mem, Bool.not_eq_true'] at k2
    rcases k2 with ((k2 | k2) | k2) | k2
    · have : (o.looksAt ops).contains d = true := by simpa using hl
      rw [this] at k2; cases k2
    · exact .inl k2
    · exact .inr (.inl k2)
    · exact .inr (.inr k2)
  · have k := List.all_eq_true.1 h5 i (List.mem_range.2 hi)
    simp only [ho] at k
    have k1 := List.all_eq_true.1 k j (List.mem_range.2 hj)
    simp only [hd, Bool.and_eq_true] at k1
    have k2 := k1.2
    simp only [Bool.or_eq_true, decide_eq_true_eq, List.contains_iff_mem, Bool.not_eq_true'] at k2
    rcases k2 with (k2 | k2) | k2
    · rw [hl] at k2; simp at k2
    · omega
    · exact k2
theorem looks_tmp {o : Oper} {t : Tmp} (h : .tmp t ∈ o.op.operands) : t ∈ o.looksAt ops := by
  unfold Oper.looksAt
  rw [List.mem_append]
  refine .inl ?_
  rw [List.mem_filterMap]
  exact ⟨.tmp t, by simpa using h, rfl⟩
theorem looks_guard {o : Oper} {g : Nat} {b : Bool} (h : o.guard = some (g, b)) {t : Tmp} (ht : (ops[g]?).bind (·.dst) = some t) : t ∈ o.looksAt ops := by
  unfold Oper.looksAt
  rw [List.mem_append]
  refine .inr ?_
  simp [h, ht]
theorem fx_same {o : Oper} (hs : ∀ cs b, o.op ≠ .select cs b) (a b : Act) (h : ∀ t, t ∈ o.looksAt ops → a.tmps[t]? = b.tmps[t]?) (w : World) (R : Value → World → Prop) : FxStep P ops o a w R = FxStep P ops o b w R := by
  have h1 : execOp a.eval o = execOp b.eval o := execOp_congr o hs fun x hx => eval_tmps a b x fun t ht => h t (looks_tmp (by rw [← ht]; exact hx))
  have h2 : Region.wanted o (yielded ops a.tmps) = Region.wanted o (yielded ops b.tmps) := by
    unfold Region.wanted
    cases hg : o.guard with
    | none => rfl
    | some gw =>
      obtain ⟨g, wnt⟩ := gw
      simp only
      have h3 : yielded ops a.tmps g = yielded ops b.tmps g := by
        unfold yielded
        cases hd : (ops[g]?).bind (·.dst) with
        | none => rfl
        | some t => simp only [Option.bind_some, h t (looks_guard hg hd)]
      rw [h3]
  unfold FxStep
  rw [h1, h2]
theorem anc_listed {n : Nat} {A : List (List Nat)} (hB : FxOk ops n A) {listed : Array Bool} (cl : Closed .any ops listed) :
    ∀ i o, ops[i]? = some o → (∀ e ∈ o.after, Region.binds .any e = true → listed.getD e.on false = true) → ∀ j ∈ A.getD i [], listed.getD j false = true := by
  intro i
  induction i using Nat.strongRecOn with
  | _ i ih =>
    intro o ho hall j hj
    obtain ⟨_, e, he, hb, h | h⟩ := hB.anc i o ho j hj
    · rw [← h]; exact hall e he hb
    · have hon := hB.aft i o ho e he hb
      have hlt : e.on < ops.size := Nat.lt_trans hon (Array.getElem?_eq_some_iff.1 ho).1
      exact ih e.on hon _ (Array.getElem?_eq_getElem hlt) (fun e2 he2 hb2 => cl.2 _ _ (Array.getElem?_eq_getElem hlt) (hall e he hb) e2 he2 hb2) j h
/-- How many of the first n are not listed. -/
def fxLeft (listed : Array Bool) (n : Nat) : Nat := ((List.range n).filter fun j => !listed.getD j false).length
theorem fxLeft_set {listed : Array Bool} {n i : Nat} (hi : i < n) (hs : i < listed.size) (h : listed.getD i false = false) : fxLeft (listed.setIfInBounds i true) n + 1 = fxLeft listed n := by
  have gi : (listed.setIfInBounds i true).getD i false = true := by simp [hs]
  have go : ∀ j, j ≠ i → (listed.setIfInBounds i true).getD j false = listed.getD j false := fun j hj => getD_set_ne false (fun e => hj e.symm)
  have key : ∀ m, fxLeft (listed.setIfInBounds i true) m + (if i < m then 1 else 0) = fxLeft listed m := by
    intro m
    induction m with
    | zero => rfl
    | succ m ih =>
      unfold fxLeft at ih ⊢
      rw [List.range_succ, List.filter_append, List.filter_append, List.length_append, List.length_append, ← ih]
      by_cases e : m = i
      · subst e
        rw [if_neg (Nat.lt_irrefl m), if_pos (Nat.lt_succ_self m)]
        simp only [List.filter_cons, List.filter_nil, gi, h, Bool.not_true, Bool.not_false, if_true, Bool.false_eq_true, if_false, List.length_nil, List.length_cons]
      · rw [show (if i < m + 1 then 1 else 0) = (if i < m then 1 else 0) by
          by_cases h1 : i < m
          · rw [if_pos h1, if_pos (by omega)]
          · rw [if_neg h1, if_neg (by omega)]]
        simp only [List.filter_cons, List.filter_nil, go m e]
        omega
  have := key n
  rw [if_pos hi] at this
  exact this
theorem fxLeft_zero {listed : Array Bool} {n : Nat} (h : fxLeft listed n = 0) : ∀ j, j < n → listed.getD j false = true := fun j hj => by
  have h1 := List.eq_nil_of_length_eq_zero h
  rw [List.filter_eq_nil_iff] at h1
  simpa using h1 j (List.mem_range.2 hj)
theorem fxLeft_pos {listed : Array Bool} {n : Nat} (h : fxLeft listed n ≠ 0) : ∃ j, j < n ∧ listed.getD j false = false := by
  refine Classical.byContradiction fun hn => h ?_
  unfold fxLeft
  rw [List.length_eq_zero_iff, List.filter_eq_nil_iff]
  intro j hj
  have hj := List.mem_range.1 hj
  cases hb : listed.getD j false with
  | true => simp
  | false => exact absurd ⟨j, hj, hb⟩ hn
/-- The operation i may come behind j, if j does not have to come behind i. -/
def fxAfter (A : List (List Nat)) (i j : Nat) : Bool := decide (i ≠ j) && !(A.getD j []).contains i
/-- The operation i may come before j. -/
def fxBefore (A : List (List Nat)) (i j : Nat) : Bool := decide (i ≠ j) && !(A.getD i []).contains j
section
variable {n : Nat} {A : List (List Nat)} {Ψ : Nat → World → Prop} {Φ : Nat → Value → World → Prop} {G : Nat → World → World → Prop} {Inv : World → Prop} {a0 : Act}
theorem fx_any (hB : FxOk ops n A) (hI : ∀ i w w', i < n → Inv w → G i w w' → Inv w')
    (hG : ∀ i j v w w', i < n → j < n → fxAfter A i j = true → Inv w → Φ j v w → G i w w' → Φ j v w')
    (hP : ∀ i j w w', i < n → j < n → fxBefore A i j = true → Inv w → Ψ j w → G i w w' → Ψ j w')
    (hstep : ∀ i o vs w, i < n → ops[i]? = some o → Inv w → Ψ i w → (∀ j, j ∈ A.getD i [] → Φ j (vs j) w) → FxStep P ops o (fxF ops vs fxT a0 i) w fun v w' => Φ i v w' ∧ G i w w')
    (hdone : ∀ vs w, Inv w → (∀ j, j < n → Φ j (vs j) w) → wpList P ops Q (ops.toList.drop n) (fxF ops vs fxT a0 n) w) :
    ∀ (d : Nat) (listed : Array Bool) (vs : Nat → Value) (w : World), Closed .any ops listed → (∀ j, n ≤ j → j < ops.size → listed.getD j false = false) → fxLeft listed n = d → Inv w → (∀ j, j < n → listed.getD j false = false → Ψ j w) →
      (∀ j, j < n → listed.getD j false = true → Φ j (vs j) w) → wpAny P .any ops Q (d + (ops.size - n)) listed (fxF ops vs (fun j => listed.getD j false) a0 n) w := by
  intro d
  induction d with
  | zero =>
    intro listed vs w cl hout hleft hinv hpre hf
    have hall := fxLeft_zero hleft
    have hL : listed = (Array.replicate n true) ++ (Array.replicate (ops.size - n) false) := by
      refine Array.ext (by rw [cl.1]; have := hB.le; simp; omega) fun j hj1 hj2 => ?_
      have e : listed.getD j false = listed[j] := by simp [Array.getD, hj1]
      rw [← e]
      by_cases hjn : j < n
      · rw [hall j hjn, Array.getElem_append_left (by simpa using hjn)]; simp
      · rw [hout j (by omega) (by rw [← cl.1]; exact hj1), Array.getElem_append_right (by simpa using hjn)]; simp
    have hfr : fxF ops vs (fun j => listed.getD j false) a0 n = fxF ops vs fxT a0 n := fxF_agree _ _ _ _ _ _ fun j hj => ⟨hall j hj, fun _ => rfl⟩
    rw [hfr, Nat.zero_add]
    have hlen : (ops.toList.drop n).length = ops.size - n := by simp
    have h := wpAny_of_seq (P := P) (ops := ops) (md := .any) (Q' := Q) (ops.toList.drop n) n listed (fxF ops vs fxT a0 n) w (fun j => by simp [List.getElem?_drop]) (by rw [hlen, hL]; exact hB.seq) (hdone vs w hinv fun j hj => hf j hj (hall j hj))
    rwa [hlen] at h
  | succ d ih =>
    intro listed vs w cl hout hleft hinv hpre hf
    rw [show d + 1 + (ops.size - n) = (d + (ops.size - n)) + 1 by omega]
    refine ⟨fun hnil => ?_, fun i hi => ?_⟩
    · exfalso
      obtain ⟨j, hj, hju⟩ := fxLeft_pos (listed := listed) (n := n) (by omega)
      have hex : ∃ j, j ∈ Region.ready .any ops listed := by
        clear hnil
        induction j using Nat.strongRecOn with
        | _ j jh =>
          have hlt : j < ops.size := Nat.lt_of_lt_of_le hj hB.le
          by_cases ha : ∀ e ∈ ops[j].after, Region.binds .any e = true → listed.getD e.on false = true
          · refine ⟨j, mem_ready.2 ⟨?_, _, Array.getElem?_eq_getElem hlt, ha⟩⟩
            have hjs : j < listed.size := by rw [cl.1]; exact hlt
            simp [Array.getD, hjs] at hju ⊢
            exact hju
          · obtain ⟨e, he⟩ := Classical.not_forall.1 ha
            obtain ⟨he1, he2⟩ := Classical.not_imp.1 he
            obtain ⟨hb, hu⟩ := Classical.not_imp.1 he2
            have hon := hB.aft j _ (Array.getElem?_eq_getElem hlt) e he1 hb
            exact jh e.on hon (by omega) (by simpa using hu)
      obtain ⟨j', hj'⟩ := hex
      rw [hnil] at hj'; cases hj'
    · obtain ⟨hiu, o, ho, hall⟩ := mem_ready.1 hi
      have his : i < ops.size := (Array.getElem?_eq_some_iff.1 ho).1
      have hils : i < listed.size := by rw [cl.1]; exact his
      have hif : listed.getD i false = false := by simp [Array.getD, hils] at hiu ⊢; exact hiu
      have hanc := anc_listed hB cl i o ho hall
      rcases Nat.lt_or_ge i n with hin | hin
      · have hlk : ∀ t, t ∈ o.looksAt ops → (fxF ops vs (fun j => listed.getD j false) a0 n).tmps[t]? = (fxF ops vs fxT a0 i).tmps[t]? := fun t ht =>
          fxF_look vs _ a0 n i (Nat.le_of_lt hin) t fun j hj hd => by
            rcases hB.look i o j t hin hj ho hd ht with ⟨h1, h2⟩ | ⟨h1, h2⟩ | h1
            · exact ⟨fun _ => hanc j h2, fun h => by omega⟩
            · refine ⟨fun h => by omega, fun _ => ?_⟩
              cases hb : listed.getD j false with
              | false => rfl
              | true =>
                have hjs : j < ops.size := Nat.lt_of_lt_of_le hj hB.le
                have := anc_listed hB cl j _ (Array.getElem?_eq_getElem hjs) (fun e he hb2 => cl.2 j _ (Array.getElem?_eq_getElem hjs) hb e he hb2) i h2
                rw [hif] at this; cases this
            · subst h1; exact ⟨fun h => by omega, fun _ => hif⟩
        have hsel : ∀ cs b, o.op ≠ .select cs b := fun cs b => Region.noSelect_spec hB.sel i o cs b ho
        have hst := hstep i o vs w hin ho hinv (hpre i hin hif) fun j hj => hf j (by have := (hB.anc i o ho j hj).1; omega) (hanc j hj)
        rw [← fx_same hsel _ _ hlk] at hst
        refine fx_wpOp ho hst fun v w' ⟨hΦ, hg⟩ => ?_
        have hdd : o.dst = (ops[i]?).bind (·.dst) := by rw [ho]; rfl
        have hfp := fxF_put (ops := ops) vs (fun j => listed.getD j false) a0 n i v hin hif fun k hk hkn hLk d' hd' hd2 => by
          have hks : k < ops.size := Nat.lt_of_lt_of_le hkn hB.le
          rw [ho] at hd'
          have h2 := hB.dst i o k d' hin hkn ho hd2 hd' hk
          have := anc_listed hB cl k _ (Array.getElem?_eq_getElem hks) (fun e he hb2 => cl.2 k _ (Array.getElem?_eq_getElem hks) hLk e he hb2) i h2
          rw [hif] at this; cases this
        rw [hdd, hfp]
        have hfr : fxF ops (fun j => if j = i then v else vs j) (fun j => if j = i then true else listed.getD j false) a0 n = fxF ops (fun j => if j = i then v else vs j) (fun j => (listed.setIfInBounds i true).getD j false) a0 n := fxF_agree _ _ _ _ _ _ fun j hj => by
          refine ⟨?_, fun _ => rfl⟩
          by_cases e : j = i
          · subst e; simp [hils]
          · rw [if_neg e, getD_set_ne false (fun h => e h.symm)]
        rw [hfr]
        refine ih _ _ _ (cl.set hi) (fun j h1 h2 => ?_) ?_ (hI i w w' hin hinv hg) (fun j hj hjl => ?_) fun j hj hjl => ?_
        · rw [getD_set_ne false (by omega)]; exact hout j h1 h2
        · have := fxLeft_set hin hils hif; omega
        · by_cases e : j = i
          · subst e; simp [hils] at hjl
          · rw [getD_set_ne false (fun h => e h.symm)] at hjl
            refine hP i j w w' hin hj ?_ hinv (hpre j hj hjl) hg
            unfold fxBefore
            have hni : j ∉ A.getD i [] := fun hm => by rw [hanc j hm] at hjl; cases hjl
            rw [Bool.and_eq_true, decide_eq_true_eq]
            exact ⟨fun h => e h.symm, by simpa using hni⟩
        · by_cases e : j = i
          · subst e; simp only [if_true]; exact hΦ
          · simp only [if_neg e]
            rw [getD_set_ne false (fun h => e h.symm)] at hjl
            refine hG i j (vs j) w w' hin hj ?_ hinv (hf j hj hjl) hg
            unfold fxAfter
            have hjs : j < ops.size := Nat.lt_of_lt_of_le hj hB.le
            have hni : i ∉ A.getD j [] := fun hm => by
              have := anc_listed hB cl j _ (Array.getElem?_eq_getElem hjs) (fun e he hb2 => cl.2 j _ (Array.getElem?_eq_getElem hjs) hjl e he hb2) i hm
              rw [hif] at this; cases this
            rw [Bool.and_eq_true, decide_eq_true_eq]
            exact ⟨fun h => e h.symm, by simpa using hni⟩
      · exfalso
        obtain ⟨j, hj, hju⟩ := fxLeft_pos (listed := listed) (n := n) (by omega)
        have := hanc j (hB.tail i hin his j hj)
        rw [hju] at this; cases this
/-- **A region that draws its order**: one fact for each of its first n operations, kept by all that may come behind it; what comes behind them is walked as' a list. -/
theorem wp_region_fx {id : Nat} {w : World} {l : List Oper} (n : Nat) (A : List (List Nat)) (hm : P.follows .mixedOrders = true) (hB : fxB l.toArray n A = true)
    (Φ : Nat → Value → World → Prop) (G : Nat → World → World → Prop) (Inv : World → Prop) (Ψ : Nat → World → Prop) (h0 : Inv { w with drawn := w.drawn + 1 }) (hp0 : ∀ j, j < n → Ψ j { w with drawn := w.drawn + 1 })
    (hI : ∀ i w w', i < n → Inv w → G i w w' → Inv w')
    (hG : ∀ i j v w w', i < n → j < n → fxAfter A i j = true → Inv w → Φ j v w → G i w w' → Φ j v w')
    (hP : ∀ i j w w', i < n → j < n → fxBefore A i j = true → Inv w → Ψ j w → G i w w' → Ψ j w')
    (hstep : ∀ i o vs w, i < n → l.toArray[i]? = some o → Inv w → Ψ i w → (∀ j, j ∈ A.getD i [] → Φ j (vs j) w) → FxStep P l.toArray o (fxF l.toArray vs fxT a0 i) w fun v w' => Φ i v w' ∧ G i w w')
    (hdone : ∀ vs w, Inv w → (∀ j, j < n → Φ j (vs j) w) → wpList P l.toArray Q (l.drop n) (fxF l.toArray vs fxT a0 n) w) : (Code.region id l.toArray true).wp P Q a0 w := by
  have hk := fxB_ok hB
  have cl0 : Closed .any l.toArray (Array.replicate l.toArray.size false) := ⟨by simp, fun j oj _ hl => (by rw [getD_replicate_false] at hl; cases hl)⟩
  have hl0 : fxLeft (Array.replicate l.toArray.size false) n = n := by
    unfold fxLeft
    rw [List.filter_eq_self.2 (fun j _ => by rw [getD_replicate_false]; rfl), List.length_range]
  have h := fx_any (a0 := a0) hk hI hG hP hstep (fun vs w h1 h2 => by simpa using hdone vs w h1 h2) n (Array.replicate l.toArray.size false) (fun _ => undef) { w with drawn := w.drawn + 1 } cl0 (fun j _ _ => getD_replicate_false _ _) hl0 h0 (fun j hj _ => hp0 j hj) (fun j _ hl => by rw [getD_replicate_false] at hl; cases hl)
  have hfr : fxF l.toArray (fun _ => undef) (fun j => (Array.replicate l.toArray.size false).getD j false) a0 n = a0 := by
    have : ∀ k, fxF l.toArray (fun _ => undef) (fun j => (Array.replicate l.toArray.size false).getD j false) a0 k = a0 := by
      intro k
      induction k with
      | zero => rfl
      | succ k ih =>
        show (if (Array.replicate l.toArray.size false).getD k false = true then _ else _) = a0
        rw [getD_replicate_false, if_neg (by decide)]; exact ih
    exact this n
  rw [hfr, show n + (l.toArray.size - n) = l.toArray.size by have := hk.le; omega] at h
  exact wp_region_any hm h
end
/-- The last of the first i operations that puts its value into the slot t. -/
def fxLast (ops : Array Oper) (t : Tmp) : Nat → Option Nat
  | 0 => none
  | k + 1 => if ((ops[k]?).bind (·.dst) == some t) = true then some k else fxLast ops t k
theorem fx_old {vs : Nat → Value} {a0 : Act} {t : Tmp} : ∀ i, fxLast ops t i = none → (fxF ops vs fxT a0 i).eval (.tmp t) = a0.eval (.tmp t)
  | 0, _ => rfl
  | k + 1, h => by
    unfold fxLast at h
    split at h
    · cases h
    · rename_i hd
      simp only [fxF, fxT, if_true]
      rw [eval_tmps _ (fxF ops vs fxT a0 k) (.tmp t) (fun t' e => by
        injection e with e
        subst e
        exact put_tmps_ne _ _ _ _ (by simpa using hd))]
      exact fx_old k h
theorem fxF_size {vs : Nat → Value} {a0 : Act} (k : Nat) : (fxF ops vs fxT a0 k).tmps.size = a0.tmps.size := by
  induction k with
  | zero => rfl
  | succ k ih =>
    simp only [fxF, fxT, if_true]
    cases (ops[k]?).bind (·.dst) with
    | none => exact ih
    | some d => simp [Act.put, ih]
theorem fx_new {vs : Nat → Value} {a0 : Act} {t : Tmp} {j : Nat} (ht : t < a0.tmps.size) : ∀ i, fxLast ops t i = some j → (fxF ops vs fxT a0 i).eval (.tmp t) = vs j
  | 0, h => by cases h
  | k + 1, h => by
    unfold fxLast at h
    simp only [fxF, fxT, if_true]
    split at h
    · rename_i hd
      injection h with h
      subst h
      rw [show (ops[k]?).bind (·.dst) = some t by simpa using hd]
      have hs : t < (fxF ops vs fxT a0 k).tmps.size := by rw [fxF_size]; exact ht
      simp [Act.eval, Act.put, Array.getD_eq_getD_getElem?, hs]
    · rename_i hd
      rw [eval_tmps _ (fxF ops vs fxT a0 k) (.tmp t) (fun t' e => by
        injection e with e
        subst e
        exact put_tmps_ne _ _ _ _ (by simpa using hd))]
      exact fx_new ht k h
section
variable {o : Oper} {a : Act} {w : World} {R : Value → World → Prop}
theorem fx_val {v : Value} {w' : World} (hw : Region.wanted o (yielded ops a.tmps) = true) (h : (execOp a.eval o).run P w = .ok (.value v) w') (hR : R v w') : FxStep P ops o a w R := by
  unfold FxStep
  rw [if_pos hw, h]
  exact hR
theorem fx_move (x : Operand) (hg : o.guard = none) (ho : o.op = .move x) (hR : R (a.eval x) w) : FxStep P ops o a w R :=
  fx_val (v := a.eval x) (w' := w) (by simp [Region.wanted, hg]) (by unfold execOp; simp [ho, go_sem]) hR
theorem fx_call {T : Array TypeId} {f : FuncId} {fn : Func} {c : Code} {xs : Array Operand} (us : Array Value) (hw : Region.wanted o (yielded ops a.tmps) = true) (ho : o.op = .call { callee := .value (.func f), args := xs, argTypes := T })
    (hf : P.funcs[f]? = some fn) (hname : (fn.name == "runtime.NumGoroutine") = false) (hb : fn.body = some c) (hx : xs.map a.eval = us) (h3 : a.eval (.func f) = .func (.func f) #[] #[])
    (hc : Calls P f us w fun e w'' => ∃ v, e = .returned v ∧ R v w'') : FxStep P ops o a w R := by
  have hn : fn.name ≠ "runtime.NumGoroutine" := by simpa using hname
  unfold FxStep
  rw [if_pos hw]
  unfold execOp
  generalize a.eval = ev at *
  have hr : (callFunc f us).run P w = .ok (.enter f us) w := by simp [callFunc, hf, hn, hb]
  simp only [ho]
  simp [go_sem, hx, h3]
  rw [hr]
  exact hc
end
end
end YtdlblhoaddfanaaDoor
end Go
namespace Go
namespace YtdlblhoaddfanaaDoor
set_option linter.unusedVariables false
section
variable {P : Program} {ops : Array Oper} {md : Region.Mode} {Q : Exit → Act → World → Prop}
/-- Behind the operation i, another one than i that uses j may come, or the end uses it. -/
def fxNeed (n : Nat) (A U : List (List Nat)) (Uf : List Nat) (i j : Nat) : Bool := Uf.contains j || (List.range n).any fun k => decide (k ≠ i) && !(A.getD i []).contains k && (U.getD k []).contains j
def fxLive (n : Nat) (U : List (List Nat)) (Uf : List Nat) (listed : Array Bool) (j : Nat) : Prop := j ∈ Uf ∨ ∃ k, k < n ∧ listed.getD k false = false ∧ j ∈ U.getD k []
def fxUses (n : Nat) (A U : List (List Nat)) : Bool := (List.range n).all fun k => (U.getD k []).all fun j => (A.getD k []).contains j
theorem fxUses_mem {n : Nat} {A U : List (List Nat)} (h : fxUses n A U = true) {i j : Nat} (hi : i < n) (hj : j ∈ U.getD i []) : j ∈ A.getD i [] := by
  have h1 := List.all_eq_true.1 (List.all_eq_true.1 h i (List.mem_range.2 hi)) j hj
  simpa using h1
section
variable {n : Nat} {A : List (List Nat)} {Ψ : Nat → World → Prop} {Φ : Nat → (Nat → Value) → World → Prop} {G : Nat → World → World → Prop} {Inv : World → Prop} {a0 : Act}
theorem fx_anyU {U : List (List Nat)} {Uf : List Nat} (hB : FxOk ops n A) (hU : fxUses n A U = true) (hI : ∀ i w w', i < n → Inv w → G i w w' → Inv w')
    (hC : ∀ j vs vs' w, j < n → (∀ k, k = j ∨ k ∈ A.getD j [] → vs k = vs' k) → Φ j vs w → Φ j vs' w)
    (hG : ∀ i j vs w w', i < n → j < n → fxAfter A i j = true → fxNeed n A U Uf i j = true → Inv w → Φ j vs w → G i w w' → Φ j vs w')
    (hP : ∀ i j w w', i < n → j < n → fxBefore A i j = true → Inv w → Ψ j w → G i w w' → Ψ j w')
    (hstep : ∀ i o vs w, i < n → ops[i]? = some o → Inv w → Ψ i w → (∀ j, j ∈ U.getD i [] → Φ j vs w) → FxStep P ops o (fxF ops vs fxT a0 i) w fun v w' => Φ i (fun j => if j = i then v else vs j) w' ∧ G i w w')
    (hdone : ∀ vs w, Inv w → (∀ j, j < n → j ∈ Uf → Φ j vs w) → wpList P ops Q (ops.toList.drop n) (fxF ops vs fxT a0 n) w) :
    ∀ (d : Nat) (listed : Array Bool) (vs : Nat → Value) (w : World), Closed .any ops listed → (∀ j, n ≤ j → j < ops.size → listed.getD j false = false) → fxLeft listed n = d → Inv w → (∀ j, j < n → listed.getD j false = false → Ψ j w) →
      (∀ j, j < n → listed.getD j false = true → fxLive n U Uf listed j → Φ j vs w) → wpAny P .any ops Q (d + (ops.size - n)) listed (fxF ops vs (fun j => listed.getD j false) a0 n) w := by
  intro d
  induction d with
  | zero =>
    intro listed vs w cl hout hleft hinv hpre hf
    have hall := fxLeft_zero hleft
    have hL : listed = (Array.replicate n true) ++ (Array.replicate (ops.size - n) false) := by
      refine Array.ext (by rw [cl.1]; have := hB.le; simp; omega) fun j hj1 hj2 => ?_
      have e : listed.getD j false = listed[j] := by simp [Array.getD, hj1]
      rw [← e]
      by_cases hjn : j < n
      · rw [hall j hjn, Array.getElem_append_left (by simpa using hjn)]; simp
      · rw [hout j (by omega) (by rw [← cl.1]; exact hj1), Array.getElem_append_right (by simpa using hjn)]; simp
    have hfr : fxF ops vs (fun j => listed.getD j false) a0 n = fxF ops vs fxT a0 n := fxF_agree _ _ _ _ _ _ fun j hj => ⟨hall j hj, fun _ => rfl⟩
    rw [hfr, Nat.zero_add]
    have hlen : (ops.toList.drop n).length = ops.size - n := by simp
    have h := wpAny_of_seq (P := P) (ops := ops) (md := .any) (Q' := Q) (ops.toList.drop n) n listed (fxF ops vs fxT a0 n) w (fun j => by simp [List.getElem?_drop]) (by rw [hlen, hL]; exact hB.seq) (hdone vs w hinv fun j hj hu => hf j hj (hall j hj) (.inl hu))
    rwa [hlen] at h
  | succ d ih =>
    intro listed vs w cl hout hleft hinv hpre hf
    rw [show d + 1 + (ops.size - n) = (d + (ops.size - n)) + 1 by omega]
    refine ⟨fun hnil => ?_, fun i hi => ?_⟩
    · exfalso
      obtain ⟨j, hj, hju⟩ := fxLeft_pos (listed := listed) (n := n) (by omega)
      have hex : ∃ j, j ∈ Region.ready .any ops listed := by
        clear hnil
        induction j using Nat.strongRecOn with
        | _ j jh =>
          have hlt : j < ops.size := Nat.lt_of_lt_of_le hj hB.le
          by_cases ha : ∀ e ∈ ops[j].after, Region.binds .any e = true → listed.getD e.on false = true
          · refine ⟨j, mem_ready.2 ⟨?_, _, Array.getElem?_eq_getElem hlt, ha⟩⟩
            have hjs : j < listed.size := by rw [cl.1]; exact hlt
            simp [Array.getD, hjs] at hju ⊢
            exact hju
          · obtain ⟨e, he⟩ := Classical.not_forall.1 ha
            obtain ⟨he1, he2⟩ := Classical.not_imp.1 he
            obtain ⟨hb, hu⟩ := Classical.not_imp.1 he2
            have hon := hB.aft j _ (Array.getElem?_eq_getElem hlt) e he1 hb
            exact jh e.on hon (by omega) (by simpa using hu)
      obtain ⟨j', hj'⟩ := hex
      rw [hnil] at hj'; cases hj'
    · obtain ⟨hiu, o, ho, hall⟩ := mem_ready.1 hi
      have his : i < ops.size := (Array.getElem?_eq_some_iff.1 ho).1
      have hils : i < listed.size := by rw [cl.1]; exact his
      have hif : listed.getD i false = false := by simp [Array.getD, hils] at hiu ⊢; exact hiu
      have hanc := anc_listed hB cl i o ho hall
      rcases Nat.lt_or_ge i n with hin | hin
      · have hlk : ∀ t, t ∈ o.looksAt ops → (fxF ops vs (fun j => listed.getD j false) a0 n).tmps[t]? = (fxF ops vs fxT a0 i).tmps[t]? := fun t ht =>
          fxF_look vs _ a0 n i (Nat.le_of_lt hin) t fun j hj hd => by
            rcases hB.look i o j t hin hj ho hd ht with ⟨h1, h2⟩ | ⟨h1, h2⟩ | h1
            · exact ⟨fun _ => hanc j h2, fun h => by omega⟩
            · refine ⟨fun h => by omega, fun _ => ?_⟩
              cases hb : listed.getD j false with
              | false => rfl
              | true =>
                have hjs : j < ops.size := Nat.lt_of_lt_of_le hj hB.le
                have := anc_listed hB cl j _ (Array.getElem?_eq_getElem hjs) (fun e he hb2 => cl.2 j _ (Array.getElem?_eq_getElem hjs) hb e he hb2) i h2
                rw [hif] at this; cases this
            · subst h1; exact ⟨fun h => by omega, fun _ => hif⟩
        have hsel : ∀ cs b, o.op ≠ .select cs b := fun cs b => Region.noSelect_spec hB.sel i o cs b ho
        have hst := hstep i o vs w hin ho hinv (hpre i hin hif) fun j hj => (have hja := fxUses_mem hU hin hj; hf j (by have := (hB.anc i o ho j hja).1; omega) (hanc j hja) (.inr ⟨i, hin, hif, hj⟩))
        rw [← fx_same hsel _ _ hlk] at hst
        refine fx_wpOp ho hst fun v w' ⟨hΦ, hg⟩ => ?_
        have hdd : o.dst = (ops[i]?).bind (·.dst) := by rw [ho]; rfl
        have hfp := fxF_put (ops := ops) vs (fun j => listed.getD j false) a0 n i v hin hif fun k hk hkn hLk d' hd' hd2 => by
          have hks : k < ops.size := Nat.lt_of_lt_of_le hkn hB.le
          rw [ho] at hd'
          have h2 := hB.dst i o k d' hin hkn ho hd2 hd' hk
          have := anc_listed hB cl k _ (Array.getElem?_eq_getElem hks) (fun e he hb2 => cl.2 k _ (Array.getElem?_eq_getElem hks) hLk e he hb2) i h2
          rw [hif] at this; cases this
        rw [hdd, hfp]
        have hfr : fxF ops (fun j => if j = i then v else vs j) (fun j => if j = i then true else listed.getD j false) a0 n = fxF ops (fun j => if j = i then v else vs j) (fun j => (listed.setIfInBounds i true).getD j false) a0 n := fxF_agree _ _ _ _ _ _ fun j hj => by
          refine ⟨?_, fun _ => rfl⟩
          by_cases e : j = i
          · subst e; simp [hils]
          · rw [if_neg e, getD_set_ne false (fun h => e h.symm)]
        rw [hfr]
        refine ih _ _ _ (cl.set hi) (fun j h1 h2 => ?_) ?_ (hI i w w' hin hinv hg) (fun j hj hjl => ?_) fun j hj hjl hlv => ?_
        · rw [getD_set_ne false (by omega)]; exact hout j h1 h2
        · have := fxLeft_set hin hils hif; omega
        · by_cases e : j = i
          · subst e; simp [hils] at hjl
          · rw [getD_set_ne false (fun h => e h.symm)] at hjl
            refine hP i j w w' hin hj ?_ hinv (hpre j hj hjl) hg
            unfold fxBefore
            have hni : j ∉ A.getD i [] := fun hm => by rw [hanc j hm] at hjl; cases hjl
            rw [Bool.and_eq_true, decide_eq_true_eq]
            exact ⟨fun h => e h.symm, by simpa using hni⟩
        · by_cases e : j = i
          · subst e; exact hΦ
          · rw [getD_set_ne false (fun h => e h.symm)] at hjl
            have hlv2 : fxLive n U Uf listed j ∧ fxNeed n A U Uf i j = true := by
              rcases hlv with h | ⟨k, hk, hkl, hku⟩
              · exact ⟨.inl h, by unfold fxNeed; simp [h]⟩
              · have hki : k ≠ i := fun h => by subst h; simp [hils] at hkl
                rw [getD_set_ne false (fun h => hki h.symm)] at hkl
                refine ⟨.inr ⟨k, hk, hkl, hku⟩, ?_⟩
                unfold fxNeed
                rw [Bool.or_eq_true, List.any_eq_true]
                refine .inr ⟨k, List.mem_range.2 hk, ?_⟩
                have hnk : k ∉ A.getD i [] := fun hm => by rw [hanc k hm] at hkl; cases hkl
                rw [Bool.and_eq_true, Bool.and_eq_true, decide_eq_true_eq]
                exact ⟨⟨hki, by simpa using hnk⟩, by simpa using hku⟩
            have hjs : j < ops.size := Nat.lt_of_lt_of_le hj hB.le
            have hni : i ∉ A.getD j [] := fun hm => by
              have := anc_listed hB cl j _ (Array.getElem?_eq_getElem hjs) (fun e he hb2 => cl.2 j _ (Array.getElem?_eq_getElem hjs) hjl e he hb2) i hm
              rw [hif] at this; cases this
            refine hC j vs _ w' hj (fun k hk => ?_) (hG i j vs w w' hin hj ?_ hlv2.2 hinv (hf j hj hjl hlv2.1) hg)
            · have hki : k ≠ i := by
                rcases hk with rfl | hk
                · exact e
                · exact fun h => hni (h ▸ hk)
              simp only [if_neg hki]
            · unfold fxAfter
              rw [Bool.and_eq_true, decide_eq_true_eq]
              exact ⟨fun h => e h.symm, by simpa using hni⟩
      · exfalso
        obtain ⟨j, hj, hju⟩ := fxLeft_pos (listed := listed) (n := n) (by omega)
        have := hanc j (hB.tail i hin his j hj)
        rw [hju] at this; cases this
/-- **A region that draws its order**, its facts used up: one fact for each of its first n operations, kept by all that may come behind it and ahead of one that uses it; what comes behind them is walked as' a list. -/
theorem wp_region_fxu {id : Nat} {w : World} {l : List Oper} (n : Nat) (A U : List (List Nat)) (Uf : List Nat) (hm : P.follows .mixedOrders = true) (hB : fxB l.toArray n A = true) (hU : fxUses n A U = true)
    (Φ : Nat → (Nat → Value) → World → Prop) (G : Nat → World → World → Prop) (Inv : World → Prop) (Ψ : Nat → World → Prop) (h0 : Inv { w with drawn := w.drawn + 1 }) (hp0 : ∀ j, j < n → Ψ j { w with drawn := w.drawn + 1 })
    (hI : ∀ i w w', i < n → Inv w → G i w w' → Inv w')
    (hC : ∀ j vs vs' w, j < n → (∀ k, k = j ∨ k ∈ A.getD j [] → vs k = vs' k) → Φ j vs w → Φ j vs' w)
    (hG : ∀ i j vs w w', i < n → j < n → fxAfter A i j = true → fxNeed n A U Uf i j = true → Inv w → Φ j vs w → G i w w' → Φ j vs w')
    (hP : ∀ i j w w', i < n → j < n → fxBefore A i j = true → Inv w → Ψ j w → G i w w' → Ψ j w')
    (hstep : ∀ i o vs w, i < n → l.toArray[i]? = some o → Inv w → Ψ i w → (∀ j, j ∈ U.getD i [] → Φ j vs w) → FxStep P l.toArray o (fxF l.toArray vs fxT a0 i) w fun v w' => Φ i (fun j => if j = i then v else vs j) w' ∧ G i w w')
    (hdone : ∀ vs w, Inv w → (∀ j, j < n → j ∈ Uf → Φ j vs w) → wpList P l.toArray Q (l.drop n) (fxF l.toArray vs fxT a0 n) w) : (Code.region id l.toArray true).wp P Q a0 w := by
  have hk := fxB_ok hB
  have cl0 : Closed .any l.toArray (Array.replicate l.toArray.size false) := ⟨by simp, fun j oj _ hl => (by rw [getD_replicate_false] at hl; cases hl)⟩
  have hl0 : fxLeft (Array.replicate l.toArray.size false) n = n := by
    unfold fxLeft
    rw [List.filter_eq_self.2 (fun j _ => by rw [getD_replicate_false]; rfl), List.length_range]
  have h := fx_anyU (U := U) (Uf := Uf) (a0 := a0) hk hU hI hC hG hP hstep (fun vs w h1 h2 => by simpa using hdone vs w h1 h2) n (Array.replicate l.toArray.size false) (fun _ => undef) { w with drawn := w.drawn + 1 } cl0 (fun j _ _ => getD_replicate_false _ _) hl0 h0 (fun j hj _ => hp0 j hj) (fun j _ hl _ => by rw [getD_replicate_false] at hl; cases hl)
  have hfr : fxF l.toArray (fun _ => undef) (fun j => (Array.replicate l.toArray.size false).getD j false) a0 n = a0 := by
    have : ∀ k, fxF l.toArray (fun _ => undef) (fun j => (Array.replicate l.toArray.size false).getD j false) a0 k = a0 := by
      intro k
      induction k with
      | zero => rfl
      | succ k ih =>
        show (if (Array.replicate l.toArray.size false).getD k false = true then _ else _) = a0
        rw [getD_replicate_false, if_neg (by decide)]; exact ih
    exact this n
  rw [hfr, show n + (l.toArray.size - n) = l.toArray.size by have := hk.le; omega] at h
  exact wp_region_any hm h
end
theorem fxu_append2 {o : Oper} {a : Act} {w w' : World} {R : Value → World → Prop} {v v' u : Value} (s x : Operand) (t : TypeId) (hg : o.guard = none) (ho : o.op = .call { callee := .builtin .append, args := #[s, x], argTypes := #[t, t] })
    (hs : a.eval s = v) (hx : a.eval x = u) (hrun : (Builtin.append_ #[t, t] o.type #[v, u]).run P w = .ok v' w') (hR : R v' w') : FxStep P ops o a w R :=
  fx_val (v := v') (w' := w') (by simp [Region.wanted, hg]) (by
    unfold execOp
    simp only [ho, resolve, invoke, builtin, Sem.run_bind, Sem.run_pure, Result.andThen_ok, List.map_toArray, List.map_cons, List.map_nil, hs, hx, hrun]) hR
end
end YtdlblhoaddfanaaDoor
end Go

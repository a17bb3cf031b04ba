/- Texts that the row stands on, part 5. -/
import Derived.Test.YtlbgffhipondiaaGreatDoorRClosedGq04
import Derived.Lib.SmallJoins
import Derived.ChangeMaps5
import Derived.Deep.Strs
namespace Go.Proofs.YtlbgffhipondiaaGreatDoor
open Go.RowKit Go.YtlbgffhipondiaaGreatDoor
set_option linter.unusedVariables false
theorem rdW_new (w : World) (g : Nat) (x : Int) (T : TypeId) (h : w.heap[g]? = some (.cells #[.int .u32 x] T (0, 0))) : RdW w (.slice (some ⟨g, 0, none⟩) 1 1) [x] := .inr ⟨g, 0, 1, rfl, Nat.le_refl _, by decide, (Array.getElem?_eq_some_iff.1 h).1, fun i hi => by
  have hi0 : i = 0 := by simpa using hi
  subst hi0
  rw [Nat.zero_add, cell_of_row _ _ _ _ _ _ h]; rfl⟩
theorem below_lit (w : World) (o : Obj) : Below w.heap.size w (w.alloc o).drew := ((Draws.refl _).drewN 1).below ((Below.refl _ _).alloc (Nat.le_refl _) o)
theorem rturn_int (x n : Int) (w : World) (hx : In32 x) (h : 1 ≤ n) (h2 : n ≤ 31) :
    Calls Tryz.prog 240 #[.int .u32 x, .int .i64 n] w fun e w' => e = .returned (.int .u32 (rotr x n)) ∧ ∃ m, w' = w.drewN m := by
  obtain ⟨n, rfl⟩ := Int.eq_ofNat_of_zero_le (show 0 ≤ n by omega)
  exact rturn_any x n w hx.1 hx.2 (by omega) (by omega)
def nextV (a0 a9 a1 a14 : Int) : Int := (((a0 + a9) % 4294967296 + sig0 a1) % 4294967296 + sig1 a14) % 4294967296
theorem nextW_at (x : List Int) (k : Nat) (h : x.length = k + 16) : nextW x = nextV (ith x k) (ith x (k + 9)) (ith x (k + 1)) (ith x (k + 14)) := by
  have e : nextV (ith x k) (ith x (k + 9)) (ith x (k + 1)) (ith x (k + 14)) = (ith x k + ith x (k + 9) + sig0 (ith x (k + 1)) + sig1 (ith x (k + 14))) % 4294967296 := by unfold nextV; omega
  rw [e]; unfold nextW
  rw [h, show k + 16 - 16 = k by omega, show k + 16 - 7 = k + 9 by omega, show k + 16 - 15 = k + 1 by omega, show k + 16 - 2 = k + 14 by omega]
set_option maxRecDepth 100000 in
set_option maxHeartbeats 0 in
theorem rground_any (v : V8) (b o n c : Nat) (l : List Int) (w : World) (hv : v.ok) (hn : 64 ≤ n) (hnc : n ≤ c) (hcm : c ≤ maxLen) (hl : Bytes l)
    (hcell : ∀ i, i < 64 → w.cell? ⟨b, o + i, none⟩ = some (.int .u8 (ith l i))) :
    Calls Tryz.prog 216 #[.agg v.cells, .slice (some ⟨b, o, none⟩) n c] w fun e w' => e = .returned (.agg (groundF v l).cells) ∧ Below w.heap.size w w' := by
  have hbl : b < w.heap.size := World.block_lt_of_cell? _ _ (hcell 0 (by omega))
  unfold maxLen at hcm
  have hcell' := Lib.hid hcell; clear hcell
  have hl' := Lib.hid hl; clear hl
  unfold V8.cells
  go_enter Tryz.func216, Tryz.ntmps216
  go_wp2
  have k1 := Lib.hid ((hp1 (w.alloc (.cells (u32s v.list) 178)) (.cells (u32s [0, 0, 0, 0, 0, 0, 0, 0]) 178) w.heap.size (by simp)).trans (heap_alloc_new w _))
  have k2 := Lib.hid (hn2 w (.cells (u32s v.list) 178) (.cells (u32s [0, 0, 0, 0, 0, 0, 0, 0]) 178))
  have kB := Lib.hid (show Below w.heap.size w ((w.alloc (.cells (u32s v.list) 178)).alloc (.cells (u32s [0, 0, 0, 0, 0, 0, 0, 0]) 178)) from ((Below.refl _ _).alloc (Nat.le_refl _) _).alloc (by simp) _)
  have kz : ((w.alloc (.cells (u32s v.list) 178)).alloc (.cells (u32s [0, 0, 0, 0, 0, 0, 0, 0]) 178)).heap.size = w.heap.size + 2 := by simp
  change Code.wp _ _ _ _ ((w.alloc (.cells (u32s v.list) 178)).alloc (.cells (u32s [0, 0, 0, 0, 0, 0, 0, 0]) 178))
  generalize (w.alloc (.cells (u32s v.list) 178)).alloc (.cells (u32s [0, 0, 0, 0, 0, 0, 0, 0]) 178) = W at *
  go_loopw [5, 6] (fun s i wr => ∃ k : Nat, k ≤ 16 ∧ i = .int .i64 (k : Int) ∧ OwnW W.heap.size 25 wr s (wordsOf l k) ∧ Below W.heap.size W wr) (fun _ i _ => 16 - (intOf i).toNat)
  case atStart => exact ⟨0, by omega, rfl, OwnW.nil _ _ _, Below.refl _ _⟩
  case round =>
    obtain ⟨k, hk, rfl, ho, hb⟩ := hrel
    obtain ⟨sa, sc, rfl⟩ := ho.rd.slice
    have hlen := wordsOf_length l k
    by_cases hlt : k < 16
    · have hq : ∀ j, j < 4 → wr.cell? ⟨b, o + (4 * k + j), none⟩ = some (.int .u8 (ith l (4 * k + j))) := fun j hj => by
        rw [hb.cell (p := ⟨b, o + (4 * k + j), none⟩) (by rw [kz]; exact Nat.lt_of_lt_of_le hbl (by omega)), kB.out.cell (p := ⟨b, o + (4 * k + j), none⟩) hbl]; exact hcell'.out _ (by omega)
      have q0 := hq 0 (by omega); have q1 := hq 1 (by omega); have q2 := hq 2 (by omega); have q3 := hq 3 (by omega)
      rw [Nat.add_zero] at q0
      obtain ⟨a0, a1⟩ := hl'.out (4 * k); obtain ⟨b0, b1⟩ := hl'.out (4 * k + 1); obtain ⟨c0, c1⟩ := hl'.out (4 * k + 2); obtain ⟨d0, d1⟩ := hl'.out (4 * k + 3)
      have hws : wordsOf l (k + 1) = wordsOf l k ++ [word4 (ith l (4 * k)) (ith l (4 * k + 1)) (ith l (4 * k + 2)) (ith l (4 * k + 3))] := rfl
      have ho' := Lib.hid ho; have hb' := Lib.hid hb; have hzw := hb.size; have hws' := Lib.hid hws
      clear ho hb hq hws
      have m3 : 4 * k + 3 < 64 := by omega
      have x0 : IntKind.i64.wrap (4 * (k : Int)) = ((4 * k : Nat) : Int) := by rw [IntWalk.i64_in _ (by omega)]; omega
      generalize 4 * k = m at *
      have x1 : IntKind.i64.wrap ((m : Int) + 1) = (m : Int) + 1 := IntWalk.i64_in _ (by omega)
      have x2 : IntKind.i64.wrap ((m : Int) + 2) = (m : Int) + 2 := IntWalk.i64_in _ (by omega)
      have x3 : IntKind.i64.wrap ((m : Int) + 3) = (m : Int) + 3 := IntWalk.i64_in _ (by omega)
      have y0 : (m : Int) < n := by omega
      have y1 : (m : Int) + 1 < n := by omega
      have y2 : (m : Int) + 2 < n := by omega
      have y3 : (m : Int) + 3 < n := by omega
      have z1 : 0 ≤ (m : Int) + 1 := by omega
      have z2 : 0 ≤ (m : Int) + 2 := by omega
      have z3 : 0 ≤ (m : Int) + 3 := by omega
      have t1 : ((m : Int) + 1).toNat = m + 1 := by omega
      have t2 : ((m : Int) + 2).toNat = m + 2 := by omega
      have t3 : ((m : Int) + 3).toNat = m + 3 := by omega
      have e0 : IntKind.u32.wrap (ith l m) = ith l m := IntWalk.u32_in _ (by omega)
      have e1 : IntKind.u32.wrap (ith l (m + 1)) = ith l (m + 1) := IntWalk.u32_in _ (by omega)
      have e2 : IntKind.u32.wrap (ith l (m + 2)) = ith l (m + 2) := IntWalk.u32_in _ (by omega)
      have e3 : IntKind.u32.wrap (ith l (m + 3)) = ith l (m + 3) := IntWalk.u32_in _ (by omega)
      have e4 : IntKind.u32.wrap (ith l m * 256) = ith l m * 256 := IntWalk.u32_in _ (by omega)
      have e5 : IntKind.u32.wrap (ith l m * 256 + ith l (m + 1)) = ith l m * 256 + ith l (m + 1) := IntWalk.u32_in _ (by omega)
      have e6 : IntKind.u32.wrap ((ith l m * 256 + ith l (m + 1)) * 256) = (ith l m * 256 + ith l (m + 1)) * 256 := IntWalk.u32_in _ (by omega)
      have e7 : IntKind.u32.wrap ((ith l m * 256 + ith l (m + 1)) * 256 + ith l (m + 2)) = (ith l m * 256 + ith l (m + 1)) * 256 + ith l (m + 2) := IntWalk.u32_in _ (by omega)
      have e8 : IntKind.u32.wrap (((ith l m * 256 + ith l (m + 1)) * 256 + ith l (m + 2)) * 256) = ((ith l m * 256 + ith l (m + 1)) * 256 + ith l (m + 2)) * 256 := IntWalk.u32_in _ (by omega)
      have e9 : IntKind.u32.wrap (((ith l m * 256 + ith l (m + 1)) * 256 + ith l (m + 2)) * 256 + ith l (m + 3)) = word4 (ith l m) (ith l (m + 1)) (ith l (m + 2)) (ith l (m + 3)) := by
        rw [IntWalk.u32_in _ (by omega)]; unfold word4; omega
      have hlen' := Lib.hid hlen
      rw [hlen] at ho' ⊢
      generalize word4 (ith l m) (ith l (m + 1)) (ith l (m + 2)) (ith l (m + 3)) = X at *
      clear a0 a1 b0 b1 c0 c1 d0 d1 hlen
      have fin : Hid (∀ v' w', OwnW W.heap.size 25 w' v' (wordsOf l k ++ [X]) → ((wr.alloc (.cells #[.int .u32 X] 25)).drew).grownBy w' (Value.slice sa k sc).ownBlock → ∃ va vc, v' = .slice va (k + 1) vc ∧ OwnW W.heap.size 25 w' v' (wordsOf l (k + 1)) ∧ Below W.heap.size W w') := Lib.hid (by
        intro v' w' h1 h2
        rw [← hws'.out] at h1
        obtain ⟨va, vc, hv'⟩ := h1.rd.slice
        rw [wordsOf_length] at hv'
        exact ⟨va, vc, hv', h1, hb'.out.trans (((below_lit wr _).mono hzw).trans ((ho'.out.kept (below_lit wr _)).below h2 (by simp; omega)))⟩)
      go_wp2
      have kk : Hid (∀ w', Below W.heap.size W w' → w'.cell? ⟨b, o + m, none⟩ = some (.int .u8 (ith l m)) ∧ w'.cell? ⟨b, o + (m + 1), none⟩ = some (.int .u8 (ith l (m + 1))) ∧ w'.cell? ⟨b, o + (m + 2), none⟩ = some (.int .u8 (ith l (m + 2))) ∧ w'.cell? ⟨b, o + (m + 3), none⟩ = some (.int .u8 (ith l (m + 3)))) := Lib.hid (fun w' h => by
        refine ⟨?_, ?_, ?_, ?_⟩ <;> (rw [h.cell (p := ⟨b, _, none⟩) (show b < _ by rw [kz]; omega), ← hb'.out.cell (p := ⟨b, _, none⟩) (show b < _ by rw [kz]; omega)]; assumption))
      go_region_held3 (fun w' => w'.cell? ⟨b, o + m, none⟩ = some (.int .u8 (ith l m)) ∧ w'.cell? ⟨b, o + (m + 1), none⟩ = some (.int .u8 (ith l (m + 1))) ∧ w'.cell? ⟨b, o + (m + 2), none⟩ = some (.int .u8 (ith l (m + 2))) ∧ w'.cell? ⟨b, o + (m + 3), none⟩ = some (.int .u8 (ith l (m + 3))))
        (first | (exact kk.out _ h4'.out) | go_keep)
        ((refine step_appendW (by rfl) _ _ 239 (by rfl) W.heap.size 25 Tryz.underlying239 (by kernel_rfl) (.slice sa k sc) (by rfl) (wordsOf l k) (ho'.out.kept (below_lit wr (.cells #[.int .u32 X] 25))) (.slice (some ⟨wr.heap.size, 0, none⟩) 1 1) (by rfl) [X] (rdW_new _ _ _ _ (heap_alloc_new wr _)) (by rw [hlen'.out]; simp; omega) (by simp; omega) ?_; intro v' w' h1 h2; obtain ⟨va, vc, rfl, h3, h4⟩ := fin.out v' w' h1 h2; have h3' := Lib.hid h3; have h4' := Lib.hid h4; clear h1 h2 h3 h4))
      go_wp2
      go_roundw
      case rel => exact ⟨k + 1, by omega, by go_num, h3'.out, h4'.out⟩
      case measure => simp [intOf]; omega
    · obtain rfl : k = 16 := by omega
      generalize hL : wordsOf l 16 = L0 at *
      have hL32 := Lib.hid (show All32 L0 by rw [← hL]; exact wordsOf_in l hl'.out 16)
      have hLl := Lib.hid hlen
      rw [hlen]
      have hL' := Lib.hid hL
      clear hL hlen
      rw [show (((16 : Nat) : Int)) = 16 from rfl]
      rw [hLl.out] at ho
      go_wp2
      go_loopw [5, 7, 8, 9] (fun s i _ _ wr => ∃ k : Nat, k ≤ 48 ∧ i = .int .i64 (k + 16 : Nat) ∧ OwnW W.heap.size 25 wr s (extW L0 k) ∧ Below W.heap.size W wr) (fun _ i _ _ _ => 64 - (intOf i).toNat)
      case atStart => exact ⟨0, by omega, rfl, ho, hb⟩
      case round =>
        clear ho hb
        obtain ⟨k, hk, rfl, ho, hb⟩ := hrel
        have hxl : (extW L0 k).length = k + 16 := by rw [extW_length, hLl.out]; omega
        have hx32 : All32 (extW L0 k) := extW_in L0 hL32.out k
        have hxs : extW L0 (k + 1) = extW L0 k ++ [nextW (extW L0 k)] := rfl
        rw [nextW_at _ _ hxl] at hxs
        rcases ho.rd with ⟨qa, qc, rfl, _, h0⟩ | ⟨b', o', c', rfl, hc1, hc2, hb', hcl⟩
        · rw [h0] at hxl; simp at hxl
        by_cases hlt : k < 48
        · have c0 := hcl k (by omega); have c1 := hcl (k + 1) (by omega); have c9 := hcl (k + 9) (by omega); have c14 := hcl (k + 14) (by omega)
          have A1 := Lib.hid (hx32 (k + 1)); have A14 := Lib.hid (hx32 (k + 14))
          have hxs' := Lib.hid hxs; have ho' := Lib.hid ho; have hb1 := Lib.hid hb; have hxl' := Lib.hid hxl
          have hzw := hb.size
          rw [hxl] at ho' ⊢
          clear hxs ho hb hxl hcl hx32
          generalize ith (extW L0 k) k = a0 at *
          generalize ith (extW L0 k) (k + 1) = a1 at *
          generalize ith (extW L0 k) (k + 9) = a9 at *
          generalize ith (extW L0 k) (k + 14) = a14 at *
          generalize hy : extW L0 (k + 1) = y at *
          have hy' := Lib.hid hy; clear hy
          generalize extW L0 k = x at *
          unfold maxLen at hc2
          go_wp2
          go_quiet (fail)
          go_wp2
          generalize ht : k + 16 = t at *
          generalize h9 : k + 9 = k9 at *
          have e1 : IntKind.i64.wrap ((t : Int) - 16) = (k : Int) := by rw [IntWalk.i64_in _ (by omega)]; omega
          have e2 : IntKind.i64.wrap ((t : Int) - 7) = (k9 : Int) := by rw [IntWalk.i64_in _ (by omega)]; omega
          have b1 : (k : Int) < (t : Int) := by omega
          have b2 : (k9 : Int) < (t : Int) := by omega
          have b5 : t < 64 := by omega
          have b3 : (0 : Int) ≤ (k : Int) := by omega
          have b4 : (0 : Int) ≤ (k9 : Int) := by omega
          have ht' := Lib.hid ht; have h9' := Lib.hid h9
          clear ht h9
          have r1 : Hid (∀ (n : Int) (w : World), 1 ≤ n → n ≤ 31 → Calls Tryz.prog 240 #[.int .u32 a1, .int .i64 n] w fun e w' => e = .returned (.int .u32 (rotr a1 n)) ∧ ∃ m, w' = w.drewN m) := Lib.hid (fun n w h h2 => rturn_int a1 n w A1.out h h2)
          have r14 : Hid (∀ (n : Int) (w : World), 1 ≤ n → n ≤ 31 → Calls Tryz.prog 240 #[.int .u32 a14, .int .i64 n] w fun e w' => e = .returned (.int .u32 (rotr a14 n)) ∧ ∃ m, w' = w.drewN m) := Lib.hid (fun n w h h2 => rturn_int a14 n w A14.out h h2)
          have fin : Hid (∀ v' w0 w', Below wr.heap.size wr w0 → OwnW W.heap.size 25 w' v' (x ++ [nextV a0 a9 a1 a14]) → w0.grownBy w' (Value.slice (some ⟨b', o', none⟩) t c').ownBlock → ∃ va vc, v' = .slice va (t + 1) vc ∧ OwnW W.heap.size 25 w' v' y ∧ Below W.heap.size W w') := Lib.hid (by
            intro v' w0 w' h0 h1 h2
            obtain ⟨va, vc, hv'⟩ := h1.rd.slice
            rw [List.length_append, hxl'.out] at hv'
            exact ⟨va, vc, hv', by rw [hxs'.out]; exact h1, hb1.out.trans ((h0.mono hzw).trans ((ho'.out.kept h0).below h2 (Nat.le_trans hzw h0.size)))⟩)
          refine wp_region_headN (C := fun w' => ∃ n, w' = wr.drewN n) 30 [0] (by kernel_rfl) (by kernel_rfl) ⟨_, drewN_next _ _⟩ ?_
          simp only [List.take_succ_cons, List.take_zero, List.drop_succ_cons, List.drop_zero]
          refine head_pure (.slice (some ⟨b', o', none⟩) t c') (by rfl) (run_move _ rfl (by rfl)) rfl (fun K hK => ?_); go_simp; refine hK _ ?_; clear hK K
          repeat (refine head_walk (by rfl) (fun K hK => ?_); go_simp; first | (refine hK _ ?_; clear hK K) | (apply Exists.intro; refine ⟨fun _ => ?_, hK _ ?_⟩; (go_at_call 240; first | ((with_reducible refine Calls.quiet_of (r1.out _ _ ?_ ?_)) <;> decide) | ((with_reducible refine Calls.quiet_of (r14.out _ _ ?_ ?_)) <;> decide)); clear hK K))
          refine head_nil ?_
          intro w' hw'
          obtain ⟨nz, rfl⟩ := hw'
          have hbz := Lib.hid (show Below wr.heap.size wr ((wr.drewN nz).alloc (.cells #[.int .u32 (nextV a0 a9 a1 a14)] 25)) from (((Draws.refl _).drewN nz).below (Below.refl _ _)).alloc (by simp) _)
          have hrdz := Lib.hid (show RdW ((wr.drewN nz).alloc (.cells #[.int .u32 (nextV a0 a9 a1 a14)] 25)) (.slice (some ⟨wr.heap.size, 0, none⟩) 1 1) [nextV a0 a9 a1 a14] from rdW_new _ _ _ _ (heap_alloc_new (wr.drewN nz) _))
          go_wp2_with (go_loud (refine appendW rfl _ _ 239 rfl W.heap.size 25 Tryz.underlying239 (by kernel_rfl) (.slice (some ⟨b', o', none⟩) t c') (by rfl) x (ho'.out.kept hbz.out) (.slice (some ⟨wr.heap.size, 0, none⟩) 1 1) (by rfl) [nextV a0 a9 a1 a14] hrdz.out (by rw [hxl'.out]; simp; omega) (Nat.le_trans hzw hbz.out.size) ?_))
          intro v' w' h1 h2
          rw [← kz] at h1
          have h2 := show ((wr.drewN nz).alloc (.cells #[.int .u32 ((a0 + a9 + sig0 a1 + sig1 a14) % 4294967296)] 25)).grownBy w' (Value.slice (some ⟨b', o', none⟩) t c').ownBlock from h2
          rw [show (a0 + a9 + sig0 a1 + sig1 a14) % 4294967296 = nextV a0 a9 a1 a14 by unfold nextV; omega] at h2
          obtain ⟨va, vc, rfl, h3, h4⟩ := fin.out v' _ w' hbz.out h1 h2
          have h3' := Lib.hid h3; have h4' := Lib.hid h4
          clear h1 h2 h3 h4
          refine Stop.go ?_
          go_wp2
          refine NoPanic.normal ?_
          go_wp2
          go_roundw
          case rel => exact ⟨k + 1, by omega, by rw [show k + 1 + 16 = t + 1 by have := ht'.out; omega]; go_num, by rw [hy'.out]; exact h3'.out, h4'.out⟩
          case measure => have := ht'.out; simp [intOf]; omega
        · have hk48 : k = 48 := by omega
          subst hk48
          have hws : extW L0 48 = spreadF l := by rw [← hL'.out]; rfl
          rw [hws] at hcl hxl hxs ho ⊢
          have hsl := spreadF_length l
          have hs32 := Lib.hid (spreadF_in l hl'.out)
          rw [hws, hsl] at hc1
          rw [hsl] at hcl ⊢
          have hG : groundF v l = v.add (rounds constW (spreadF l) v 64) := rfl
          have hG' := Lib.hid hG
          generalize spreadF l = ws at *
          have hcl' := Lib.hid hcl; have hsl' := Lib.hid hsl; have hb1 := Lib.hid hb; have hL1 := Lib.hid hL'
          have hzw := hb.size
          clear hcl hsl hG ho hb hxl hxs hx32 hws hL'
          rw [show (((48 + 16 : Nat) : Int)) = 64 from rfl]
          have q1 := Lib.hid ((hb1.out.block w.heap.size (by omega)).trans k1.out)
          have q2 := Lib.hid ((hb1.out.block (w.heap.size + 1) (by omega)).trans k2.out)
          have hBw := Lib.hid (kB.out.trans (hb1.out.mono (by omega)))
          have hzr : w.heap.size + 1 < wr.heap.size := by omega
          clear hb1 kB k1 k2 kz
          go_wp2_with (go_at_call 241; refine (rconst_any _).mono ?_; rintro e w1 ⟨rfl, rfl⟩; refine Stop.go'' _ ?_)
          refine StopP.go ?_
          have hc64 : constW.length = 64 := by rfl
          have r1 := Lib.hid ((hp1 wr (.cells (u32s constW) 25) w.heap.size (by omega)).trans q1.out)
          have r2 := Lib.hid ((hp1 wr (.cells (u32s constW) 25) (w.heap.size + 1) (by omega)).trans q2.out)
          have r3 := Lib.hid (heap_alloc_new wr (.cells (u32s constW) 25))
          have hBx := Lib.hid (hBw.out.alloc (by omega) (.cells (u32s constW) 25))
          have hclx := Lib.hid (fun i hi => ((Below.refl wr.heap.size wr).alloc (Nat.le_refl _) (.cells (u32s constW) 25)).cell (p := ⟨b', o' + i, none⟩) hb' |>.trans (hcl'.out i hi))
          have hzx : (wr.alloc (.cells (u32s constW) 25)).heap.size = wr.heap.size + 1 := by simp
          generalize wr.alloc (.cells (u32s constW) 25) = wx at *
          generalize hgC : wr.heap.size = gC at *
          have hgC' := Lib.hid hgC
          have hzx' := Lib.hid hzx
          have hzx2 : gC < wx.heap.size := by omega
          clear q1 q2 hBw hcl' hgC hzx
          go_wp2_with (first | (refine wpList_load_row rfl 178 _ rfl w.heap.size rfl 178 _ _ _ r1.out Tryz.underlying178 rfl (by kernel_rfl) ?_) | (refine storeNew wx rfl 178 _ _ rfl (u32s v.list) 178 rfl rfl (by kernel_rfl) (by simp [u32s, V8.list]) (u32s_one _) ?_; intro wy hr hby; have r4 := Lib.hid hr; have hby' := Lib.hid hby; clear hr hby; refine Stop.go'' _ ?_))
          refine StopP.go ?_
          have q1 := Lib.hid ((hby'.out.block w.heap.size (by omega)).trans r1.out)
          have q2 := Lib.hid ((hby'.out.block (w.heap.size + 1) (by omega)).trans r2.out)
          have q3 := Lib.hid ((hby'.out.block gC (by omega)).trans r3.out)
          have hcly := Lib.hid (fun i hi => (hby'.out.cell (p := ⟨b', o' + i, none⟩) (show b' < wx.heap.size by omega)).trans (hclx.out i hi))
          have hBy := Lib.hid (hBx.out.trans (hby'.out.mono (by omega)))
          have hzy : wx.heap.size < wy.heap.size := (Array.getElem?_eq_some_iff.1 r4.out).1
          clear r1 r2 r3 hclx hBx hby'
          generalize hgV : wx.heap.size = gV at *
          clear hzx' hgV hgC' wx
          have hRok := fun k => rounds_ok constW ws v k hv
          have hRs : ∀ k, rounds constW ws v (k + 1) = shaStep (rounds constW ws v k) (ith constW k) (ith ws k) := fun k => rfl
          have hck : ∀ k, k < 64 → wy.cell? ⟨gC, k, none⟩ = some (.int .u32 (ith constW k)) := fun k hk => by rw [cell_of_row _ _ _ _ _ _ q3.out]; exact u32s_get _ _ (by rw [hc64]; exact hk)
          have hR0 : rounds constW ws v 0 = v := rfl
          have hR0' := Lib.hid hR0; have hRok' := Lib.hid hRok; have hRs' := Lib.hid hRs; have hck' := Lib.hid hck
          clear hR0 hRok hRs hck q3 hc64
          generalize constW = cs at *
          generalize hR : (fun k => rounds cs ws v k) = R
          have hRR : ∀ k, rounds cs ws v k = R k := fun k => by rw [← hR]
          have hRR' := Lib.hid hRR
          clear hR hRR
          go_wp2
          go_loopw [12] (fun i wz => ∃ k : Nat, k ≤ 64 ∧ i = .int .i64 (k : Int) ∧ Below gV wy wz ∧ wz.heap[gV]? = some (.cells (u32s (R k).list) 178 (0, 0))) (fun i _ => 64 - (intOf i).toNat)
          case atStart => exact ⟨0, by omega, rfl, Below.refl _ _, by rw [← hRR'.out, hR0'.out]; exact r4.out⟩
          case round =>
            clear r4
            obtain ⟨k, hk, rfl, hbz, hrow⟩ := hrel
            by_cases hlt : k < 64
            · have hok := hRok'.out k
              rw [hRR'.out] at hok
              have A0 := Lib.hid hok.1; have E0 := Lib.hid hok.2.2.2.2.1
              obtain ⟨⟨_, _⟩, ⟨_, _⟩, ⟨_, _⟩, ⟨_, _⟩, ⟨_, _⟩, ⟨_, _⟩, ⟨_, _⟩, ⟨_, _⟩⟩ := hok
              obtain ⟨c0, c1, c2, c3, c4, c5, c6, c7⟩ := cells8 hrow
              have ck := (hbz.cell (p := ⟨gC, k, none⟩) (show gC < gV by omega)).trans (hck'.out k hlt)
              have cw := (hbz.cell (p := ⟨b', o' + k, none⟩) (show b' < gV by omega)).trans (hcly.out k (by omega))
              have i1 : (0 : Int) ≤ (k : Int) := by omega
              have i2 : (k : Int) < 64 := by omega
              have hS := hRs'.out k
              rw [hRR'.out, hRR'.out] at hS
              have hS' := Lib.hid hS; have hbz' := Lib.hid hbz; have hrow' := Lib.hid hrow
              clear hS hbz hrow
              go_wp2
              go_quiet (fail)
              go_wp2
              go_quiet (((go_at_call 240; (with_reducible refine quiet_of2 (rturn_int _ _ _ E0.out ?_ ?_)) <;> decide)))
              have hmx : (if IntKind.u32.signed = true then (-1 : Int) else IntKind.u32.max) = IntKind.u32.max := if_neg (by decide)
              generalize hP : ((((R k).h + bits BinOp.xor IntKind.u32 (bits BinOp.xor IntKind.u32 (rotr (R k).e 6) (rotr (R k).e 11)) (rotr (R k).e 25) + bits BinOp.xor IntKind.u32 (bits BinOp.and IntKind.u32 (R k).e (R k).f) (bits BinOp.and IntKind.u32 (bits BinOp.xor IntKind.u32 (if IntKind.u32.signed = true then (-1 : Int) else IntKind.u32.max) (R k).e) (R k).g) + ith cs k) % 4294967296 + ith ws k) % 4294967296) = pp
              have hPP := Lib.hid (show pp = pOf (R k) (ith cs k) (ith ws k) by rw [← hP, hmx]; unfold pOf; omega)
              clear hP hmx
              generalize hWq : (wr.drewN _).drewN _ = wq
              have d3 : wq.cell? ⟨gV, 3, none⟩ = some (.int .u32 (R k).d) := by rw [← hWq]; exact c3
              have hroq := Lib.hid (show wq.heap[gV]? = some (.cells (u32s (R k).list) 178 (0, 0)) by rw [← hWq]; exact hrow'.out)
              have hbq := Lib.hid (show Below gV wy wq by rw [← hWq]; exact (((Draws.refl wr).drewN _).drewN _).below hbz'.out)
              clear hWq c0 c1 c2 c3 c4 c5 c6 c7 ck cw hrow' hbz'
              go_upto_region 19 with (go_at_call 240; (with_reducible refine (rturn_int _ _ _ A0.out (by decide) (by decide)).mono ?_); rintro e w' ⟨rfl, ⟨nn, rfl⟩⟩)
              generalize hQ : ((bits BinOp.xor IntKind.u32 (bits BinOp.xor IntKind.u32 (rotr (R k).a 2) (rotr (R k).a 13)) (rotr (R k).a 22) + bits BinOp.xor IntKind.u32 (bits BinOp.xor IntKind.u32 (bits BinOp.and IntKind.u32 (R k).a (R k).b) (bits BinOp.and IntKind.u32 (R k).a (R k).c)) (bits BinOp.and IntKind.u32 (R k).b (R k).c)) % 4294967296) = qq
              have hQQ : qq = qOf (R k) := by rw [← hQ]; rfl
              have hX := Lib.hid (show R (k + 1) = V8.mk ((pp + qq) % 4294967296) (R k).a (R k).b (R k).c (((R k).d + pp) % 4294967296) (R k).e (R k).f (R k).g by rw [hS'.out, hPP.out, hQQ]; rfl)
              clear hQ hQQ hPP hS' A0 E0
              generalize hWr : wq.drewN _ = wr2
              have d3 : wr2.cell? ⟨gV, 3, none⟩ = some (.int .u32 (R k).d) := by rw [← hWr]; exact d3
              have hror := Lib.hid (show wr2.heap[gV]? = some (.cells (u32s (R k).list) 178 (0, 0)) by rw [← hWr]; exact hroq.out)
              have hbr := Lib.hid (show Below gV wy wr2 by rw [← hWr]; exact ((Draws.refl wq).drewN _).below hbq.out)
              clear hWr hroq hbq
              go_wp2_with (refine wpList_store_row rfl 178 _ _ rfl gV (V8.mk ((pp + qq) % 4294967296) (R k).a (R k).b (R k).c (((R k).d + pp) % 4294967296) (R k).e (R k).f (R k).g).cells rfl rfl 178 _ hror.out (by kernel_rfl) (by simp [u32s, V8.list, V8.cells]) (by simp [V8.cells, Value.oneCell']) ?_)
              go_roundw
              case rel =>
                have h := setRow_heap _ _ _ (V8.mk ((pp + qq) % 4294967296) (R k).a (R k).b (R k).c (((R k).d + pp) % 4294967296) (R k).e (R k).f (R k).g).cells _ _ hror.out
                exact ⟨k + 1, by omega, by go_num, below_setRow' hbr.out (Nat.le_refl _) _, by rw [hX.out]; exact h⟩
              case measure => simp [intOf]; omega
            · have hk64 : k = 64 := by omega
              subst hk64
              have z1 := Lib.hid ((hbz.block w.heap.size (by omega)).trans q1.out)
              have z2 := Lib.hid ((hbz.block (w.heap.size + 1) (by omega)).trans q2.out)
              have z3 := Lib.hid hrow
              have hBz := Lib.hid (hBy.out.trans (hbz.mono (by omega)))
              have hV := hG'.out
              rw [hRR'.out] at hV
              have hV' := Lib.hid hV
              clear hbz hrow q1 q2 hcly hBy hck' hRs' hRok' hR0' hRR' hV hG' hzy hb' hzw
              generalize R 64 = V at *
              rw [show (((64 : Nat) : Int)) = 64 from rfl]
              go_wp2
              go_loopw [21] (fun i wz => ∃ k : Nat, k ≤ 8 ∧ i = .int .i64 (k : Int) ∧ Below w.heap.size w wz ∧ wz.heap[w.heap.size]? = some (.cells (u32s (addN v.list V.list k)) 178 (0, 0)) ∧ wz.heap[w.heap.size + 1]? = some (.cells (u32s [0, 0, 0, 0, 0, 0, 0, 0]) 178 (0, 0)) ∧ wz.heap[gV]? = some (.cells (u32s V.list) 178 (0, 0))) (fun i _ => 8 - (intOf i).toNat)
              case atStart => exact ⟨0, by omega, rfl, hBz.out, z1.out, z2.out, z3.out⟩
              case round =>
                clear z1 z2 z3 hBz
                obtain ⟨k, hk, rfl, hb, h0, h2, h3⟩ := hrel
                by_cases hlt : k < 8
                · have ch : wr.cell? ⟨w.heap.size, k, none⟩ = some (.int .u32 (ith (addN v.list V.list k) k)) := by
                    rw [cell_of_row _ _ _ _ _ _ h0]; exact u32s_get _ k (by rw [addN_length]; exact hlt)
                  have cv : wr.cell? ⟨gV, k, none⟩ = some (.int .u32 (ith V.list k)) := by
                    rw [cell_of_row _ _ _ _ _ _ h3]; exact u32s_get _ k hlt
                  have hf : wr.frozen? ⟨w.heap.size, k, none⟩ = false := frozen_of_row _ _ _ _ _ h0
                  have hn := setCell_row h0 k (.int .u32 ((ith (addN v.list V.list k) k + ith V.list k) % 4294967296))
                  rw [u32s_set] at hn
                  have hn2 := (setCell_rows (w := wr) w.heap.size k (.int .u32 ((ith (addN v.list V.list k) k + ith V.list k) % 4294967296)) (w.heap.size + 1) (by omega)).trans h2
                  have hn3 := (setCell_rows (w := wr) w.heap.size k (.int .u32 ((ith (addN v.list V.list k) k + ith V.list k) % 4294967296)) gV (by omega)).trans h3
                  have i1 : (0 : Int) ≤ (k : Int) := by omega
                  have i2 : (k : Int) < 8 := by omega
                  have hn' := Lib.hid hn; have hn2' := Lib.hid hn2; have hn3' := Lib.hid hn3; have hb' := Lib.hid hb
                  clear hn hn2 hn3 h0 h2 h3 hb
                  go_wp2
                  go_still_tail 8, (by kernel_rfl)
                  go_wp2
                  exact ⟨⟨k + 1, by omega, by go_num, (hb'.out.setCell (Nat.le_refl _) _).drew, hn'.out, hn2'.out, hn3'.out⟩, by simp [intOf]; omega⟩
                · have hk8 : k = 8 := by omega
                  subst hk8
                  rw [addN_eight] at h0
                  have h0' := Lib.hid h0; have h2' := Lib.hid h2
                  clear h0 h2 h3
                  go_wp2_with (first | (refine wpList_load_row rfl 178 _ rfl w.heap.size rfl 178 _ _ _ h0'.out Tryz.underlying178 rfl (by kernel_rfl) ?_) | (refine storeRow rfl 178 _ _ rfl (w.heap.size + 1) rfl _ rfl 178 _ h2'.out (by kernel_rfl) (by simp [u32s, V8.list]) (u32s_one _) ?_))
                  try simp only [Exit.inBlock, Exit.then]
                  refine bodyPost_ret (v := .agg (v.add V).cells) (results_cell_row rfl _ _ (w.heap.size + 1) 178 _ _ _ rfl (setRow_heap _ _ _ _ _ _ h2'.out) Tryz.underlying178 rfl (by kernel_rfl)) rfl ⟨by rw [hV'.out]; rfl, below_setRow' hb (by omega) _⟩
end Go.Proofs.YtlbgffhipondiaaGreatDoor
namespace Go.Proofs.YtlbgffhipondiaaGreatDoor
open Go.RowKit Go.YtlbgffhipondiaaGreatDoor
set_option linter.unusedVariables false
theorem rground_lit (v G : V8) (b o n c : Nat) (l : List Int) (w : World) (hv : v.ok) (hG : groundF v l = G) (hn : 64 ≤ n) (hnc : n ≤ c) (hcm : c ≤ maxLen) (hl : Bytes l)
    (hcell : ∀ i, i < 64 → w.cell? ⟨b, o + i, none⟩ = some (.int .u8 (ith l i))) :
    Calls Tryz.prog 216 #[.agg #[.int .u32 v.a, .int .u32 v.b, .int .u32 v.c, .int .u32 v.d, .int .u32 v.e, .int .u32 v.f, .int .u32 v.g, .int .u32 v.h], .slice (some ⟨b, o, none⟩) n c] w
      fun e w' => e = .returned (.agg #[.int .u32 G.a, .int .u32 G.b, .int .u32 G.c, .int .u32 G.d, .int .u32 G.e, .int .u32 G.f, .int .u32 G.g, .int .u32 G.h]) ∧ Below w.heap.size w w' := by
  subst hG
  exact rground_any v b o n c l w hv hn hnc hcm hl hcell
set_option maxRecDepth 100000 in
set_option maxHeartbeats 1000000 in
theorem rblocks_some (v : V8) (b o c : Nat) (l : List Int) (w : World) (hv : v.ok) (hlc : l.length ≤ c) (hcm : c ≤ maxLen) (hl : Bytes l) (hbw : b < w.heap.size) (hlm : l.length ≤ 1000000)
    (hcell : ∀ i, i < l.length → w.cell? ⟨b, o + i, none⟩ = some (.int .u8 (ith l i))) :
    Calls Tryz.prog 181 #[.agg #[.int .u32 v.a, .int .u32 v.b, .int .u32 v.c, .int .u32 v.d, .int .u32 v.e, .int .u32 v.f, .int .u32 v.g, .int .u32 v.h], .slice (some ⟨b, o, none⟩) l.length c] w
     fun e w' => e = .returned (.agg (blocksF v l).cells) ∧ Below w.heap.size w w' := by
  have hcell' := Lib.hid hcell; have hl' := Lib.hid hl
  clear hcell hl
  unfold maxLen at hcm
  generalize hn : l.length = n at *
  have hn' := Lib.hid hn; clear hn
  generalize hR : (fun k => grindN v l k) = R
  have hRok : ∀ k, (R k).ok := by subst hR; exact fun k => grindN_ok v l k hv
  have hR0 : R 0 = v := by subst hR; rfl
  have hRs : ∀ k, R (k + 1) = groundF (R k) (l.drop (64 * k)) := by subst hR; intro k; rfl
  have hRok' := Lib.hid hRok; have hR0' := Lib.hid hR0; have hRs' := Lib.hid hRs; have hR' := Lib.hid hR
  clear hRok hR0 hRs hR
  go_enter Tryz.func181, Tryz.ntmps181
  go_wp2
  go_loopw [5] (fun s wr => ∃ k : Nat, 64 * k ≤ n ∧ s = .int .i64 ((64 * k : Nat) : Int) ∧ Below w.heap.size w wr ∧ wr.heap[w.heap.size]? = some (.cells (u32s (R k).list) 178 (0, 0)) ∧ wr.heap[w.heap.size + 1]? = some (.cells (u32s [0, 0, 0, 0, 0, 0, 0, 0]) 178 (0, 0))) (fun s _ => n + 64 - (intOf s).toNat)
  case atStart =>
    refine ⟨0, by omega, rfl, ((Below.refl _ _).alloc (Nat.le_refl _) _).alloc (by simp) _, ?_, hn2 w _ _⟩
    rw [hR0'.out]; exact (hp1 _ _ _ (by simp)).trans (heap_alloc_new w _)
  case round =>
    obtain ⟨k, hk, rfl, hb, h0, h1⟩ := hrel
    have h0' := Lib.hid h0; have h1' := Lib.hid h1; have hb' := Lib.hid hb
    have hzr : w.heap.size + 1 < wr.heap.size := (Array.getElem?_eq_some_iff.1 h1).1
    clear h0 h1 hb
    by_cases hlt : 64 * k + 64 ≤ n
    · have hg := rground_lit (R k) (R (k + 1)) b (o + 64 * k) 64 (c - 64 * k) (l.drop (64 * k))
      have hS := hRs'.out k
      have hcl : ∀ wz, Below w.heap.size w wz → ∀ i, i < 64 → wz.cell? ⟨b, o + 64 * k + i, none⟩ = some (.int .u8 (ith (l.drop (64 * k)) i)) := fun wz h i hi => by
        rw [h.cell (p := (⟨b, o + 64 * k + i, none⟩ : Addr)) hbw, ith_drop, Nat.add_assoc]; exact hcell'.out _ (by omega)
      have hg2 := Lib.hid (fun wz h => hg wz (hRok'.out k) hS.symm (Nat.le_refl _) (by omega) (by unfold maxLen; omega) (bytes_drop _ _ hl'.out) (hcl wz h))
      clear hg hS hcl
      obtain ⟨c0, c1, c2, c3, c4, c5, c6, c7⟩ := cells8 h0'.out
      generalize hm : 64 * k = m at *
      have hm' := Lib.hid hm; clear hm
      have x1 : IntKind.i64.wrap ((m : Int) + 64) = (m : Int) + 64 := IntWalk.i64_in _ (by omega)
      have x2 : (0 : Int) ≤ (m : Int) + 64 := by omega
      have x3 : (m : Int) + 64 ≤ (c : Int) := by omega
      have x4 : ((m : Int) + 64).toNat = m + 64 := by omega
      have x5 : (m : Int) ≤ (m : Int) + 64 := by omega
      have x6 : m + 64 - m = 64 := by omega
      have x7 : ¬ c = m := by omega
      have x8 : ¬ c - m = 0 := by omega
      have x9 : (m : Int) + 64 ≤ (n : Int) := by omega
      go_wp2
      refine wp_region_headN (C := fun w' => ∃ n, w' = wr.drewN n) 6 [] (by kernel_rfl) (by kernel_rfl) ⟨1, rfl⟩ ?_
      simp only [List.take_succ_cons, List.take_zero, List.drop_succ_cons, List.drop_zero]
      repeat (refine head_walk (by rfl) (fun K hK => ?_); go_simp; refine hK _ ?_; clear hK K)
      refine head_nil ?_
      intro w' hw'
      obtain ⟨nz, rfl⟩ := hw'
      clear x1 x2 x3 x4 x5 x6 x7 x8 x9 c0 c1 c2 c3 c4 c5 c6 c7
      have hbz := Lib.hid (((Draws.refl wr).drewN nz).below hb'.out)
      have z0 := Lib.hid (show (wr.drewN nz).heap[w.heap.size]? = _ from h0'.out); have z1 := Lib.hid (show (wr.drewN nz).heap[w.heap.size + 1]? = _ from h1'.out)
      have hzz : w.heap.size + 1 < (wr.drewN nz).heap.size := hzr
      clear h0' h1' hb' hzr
      generalize wr.drewN nz = wz at *
      go_wp2_with (first | (go_at_call 216; refine (hg2.out wz hbz.out).mono ?_; rintro e w2 ⟨rfl, hb2⟩; have y0 := Lib.hid ((hb2.block w.heap.size (by omega)).trans z0.out); have y1 := Lib.hid ((hb2.block (w.heap.size + 1) (by omega)).trans z1.out); have hB2 := Lib.hid (hbz.out.trans (hb2.mono (by omega))); clear hb2) | (refine wpList_store_row rfl 178 _ _ rfl w.heap.size _ rfl rfl 178 _ y0.out (by kernel_rfl) (by simp [u32s, V8.list]) (by simp [Value.oneCell']) ?_))
      refine NoPanic.normal ?_
      go_wp2
      go_roundw
      case rel =>
        have h2 := setRow_heap w2 w.heap.size (u32s (R k).list) (u32s (R (k + 1)).list) 178 (0, 0) y0.out
        have h3 := (setRow_other w2 w.heap.size (w.heap.size + 1) (u32s (R (k + 1)).list) (by omega)).trans y1.out
        exact ⟨k + 1, by have := hm'.out; omega, by rw [show 64 * (k + 1) = m + 64 by have := hm'.out; omega]; go_num, below_setRow' hB2.out (Nat.le_refl _) _, h2, h3⟩
      case measure => have := hm'.out; simp [intOf]; omega
    · have hk' : k = n / 64 := by omega
      subst hk'
      have hRk : R (n / 64) = blocksF v l := by rw [← hR'.out, ← hn'.out]; rfl
      rw [hRk] at h0'
      clear hRk
      generalize hm : 64 * (n / 64) = m at *
      clear hm
      go_wp2_with (first | (refine wpList_load_row rfl 178 _ rfl w.heap.size rfl 178 _ _ _ h0'.out Tryz.underlying178 rfl (by kernel_rfl) ?_) | (refine wpList_store_row rfl 178 _ _ rfl (w.heap.size + 1) _ rfl rfl 178 _ h1'.out (by kernel_rfl) (by simp [u32s, V8.list]) (u32s_one _) ?_))
      try simp only [Exit.inBlock, Exit.then]
      exact bodyPost_ret (results_cell_row rfl _ _ (w.heap.size + 1) 178 _ _ _ rfl (setRow_heap _ _ _ _ _ _ h1'.out) Tryz.underlying178 rfl (by kernel_rfl)) rfl ⟨rfl, below_setRow' hb'.out (by omega) _⟩
theorem rblocks_none (v : V8) (a : Option Addr) (c : Nat) (w : World) :
    Calls Tryz.prog 181 #[.agg #[.int .u32 v.a, .int .u32 v.b, .int .u32 v.c, .int .u32 v.d, .int .u32 v.e, .int .u32 v.f, .int .u32 v.g, .int .u32 v.h], .slice a 0 c] w
     fun e w' => e = .returned (.agg v.cells) ∧ Below w.heap.size w w' := by
  go_enter Tryz.func181, Tryz.ntmps181
  go_wp2
  go_rounds 2
  try simp only [Exit.inBlock, Exit.then]
  exact bodyPost_ret (results_cell_row rfl _ _ (w.heap.size + 1) 178 _ _ _ rfl (hn2 w _ _) Tryz.underlying178 rfl (by kernel_rfl)) rfl ⟨rfl, ((Below.refl _ _).alloc (Nat.le_refl _) _).alloc (by simp) _⟩
theorem rblocks_any (v G : V8) (bv : Value) (l : List Int) (w : World) (hv : v.ok) (hl : Bytes l) (hr : RdB w bv l) (hlm : l.length ≤ 1000000) (hG : blocksF v l = G) :
    Calls Tryz.prog 181 #[.agg #[.int .u32 v.a, .int .u32 v.b, .int .u32 v.c, .int .u32 v.d, .int .u32 v.e, .int .u32 v.f, .int .u32 v.g, .int .u32 v.h], bv] w
     fun e w' => e = .returned (.agg #[.int .u32 G.a, .int .u32 G.b, .int .u32 G.c, .int .u32 G.d, .int .u32 G.e, .int .u32 G.f, .int .u32 G.g, .int .u32 G.h]) ∧ Below w.heap.size w w' := by
  subst hG
  rcases hr with ⟨a, c, rfl, hn, rfl⟩ | ⟨b, o, c, rfl, h1, h2, h3, h4⟩
  · exact rblocks_none v a c w
  · exact rblocks_some v b o c l w hv h1 h2 hl h3 hlm h4
end Go.Proofs.YtlbgffhipondiaaGreatDoor
namespace Go.Proofs.YtlbgffhipondiaaGreatDoor
open Go.RowKit Go.YtlbgffhipondiaaGreatDoor
set_option linter.unusedVariables false
def tailF (n : Nat) : List Int := tl (zT n) ++ [0, 0, 0, 0] ++ be4 (8 * (n : Int))
theorem tailF_length (n : Nat) : (tailF n).length = zT n + 9 := by simp [tailF, tl_length, be4]
theorem zT_lt (n : Nat) : zT n < 64 := Nat.mod_lt _ (by decide)
theorem tailF_bytes (n : Nat) (hn : n ≤ 300000) : Bytes (tailF n) := by
  unfold tailF
  refine bytes_append _ _ (bytes_append _ _ ?_ (bytes_replicate 4)) (be4_bytes _ ⟨by omega, by omega⟩)
  exact bytes_append [128] _ (bytes_one 128 (by omega)) (bytes_replicate _)
theorem tail_ending (r : List Int) (n : Nat) (h : r.length = n % 64) : r ++ tailF n = endingF r n := by
  have e : List.replicate (zT n) (0 : Int) ++ [0, 0, 0, 0] = List.replicate (endSize r.length - 4 - (r.length + 1)) 0 := by
    rw [show ([0, 0, 0, 0] : List Int) = List.replicate 4 0 from rfl, List.replicate_append_replicate]
    congr 1
    unfold zT endSize
    split <;> omega
  unfold tailF endingF tl
  rw [← e]
  simp
theorem rfirst_F (F : V8) (hF : firstW = F) (w : World) : Calls Tryz.prog 182 #[] w fun e w' => e = .returned (.agg #[.int .u32 F.a, .int .u32 F.b, .int .u32 F.c, .int .u32 F.d, .int .u32 F.e, .int .u32 F.f, .int .u32 F.g, .int .u32 F.h]) ∧ Below w.heap.size w w' := by
  subst hF; exact rfirst_any w
theorem rwritten_G (G : V8) (D : List Int) (w : World) (hG : G.ok) (hD : writtenF G = D) : Calls Tryz.prog 180 #[.agg #[.int .u32 G.a, .int .u32 G.b, .int .u32 G.c, .int .u32 G.d, .int .u32 G.e, .int .u32 G.f, .int .u32 G.g, .int .u32 G.h]] w fun e w' => e = .returned (.agg (u8s D)) ∧ Below w.heap.size w w' := by
  subst hD; exact rwritten_any G w hG
theorem rtail_F (n : Nat) (w : World) (hn : n ≤ 300000) : Calls Tryz.prog 183 #[.int .i64 (n : Int)] w fun e w' => ∃ ta tc, e = .returned (.slice ta (zT n + 9) tc) ∧ RdB w' (.slice ta (zT n + 9) tc) (tailF n) ∧ Below w.heap.size w w' := by
  refine (rtail_any n w hn).mono ?_
  rintro e w' ⟨r, rfl, ho, hb⟩
  have h := show RdB w' r (tailF n) from ho.rd
  obtain ⟨ta, tc, rfl⟩ := h.slice
  rw [tailF_length] at h ⊢
  exact ⟨ta, tc, rfl, h, hb⟩
theorem own0 (w : World) : OwnB w.heap.size 5 (w.alloc (.cells #[] 5)) (.slice (some ⟨w.heap.size, 0, none⟩) 0 0) [] :=
  ⟨rfl, .inr ⟨w.heap.size, 0, _, rfl, Nat.le_refl _, heap_alloc_new w _, Nat.le_refl _, by decide, rfl, rfl⟩⟩
set_option maxRecDepth 100000 in
set_option maxHeartbeats 1000000 in
theorem rof_any (bv : Value) (l D : List Int) (w : World) (hr : RdB w bv l) (hl : Bytes l) (hlm : l.length ≤ 200000) (hD : shaF l = D) :
    Calls Tryz.prog 133 #[bv] w fun e w' => e = .returned (.agg (u8s D)) ∧ Below w.heap.size w w' := by
  obtain ⟨ba, bc, rfl⟩ := hr.slice
  obtain ⟨F, hF⟩ : ∃ F, firstW = F := ⟨_, rfl⟩
  obtain ⟨G, hG⟩ : ∃ G, blocksF F (l ++ tailF l.length) = G := ⟨_, rfl⟩
  have hDl : D.length = 32 := by rw [← hD]; exact shaF_length l
  have hFok : F.ok := by rw [← hF]; exact firstW_ok
  have hGok : G.ok := by rw [← hG]; exact blocksF_ok _ _ hFok
  have hw : writtenF G = D := by
    rw [← hD, ← hG, blocksF_append, tail_ending _ _ (restF_length l), ← hF]; rfl
  have hi := Lib.hid (show (Tryz.prog.info? 24).map (·.size) = some (u8s D).size from by rw [u8s_size, hDl]; kernel_rfl)
  have hs := Lib.hid (show (u8s (zerosB 32)).size = (u8s D).size from by rw [u8s_size, u8s_size, hDl, zerosB_length])
  have hF' := Lib.hid hF; have hG' := Lib.hid hG; have hFok' := Lib.hid hFok; have hGok' := Lib.hid hGok; have hw' := Lib.hid hw; have hr' := Lib.hid hr; have hl' := Lib.hid hl
  have hll : Hid ((l ++ tailF l.length).length ≤ 1000000) := Lib.hid (by have := zT_lt l.length; rw [List.length_append, tailF_length]; omega)
  have htl := tailF_length l.length
  have hzt := zT_lt l.length
  have htl' := Lib.hid htl
  clear hF hG hDl hFok hGok hw hr hD hl htl
  generalize hn : l.length = n at *
  have hn' := Lib.hid hn; clear hn
  go_enter Tryz.func133, Tryz.ntmps133
  go_wp2_with (go_at_call 182; refine (rfirst_F F hF'.out _).mono ?_; rintro e w1 ⟨rfl, hb1⟩; have hb1' := Lib.hid hb1; clear hb1; refine Stop.go'' _ ?_)
  refine StopP.go ?_
  have hB1 := Lib.hid (show Below w.heap.size w w1 from ((Below.refl _ _).alloc (Nat.le_refl _) _).trans (hb1'.out.mono (by simp)))
  have k1 := Lib.hid (show w1.heap[w.heap.size]? = some (.cells (u8s (zerosB 32)) 24 (0, 0)) from (hb1'.out.block w.heap.size (by simp)).trans (heap_alloc_new w _))
  have hz1 : w.heap.size < w1.heap.size := (Array.getElem?_eq_some_iff.1 k1.out).1
  have r1 := Lib.hid ((hr'.out.mono hB1.out).mono ((Below.refl w1.heap.size w1).alloc (Nat.le_refl _) (.cells #[] 5)))
  clear hb1'
  go_wp2_with (refine appendB rfl _ _ 101 rfl w1.heap.size 5 Tryz.underlying101 (by kernel_rfl) _ rfl _ (own0 w1) _ rfl _ r1.out (by rw [hn'.out]; simp; omega) (by simp) ?_)
  intro v' w' h1 h2
  have hB2 := (own0 w1).below h2 (by simp)
  try rw [List.nil_append] at h1
  obtain ⟨pa, pc, rfl⟩ := h1.rd.slice
  rw [hn'.out] at h1 ⊢
  have h1' := Lib.hid h1
  have hB2' := Lib.hid (((Below.refl w1.heap.size w1).alloc (Nat.le_refl _) (.cells #[] 5)).trans hB2)
  clear h1 h2 hB2 r1
  have hz2 := hB2'.out.size
  refine Stop.go ?_
  go_wp2_with (go_at_call 183; refine (rtail_F n _ (by omega)).mono ?_; rintro e w3 ⟨ta, tc, rfl, ho4, hb3⟩; have ho4 := Lib.hid ho4; have hb3' := Lib.hid hb3; clear hb3; refine Stop.go'' _ ?_)
  refine StopP.go ?_
  have hz3 := hb3'.out.size
  have q1 := Lib.hid (h1'.out.kept hb3'.out)
  have hB3 := Lib.hid (hB2'.out.trans (hb3'.out.mono hz2))
  clear h1' hB2' hb3'
  go_wp2_with (refine appendB rfl _ _ 101 rfl w1.heap.size 5 Tryz.underlying101 (by kernel_rfl) _ rfl _ q1.out _ rfl _ ho4.out (by rw [hn'.out, htl'.out]; omega) (by omega) ?_)
  intro v' w4 h1 h2
  have hB4 := Lib.hid (hB3.out.trans (q1.out.below h2 (by omega)))
  have hrd := Lib.hid h1.rd
  have hz4 := hB4.out.size
  have k4 := Lib.hid ((hB4.out.block w.heap.size hz1).trans k1.out)
  have hB5 := Lib.hid (hB1.out.trans (hB4.out.mono (by omega)))
  obtain ⟨qa, qc, rfl⟩ := h1.rd.slice
  clear h1 h2 q1 ho4 hB3 k1 hB1
  have hlb := Lib.hid (bytes_append _ _ hl'.out (tailF_bytes n (by omega)))
  have hz5 : w.heap.size < w4.heap.size := by omega
  generalize hN : (l ++ tailF n).length = N at *
  have hN' := Lib.hid hN
  clear hN
  clear hzt hz1 hz2 hz3 hz4
  refine Stop.go ?_
  go_wp2_with (first | (go_at_call 181; refine (rblocks_any F G _ (l ++ tailF n) w4 hFok'.out hlb.out hrd.out (by rw [hN'.out]; exact hll.out) hG'.out).mono ?_; rintro e w5 ⟨rfl, hb5⟩; have k5 := Lib.hid ((hb5.block w.heap.size hz5).trans k4.out); have hB6 := Lib.hid (hB5.out.trans (hb5.mono (by omega))); have hz6 := hb5.size; clear hb5) | (go_at_call 180; refine (rwritten_G G D _ hGok'.out hw'.out).mono ?_; rintro e w6 ⟨rfl, hb6⟩; have k6 := Lib.hid ((hb6.block w.heap.size (by omega)).trans k5.out); have hB7 := Lib.hid (hB6.out.trans (hb6.mono (by omega))); clear hb6) | (refine wpList_store_row rfl 24 _ _ rfl w.heap.size _ rfl rfl 24 _ k6.out hi.out hs.out (u8s_one _) ?_))
  try simp only [Exit.inBlock, Exit.then]
  exact bodyPost_ret (results_cell_row rfl _ _ w.heap.size 24 _ _ _ rfl (setRow_heap _ _ _ _ _ _ k6.out) Tryz.underlying24 rfl hi.out) rfl ⟨rfl, below_setRow' hB7.out (Nat.le_refl _) _⟩
end Go.Proofs.YtlbgffhipondiaaGreatDoor
namespace Go.Proofs.YtlbgffhipondiaaGreatDoor
open Go.RowKit Go.YtlbgffhipondiaaGreatDoor
set_option linter.unusedVariables false
end Go.Proofs.YtlbgffhipondiaaGreatDoor
namespace Go.Proofs.YtlbgffhipondiaaGreatDoor.wir.val
open Go.RowKit Go.YtlbgffhipondiaaGreatDoor
set_option linter.unusedVariables false
theorem run_appendIs {P : Program} (w : World) (base : Nat) (t ty e : TypeId) (ht : P.underlying t = some (.slice e)) (hinfo : (P.info? e).map (fun i => (i.zero, i.size, i.bytes)) = some (some (.agg (u8s (zerosB 32))), 32, 32))
    (v : Value) (n : Nat) (F : List Int) (hown : OwnI base e w v n F) (sv : Value) (m : Nat) (G : List Int) (hr : RdI w sv m G) (hlen : n + m ≤ 1000000) (hbase : base ≤ w.heap.size) :
    ∃ v' w', (Builtin.append_ #[t, t] ty #[v, sv]).run P w = .ok v' w' ∧ OwnI base e w' v' (n + m) (F ++ G) ∧ w.grownBy w' v.ownBlock := by
  obtain ⟨i, hi, hz, hs, hb⟩ := info_parts hinfo
  have hlG := hr.len
  rcases hr with ⟨sa, sc, rfl, hsn, rfl, rfl⟩ | ⟨b, o, c, rfl, h1, h2, h3, h4, h5⟩
  · cases sa with
    | some sa =>
      obtain ⟨v', w', hrun, ho, hg, _⟩ := run_append_own (P := P) w base t ty e i (.agg (u8s (zerosB 32))) 32 32 ht hi hz hs hb (by simp [Value.cells, u8s_size, zerosB_length]) (by omega) v n (u8v F) hown sa 0 sc (u8v [])
        (by rw [u8v_length]; rfl) (fun k x hx => by cases hx) (u8v_one []) (by unfold maxLen; omega) (by omega) hbase
      refine ⟨v', w', hrun, ?_, hg⟩
      unfold OwnI
      rw [List.append_nil]
      simpa [u8v] using ho
    | none =>
      obtain rfl := hsn rfl
      refine ⟨v, w, run_append_owned_none (P := P) (w := w) base t ty e i 32 ht hi v n (u8v F) hown, ?_, ⟨rfl, rfl, rfl, Nat.le_refl _, fun _ _ _ => rfl⟩⟩
      rw [List.append_nil]; exact hown
  · obtain ⟨v', w', hrun, ho, hg, _⟩ := run_append_own (P := P) w base t ty e i (.agg (u8s (zerosB 32))) 32 32 ht hi hz hs hb (by simp [Value.cells, u8s_size, zerosB_length]) (by omega) v n (u8v F) hown ⟨b, o, none⟩ m c (u8v G)
      (by rw [u8v_length]; omega) (RdB.src h5) (u8v_one G) (by unfold maxLen; omega) (by omega) hbase
    refine ⟨v', w', hrun, ?_, hg⟩
    unfold OwnI
    rw [u8v_append]; exact ho
theorem appendIs {P : Program} {ops : Array Oper} {rest : List Oper} {o : Oper} {a : Act} {w : World} {Q : Exit → Act → World → Prop} (hgd : o.guard = none) (s x : Operand) (t : TypeId)
    (ho : o.op = .call { callee := .builtin .append, args := #[s, x], argTypes := #[t, t] })
    (base : Nat) (e : TypeId) (ht : P.underlying t = some (.slice e)) (hinfo : (P.info? e).map (fun i => (i.zero, i.size, i.bytes)) = some (some (.agg (u8s (zerosB 32))), 32, 32))
    (v : Value) (hs : a.eval s = v) (n : Nat) (F : List Int) (hown : OwnI base e w v n F) (sv : Value) (hx : a.eval x = sv) (m : Nat) (G : List Int) (hr : RdI w sv m G) (hlen : n + m ≤ 1000000) (hbase : base ≤ w.heap.size)
    (h : ∀ v' w', OwnI base e w' v' (n + m) (F ++ G) → w.grownBy w' v.ownBlock → Stop (wpList P ops Q rest (a.put o.dst v') w')) : wpList P ops Q (o :: rest) a w := by
  refine wpList_plain hgd fun K hK => ?_
  obtain ⟨v', w', hrun, h2, h3⟩ := run_appendIs (P := P) w base t o.type e ht hinfo v n F hown sv m G hr hlen hbase
  unfold Oper.wp execOp
  simp only [ho, resolve, invoke, builtin, Sem.run_bind, Sem.run_pure, Result.andThen_ok, List.map_toArray, List.map_cons, List.map_nil, hs, hx, hrun]
  exact hK _ _ (h v' w' h2 h3).out
/-- Is it larger than the statements consider? -/
def greatB (o : Od) : Bool := decide (20 < o.n) || (decide (100 < o.key.size) || decide (100 < o.v.s.size))
set_option maxRecDepth 100000 in
theorem great_any (o : Od) (a : Option Addr) (c : Nat) (w : World) :
    Calls Tryz.prog 29 #[.agg (o.c (.slice a o.n c))] w fun e w' => e = .returned (.bool (greatB o)) ∧ Below w.heap.size w w' := by
  have hb := Lib.hid (below_a w (.cells (o.c (.slice a o.n c)) 35))
  have e : greatB o = (decide (20 < o.n) || (decide (100 < o.key.size) || decide (100 < o.v.s.size))) := rfl
  generalize greatB o = R at *
  by_cases h1 : 20 < o.n
  · have e' := Lib.hid (show R = true by rw [e]; simp [h1])
    have d1 : decide ((20 : Int) < (o.n : Int)) = true := decide_eq_true (by omega)
    clear e
    go_enter Tryz.func29, Tryz.ntmps29
    go_wp2
    go_ret
    exact ⟨ret_bool e'.out.symm, hb.out⟩
  have d1 : decide ((20 : Int) < (o.n : Int)) = false := decide_eq_false (by omega)
  by_cases h2 : 100 < o.key.size
  · have e' := Lib.hid (show R = true by rw [e]; simp [h2])
    have d2 : decide ((100 : Int) < (o.key.size : Int)) = true := decide_eq_true (by omega)
    clear e
    go_enter Tryz.func29, Tryz.ntmps29
    go_wp2
    go_ret
    exact ⟨ret_bool e'.out.symm, hb.out⟩
  have d2 : decide ((100 : Int) < (o.key.size : Int)) = false := decide_eq_false (by omega)
  by_cases h3 : 100 < o.v.s.size
  · have e' := Lib.hid (show R = true by rw [e]; simp [h3])
    have d3 : decide ((100 : Int) < (o.v.s.size : Int)) = true := decide_eq_true (by omega)
    clear e
    go_enter Tryz.func29, Tryz.ntmps29
    go_wp2
    go_ret
    exact ⟨ret_bool e'.out.symm, hb.out⟩
  · have e' := Lib.hid (show R = false by rw [e]; simp [h1, h2, h3])
    have d3 : decide ((100 : Int) < (o.v.s.size : Int)) = false := decide_eq_false (by omega)
    clear e
    go_enter Tryz.func29, Tryz.ntmps29
    go_wp2
    go_ret
    exact ⟨ret_bool e'.out.symm, hb.out⟩
theorem ownI_setRow {base : Nat} {E : TypeId} {w : World} {v : Value} {n : Nat} {F : List Int} (h : OwnI base E w v n F) {g : Nat} (hg : g < base) (cs : Array Value) : OwnI base E (w.setRow g cs) v n F := by
  refine ⟨h.1, ?_⟩
  rcases h.2 with hn | ⟨k, cap, cur, rfl, hbg, hk, rest⟩
  · exact .inl hn
  · exact .inr ⟨k, cap, cur, rfl, hbg, (setRow_other w g k cs (by omega)).trans hk, rest⟩
def zO : Od := ⟨0, 0, [], 0, 0, ⟨#[]⟩, ⟨0, 0, 0, ⟨#[]⟩⟩, 0, 0⟩
end Go.Proofs.YtlbgffhipondiaaGreatDoor.wir.val
namespace Go.Proofs.YtlbgffhipondiaaGreatDoor.wir.val
open Go.RowKit Go.YtlbgffhipondiaaGreatDoor
set_option linter.unusedVariables false
set_option maxHeartbeats 4000000 in
set_option maxRecDepth 100000 in
theorem rOfO_any (o : Od) (fo : o.Fit) (hn : o.n ≤ 4) (hA : actB o.k o.key o.v = true) (pv : Value) (w : World) (hp : RdI w pv o.n o.F) :
    Calls Tryz.prog 84 #[.agg (o.c pv)] w fun e w' => e = .returned (.agg (u8s (shaF (encO o)))) ∧ Below w.heap.size w w' := by
  obtain ⟨W, hW⟩ : ∃ W, W = (w.alloc (.cells (o.c pv) 35)).alloc (.cells (u8s (zerosB 32)) 24) := ⟨_, rfl⟩
  have hr0 : W.heap[w.heap.size]? = some (.cells (o.c pv) 35 (0, 0)) := by rw [hW]; exact rowB (heap_alloc_new w _) (below_a _ _) (by simp)
  have hr1 : W.heap[w.heap.size + 1]? = some (.cells (u8s (zerosB 32)) 24 (0, 0)) := by rw [hW]; exact hn2 w _ _
  have hb0 : Below w.heap.size w W := by rw [hW]; exact ((Below.refl w.heap.size w).alloc (Nat.le_refl _) _).alloc (by simp) _
  obtain ⟨pa, pc, rfl⟩ := hp.slice
  have hb1 := Lib.hid hb0
  have hrow := Lib.hid hr0
  have hres := Lib.hid hr1
  have hlt := Lib.hid (Array.getElem?_eq_some_iff.1 hr0).1
  have hlt1 := Lib.hid (Array.getElem?_eq_some_iff.1 hr1).1
  have hrows := Lib.hid (fun (wz : World) (h : Below W.heap.size W wz) => rowB hrow.out h hlt.out)
  have hress := Lib.hid (fun (wz : World) (h : Below W.heap.size W wz) => rowB hres.out h hlt1.out)
  have hE := Lib.hid (fun (wz : World) (hb : Below W.heap.size W wz) => rBytesO_any o fo hn hA (.slice pa o.n pc) wz ((hp.mono hb0).mono hb))
  have hD := Lib.hid (fun (wz : World) (v : Value) (hb : Below W.heap.size W wz) (hv : RdB wz v (encO o)) => rof_any v (encO o) (shaF (encO o)) wz hv (encO_bytes o fo hn hA) (Nat.le_trans (encO_short o fo hn hp.len hA) (by decide)) rfl)
  have hDl : (shaF (encO o)).length = 32 := shaF_length _
  generalize shaF (encO o) = D at *
  generalize encO o = EO at *
  have di := Lib.hid (show (Tryz.prog.info? 24).map (·.size) = some (u8s D).size by rw [u8s_size, hDl]; kernel_rfl)
  have ds := Lib.hid (show (u8s (zerosB 32)).size = (u8s D).size by rw [u8s_size, u8s_size, hDl, zerosB_length])
  have hB := Lib.hid (Below.refl W.heap.size W)
  clear hr0 hr1 hb0 hp fo hn hA hDl
  go_enter Tryz.func84, Tryz.ntmps84
  go_upto_region 1 with fail
  rw [show ∀ x : Array Value, x = u8s (zerosB 32) → (w.alloc (.cells (o.c (.slice pa o.n pc)) 35)).alloc (.cells x 24) = W from fun x hx => by rw [hx, hW]]
  rotate_left
  · kernel_rfl
  clear hW
  go_wp2_with (first | (refine wpList_load_row_g rfl 35 _ rfl w.heap.size rfl 35 (o.c (.slice pa o.n pc)) (0, 0) _ (hrows.out _ hB.out) Tryz.underlying35 rfl info_op ?_) | (go_at_call 134; (with_reducible refine (hE.out _ hB.out).mono ?_); rintro e w4 ⟨sv, rfl, h2, h3⟩; have hD3 := Lib.hid (fun (hq : Below W.heap.size W w4) => hD.out _ sv hq h2.rd); replace hB := Lib.hid (hB.out.trans (h3.mono hB.out.size)); clear h3; replace hD3 := Lib.hid (hD3.out hB.out); clear h2) | (go_at_call 133; (with_reducible refine (hD3.out).mono ?_); rintro e w4 ⟨rfl, h3⟩; replace hB := Lib.hid (hB.out.trans (h3.mono hB.out.size)); clear h3) | (refine storeOver _ (w.heap.size + 1) _ rfl 24 _ _ rfl (u8s D) 24 (hress.out _ hB.out) rfl rfl di.out ds.out (u8s_one _) ?_; intro w5 hr5 hb5; have hr5' := Lib.hid hr5; have hb5' := Lib.hid hb5; clear hr5 hb5))
  exact bodyPost_ret (results_cell_row rfl _ _ (w.heap.size + 1) 24 _ _ _ rfl hr5'.out Tryz.underlying24 rfl di.out) rfl ⟨rfl, hb1.out.trans ((hB.out.mono hb1.out.size).trans (hb5'.out.mono (by omega)))⟩
end Go.Proofs.YtlbgffhipondiaaGreatDoor.wir.val
namespace Go.Proofs.YtlbgffhipondiaaGreatDoor.wir.val
open Go.RowKit Go.YtlbgffhipondiaaGreatDoor
set_option linter.unusedVariables false
set_option maxHeartbeats 4000000 in
set_option maxRecDepth 100000 in
theorem sameO_yes (o : Od) (hn : o.n ≤ 20) (pv qv : Value) (w : World) (hp : RdI w pv o.n o.F) (hq : RdI w qv o.n o.F) :
    Calls Tryz.prog 38 #[.agg (o.c pv), .agg (o.c qv)] w fun e w' => e = .returned (.bool true) ∧ Below w.heap.size w w' := by
  obtain ⟨pa, pc, rfl⟩ := hp.slice
  obtain ⟨qa, qc, rfl⟩ := hq.slice
  obtain ⟨W, hW⟩ : ∃ W, W = (w.alloc (.cells (o.c (.slice pa o.n pc)) 35)).alloc (.cells (o.c (.slice qa o.n qc)) 35) := ⟨_, rfl⟩
  have hr0 : W.heap[w.heap.size]? = some (.cells (o.c (.slice pa o.n pc)) 35 (0, 0)) := by rw [hW]; exact rowB (heap_alloc_new w _) (below_a _ _) (by simp)
  have hr1 : W.heap[w.heap.size + 1]? = some (.cells (o.c (.slice qa o.n qc)) 35 (0, 0)) := by rw [hW]; exact hn2 w _ _
  have hb0 : Below w.heap.size w W := by rw [hW]; exact ((Below.refl w.heap.size w).alloc (Nat.le_refl _) _).alloc (by simp) _
  have hb1 := Lib.hid hb0
  have hlt := Lib.hid (Array.getElem?_eq_some_iff.1 hr0).1
  have hlt1 := Lib.hid (Array.getElem?_eq_some_iff.1 hr1).1
  have hrows := Lib.hid (fun (wz : World) (h : Below W.heap.size W wz) => cellsO (rowB hr0 h hlt.out))
  have hress := Lib.hid (fun (wz : World) (h : Below W.heap.size W wz) => cellsO (rowB hr1 h hlt1.out))
  have hI := Lib.hid (sameIDs_any o.n o.n o.F o.F _ _ W (by omega) (hp.mono hb0) (hq.mono hb0))
  rw [sameF_self] at hI
  obtain ⟨c0, c1, c2, _, _, c9, c10⟩ := cellsO hr0
  obtain ⟨d0, d1, d2, _, _, d9, d10⟩ := cellsO hr1
  have hqA := Lib.hid (fun wz => show (binOp .eql 31 (aA o.k o.key o.v) (aA o.k o.key o.v)).run Tryz.prog wz = .ok (.bool true) wz by rw [eqlA]; simp [eqB])
  clear hr0 hr1 hb0 hp hq
  go_enter Tryz.func38, Tryz.ntmps38
  go_upto_region 1 with fail
  rw [← hW]
  clear hW
  go_wp2_with (first
    | (go_at_call 51; (with_reducible refine (hI.out).mono ?_); rintro e w3 ⟨rfl, h3⟩; have hB := Lib.hid (h3.below (Below.refl W.heap.size W)); clear h3 c0 c1 c2 c9 c10 d0 d1 d2 d9 d10; obtain ⟨c0, c1, c2, _, _, c9, c10⟩ := hrows.out _ hB.out; obtain ⟨d0, d1, d2, _, _, d9, d10⟩ := hress.out _ hB.out)
    | (refine wpList_midV rfl 31 _ rfl w.heap.size 3 rfl [.int .u8 o.k, .string o.key, .int .u8 o.v.k, .int .i64 o.v.n, .int .u64 (o.v.b : Int), .string o.v.s] _ (hrows.out _ hB.out).2.2.2.1 Tryz.underlying31 rfl info_act ?_)
    | (refine wpList_midV rfl 31 _ rfl (w.heap.size + 1) 3 rfl [.int .u8 o.k, .string o.key, .int .u8 o.v.k, .int .i64 o.v.n, .int .u64 (o.v.b : Int), .string o.v.s] _ (hress.out _ hB.out).2.2.2.1 Tryz.underlying31 rfl info_act ?_)
    | (refine wpList_midV rfl 33 _ rfl w.heap.size 9 rfl [.int .u32 (o.e : Int), .int .u32 (o.s : Int)] _ (hrows.out _ hB.out).2.2.2.2.1 Tryz.underlying33 rfl info_sig ?_)
    | (refine wpList_midV rfl 33 _ rfl (w.heap.size + 1) 9 rfl [.int .u32 (o.e : Int), .int .u32 (o.s : Int)] _ (hress.out _ hB.out).2.2.2.2.1 Tryz.underlying33 rfl info_sig ?_)
    | (refine wpList_eqlS rfl 31 _ _ rfl (aC o.k o.key o.v) (aC o.k o.key o.v) rfl rfl (by kernel_rfl) true (hqA.out _) ?_))
  go_ret
  exact ⟨rfl, hb1.out.trans (hB.out.mono hb1.out.size)⟩
/-- The two variables that digests read. -/
def GlQ (Tg Tf : TypeId) (w : World) : Prop := w.heap[2]? = some (.cells (u32s constW) Tg (0, 0)) ∧ w.heap[0]? = some (.cells firstW.cells Tf (0, 0))
theorem GlQ.mono {Tg Tf : TypeId} {w w' : World} (h : GlQ Tg Tf w) (hb : Below w.heap.size w w') : GlQ Tg Tf w' :=
  ⟨(hb.block _ (Array.getElem?_eq_some_iff.1 h.1).1).trans h.1, (hb.block _ (Array.getElem?_eq_some_iff.1 h.2).1).trans h.2⟩
end Go.Proofs.YtlbgffhipondiaaGreatDoor.wir.val
namespace Go.Proofs.YtlbgffhipondiaaGreatDoor.wir.val
open Go.RowKit Go.YtlbgffhipondiaaGreatDoor
set_option linter.unusedVariables false
/-- What every operation that comes in has, whatever its sizes. -/
structure Od.Raw (o : Od) : Prop where
  au : o.au < 4294967296
  F : Bytes o.F
  st : o.st < 18446744073709551616
  k : 0 ≤ o.k ∧ o.k < 256
  vk : 0 ≤ o.v.k ∧ o.v.k < 256
  vn : -9223372036854775808 ≤ o.v.n ∧ o.v.n ≤ 9223372036854775807
  vb : o.v.b < 18446744073709551616
  e : o.e < 4294967296
  s : o.s < 4294967296
end Go.Proofs.YtlbgffhipondiaaGreatDoor.wir.val
namespace Go.Proofs.YtlbgffhipondiaaGreatDoor.wir.val
open Go.ChangeShapes Go.WideShapes Go.ChangeAt Go.WideMaps Go.WideElems Go.RowKit Go.Joins Go.YtlbgffhipondiaaGreatDoor
set_option linter.unusedVariables false
section
variable {H : Type} {enc : TypeId × Value → H} {P : Program} {W : World}
theorem addr_add_spot (a : Addr) (j k : Nat) : (a.add j).add k = a.add (j + k) := by
  by_cases hj : j = 0
  · subst hj; simp [Addr.add]
  · by_cases hk : k = 0
    · subst hk; simp [Addr.add]
    · simp [Addr.add, hj, hk, Nat.add_assoc]
theorem trod_ids {t e e8 : TypeId} (ht : P.underlying t = some (.slice e)) (he : P.underlying e = some (.array 32 e8)) (he8 : P.underlying e8 = some (.int .u8)) (hc8 : P.cellsOf e8 = 1) (hc : P.cellsOf e = 32) {fuel : Nat} {cs : List Value} {x : DataW H × List MemPlace}
    (h : DataW.trod enc P W 0 (fun _ => true) true fuel t cs = some x) : ∃ v n F, cs = [v] ∧ RdI W v n F ∧ Bytes F := by
  rcases DataW.trod_slice ht h with ⟨rfl, _⟩ | ⟨a, len, cap, elems, rest, m, _, rfl, _, hb, hl, hm, hlen, hel, _, _⟩
  · exact ⟨_, 0, [], rfl, .inl ⟨none, 0, rfl, fun _ => rfl, rfl, rfl⟩, bytes_nil⟩
  · have each : ∀ i, i < len → ∃ ks : List Int, ks.length = 32 ∧ Bytes ks ∧ ∀ j, j < 32 → W.cell? (a.add (i * 32 + j)) = some (.int .u8 (ith ks j)) := by
      intro i hi
      have h1 := hel i hi
      have hy : elems[i]? = some elems[i] := List.getElem?_eq_getElem (by omega)
      rw [hc, hy, Option.bind_eq_some_iff] at h1
      obtain ⟨cs', hcs, hy'⟩ := h1
      obtain ⟨ks, e1, e2, e3, _⟩ := trod_ints he he8 hc8 hc hy'
      have hcell := World.cells?_some hcs
      refine ⟨ks, e2, bytes_of e3, fun j hj => ?_⟩
      have h2 := hcell.2.2 j hj
      rw [addr_add_spot, e1] at h2
      rw [h2]
      simp [ith, e2, hj]
    have build : ∀ k, k ≤ len → ∃ F : List Int, F.length = 32 * k ∧ Bytes F ∧ ∀ i, i < 32 * k → W.cell? (a.add i) = some (.int .u8 (ith F i)) := by
      intro k
      induction k with
      | zero => intro _; exact ⟨[], rfl, bytes_nil, fun i hi => by omega⟩
      | succ k ih =>
        intro hk
        obtain ⟨F, f1, f2, f3⟩ := ih (by omega)
        obtain ⟨ks, k1, k2, k3⟩ := each k (by omega)
        refine ⟨F ++ ks, by rw [List.length_append, f1, k1]; omega, bytes_append _ _ f2 k2, fun i hi => ?_⟩
        rw [ith_append, f1]
        split
        · rename_i h; exact f3 i h
        · rename_i h
          have := k3 (i - 32 * k) (by omega)
          rw [show k * 32 + (i - 32 * k) = i by omega] at this
          exact this
    obtain ⟨F, f1, f2, f3⟩ := build len (Nat.le_refl _)
    by_cases h0 : len = 0
    · subst h0
      obtain rfl : F = [] := List.eq_nil_of_length_eq_zero (by omega)
      exact ⟨_, 0, [], rfl, .inl ⟨some a, cap, rfl, (fun h => by cases h), rfl, rfl⟩, bytes_nil⟩
    · obtain ⟨b, o, spot⟩ := a
      have hspot : spot = none := by simpa [Addr.add] using World.cell?_spot (f3 0 (by omega))
      subst hspot
      refine ⟨_, len, F, rfl, .inr ⟨b, o, cap, rfl, hl, hm, World.block_lt_of_cell? _ _ (f3 0 (by omega)), f1, fun i hi => ?_⟩, f2⟩
      have := f3 i (by omega)
      rw [addr_add] at this
      exact this
theorem trod_struct5 {t : TypeId} {f0 f1 f2 f3 f4 : Field} {base fuel : Nat} {spare : Nat → Bool} {held : Bool} {w : World} {cs : List Value} {x : DataW H × List MemPlace} (ht : P.underlying t = some (.struct #[f0, f1, f2, f3, f4])) (h : DataW.trod enc P w base spare held fuel t cs = some x) :
    ∃ y0 y1 y2 y3 y4 n, cs.length = P.cellsOf t ∧ DataW.trod enc P w base spare held n f0.type ((cs.drop f0.offset).take (P.cellsOf f0.type)) = some y0 ∧
      DataW.trod enc P w base spare held n f1.type ((cs.drop f1.offset).take (P.cellsOf f1.type)) = some y1 ∧ DataW.trod enc P w base spare held n f2.type ((cs.drop f2.offset).take (P.cellsOf f2.type)) = some y2 ∧
      DataW.trod enc P w base spare held n f3.type ((cs.drop f3.offset).take (P.cellsOf f3.type)) = some y3 ∧ DataW.trod enc P w base spare held n f4.type ((cs.drop f4.offset).take (P.cellsOf f4.type)) = some y4 := by
  obtain ⟨xs, n, _, rfl, hl, hlen, hf⟩ := DataW.trod_struct ht h
  match xs, hlen with
  | [y0, y1, y2, y3, y4], _ => exact ⟨y0, y1, y2, y3, y4, n, hl, by simpa using hf 0 f0 rfl, by simpa using hf 1 f1 rfl, by simpa using hf 2 f2 rfl, by simpa using hf 3 f3 rfl, by simpa using hf 4 f4 rfl⟩
end
theorem array11 {α : Type} {cs : Array α} (h : cs.size = 11) : ∃ c0 c1 c2 c3 c4 c5 c6 c7 c8 c9 c10, cs = #[c0, c1, c2, c3, c4, c5, c6, c7, c8, c9, c10] := by
  obtain ⟨l⟩ := cs
  match l, h with
  | [c0, c1, c2, c3, c4, c5, c6, c7, c8, c9, c10], _ => exact ⟨c0, c1, c2, c3, c4, c5, c6, c7, c8, c9, c10, rfl⟩
theorem natOf64 (x : Int) (h : (Lit.int .u64 x).wf = true) : ∃ n : Nat, x = (n : Int) ∧ n < 18446744073709551616 := by
  have h3 : 0 ≤ x ∧ x ≤ 18446744073709551615 := by simpa [Lit.wf, IntKind.min, IntKind.max, IntKind.signed, IntKind.bits] using h
  exact ⟨x.toNat, by omega, by omega⟩
theorem natOf32 (x : Int) (h : (Lit.int .u32 x).wf = true) : ∃ n : Nat, x = (n : Int) ∧ n < 4294967296 := by
  have h3 : 0 ≤ x ∧ x ≤ 4294967295 := by simpa [Lit.wf, IntKind.min, IntKind.max, IntKind.signed, IntKind.bits] using h
  exact ⟨x.toNat, by omega, by omega⟩
theorem boundsOf64 (x : Int) (h : (Lit.int .i64 x).wf = true) : -9223372036854775808 ≤ x ∧ x ≤ 9223372036854775807 := by
  simpa [Lit.wf, IntKind.min, IntKind.max, IntKind.signed, IntKind.bits] using h
section
variable {H : Type} {enc : TypeId × Value → H} {W : World}
set_option maxRecDepth 10000 in
theorem open_op {v : Value} {d : DataW H} {p : List MemPlace} {r : Reach} {b0 : Nat} (hv : Value.okWide Tryz.prog W r b0 35 v) (h : DataW.Trod enc Tryz.prog W 0 (fun _ => true) true 35 v d p) :
    ∃ (o : Od) (pv : Value), v = .agg (o.c pv) ∧ o.Raw ∧ RdI W pv o.n o.F := by
  obtain ⟨cs, rfl, hsz⟩ := okWide_struct Tryz.underlying35 hv
  obtain ⟨c0, c1, c2, c3, c4, c5, c6, c7, c8, c9, c10, rfl⟩ := array11 (hsz.trans (by kernel_rfl))
  obtain ⟨fuel, hf⟩ := h
  obtain ⟨y0, y1, y2, y3, y4, n, _, e0, e1, e2, e3, e4⟩ := trod_struct5 Tryz.underlying35 hf
  have k32 : Tryz.prog.cellsOf 25 = 1 := by kernel_rfl
  have kI : Tryz.prog.cellsOf 26 = 1 := by kernel_rfl
  have k64 : Tryz.prog.cellsOf 27 = 1 := by kernel_rfl
  have kA : Tryz.prog.cellsOf 31 = 6 := by kernel_rfl
  have kS : Tryz.prog.cellsOf 33 = 2 := by kernel_rfl
  have k8 : Tryz.prog.cellsOf 5 = 1 := by kernel_rfl
  have kT : Tryz.prog.cellsOf 9 = 1 := by kernel_rfl
  have kV : Tryz.prog.cellsOf 29 = 4 := by kernel_rfl
  have kN : Tryz.prog.cellsOf 2 = 1 := by kernel_rfl
  dsimp only at e0 e1 e2 e3 e4
  rw [k32] at e0
  rw [kI] at e1
  rw [k64] at e2
  rw [kA] at e3
  rw [kS] at e4
  simp only [Value.cells, List.drop_zero, List.take_succ_cons, List.take_zero, List.drop_succ_cons] at e0 e1 e2 e3 e4
  obtain ⟨au, a0, _, w0⟩ := DataW.trod_int Tryz.underlying25 e0
  obtain ⟨pv, pn, F, a1, hF, hFb⟩ := trod_ids Tryz.underlying26 Tryz.underlying24 Tryz.underlying5 (by kernel_rfl) (by kernel_rfl) e1
  obtain ⟨st, a2, _, w2⟩ := DataW.trod_int Tryz.underlying27 e2
  obtain ⟨z0, z1, z2, n2, _, _, g0, g1, g2⟩ := Deep.trod_struct3 Tryz.underlying31 e3
  obtain ⟨u0, u1, n3, _, _, s0, s1⟩ := trod_struct2 Tryz.underlying33 e4
  dsimp only at g0 g1 g2 s0 s1
  rw [k8] at g0
  rw [kT] at g1
  rw [kV] at g2
  rw [k32] at s0 s1
  simp only [List.drop_zero, List.take_succ_cons, List.take_zero, List.drop_succ_cons] at g0 g1 g2 s0 s1
  obtain ⟨k, b0, _, x0⟩ := DataW.trod_int Tryz.underlying5 g0
  obtain ⟨key, b1, _, x1⟩ := DataW.trod_string Tryz.underlying9 g1
  obtain ⟨q0, q1, q2, q3, n4, _, _, v0, v1, v2, v3⟩ := trod_struct4 Tryz.underlying29 g2
  dsimp only at v0 v1 v2 v3
  rw [k8] at v0
  rw [kN] at v1
  rw [k64] at v2
  rw [kT] at v3
  simp only [List.drop_zero, List.take_succ_cons, List.take_zero, List.drop_succ_cons] at v0 v1 v2 v3
  obtain ⟨vk, d0, _, y0⟩ := DataW.trod_int Tryz.underlying5 v0
  obtain ⟨vn, d1, _, y1⟩ := DataW.trod_int Tryz.underlying2 v1
  obtain ⟨vb, d2, _, y2⟩ := DataW.trod_int Tryz.underlying27 v2
  obtain ⟨vs, d3, _, y3⟩ := DataW.trod_string Tryz.underlying9 v3
  obtain ⟨e, f0, _, t0⟩ := DataW.trod_int Tryz.underlying25 s0
  obtain ⟨s, f1, _, t1⟩ := DataW.trod_int Tryz.underlying25 s1
  obtain ⟨au, rfl, hau⟩ := natOf32 au w0
  obtain ⟨st, rfl, hst⟩ := natOf64 st w2
  obtain ⟨vb, rfl, hvb⟩ := natOf64 vb y2
  obtain ⟨e, rfl, he⟩ := natOf32 e t0
  obtain ⟨s, rfl, hs⟩ := natOf32 s t1
  have hk : 0 ≤ k ∧ k ≤ 255 := by simpa [Lit.wf, IntKind.min, IntKind.max, IntKind.signed, IntKind.bits] using x0
  have hvk : 0 ≤ vk ∧ vk ≤ 255 := by simpa [Lit.wf, IntKind.min, IntKind.max, IntKind.signed, IntKind.bits] using y0
  refine ⟨⟨au, pn, F, st, k, key, ⟨vk, vn, vb, vs⟩, e, s⟩, pv, ?_, ⟨hau, hFb, hst, ⟨hk.1, show k < 256 by omega⟩, ⟨hvk.1, show vk < 256 by omega⟩, boundsOf64 vn y1, hvb, he, hs⟩, hF⟩
  rw [(List.cons.inj a0).1, (List.cons.inj a1).1, (List.cons.inj a2).1, (List.cons.inj b0).1, (List.cons.inj b1).1, (List.cons.inj d0).1, (List.cons.inj d1).1, (List.cons.inj d2).1, (List.cons.inj d3).1, (List.cons.inj f0).1, (List.cons.inj f1).1]
end
end Go.Proofs.YtlbgffhipondiaaGreatDoor.wir.val
namespace Go.Proofs.YtlbgffhipondiaaGreatDoor.wir.val
open Go.RowKit Go.YtlbgffhipondiaaGreatDoor
set_option linter.unusedVariables false
end Go.Proofs.YtlbgffhipondiaaGreatDoor.wir.val
namespace Go.Proofs.YtlbgffhipondiaaGreatDoor.wir.val
open Go.RowKit Go.YtlbgffhipondiaaGreatDoor
set_option linter.unusedVariables false
/-- What a walk keeps: the world from which it began, and rows that it laid. -/
structure Inv (w : World) (rows : List (Nat × Obj)) (w9 : World) : Prop where
  b : Below w.heap.size w w9
  r : ∀ p ∈ rows, w9.heap[p.1]? = some p.2
theorem Inv.start (w : World) : Inv w [] w := ⟨Below.refl _ _, fun p h => by cases h⟩
theorem Inv.step0 {w : World} {rows : List (Nat × Obj)} {w9 w' : World} (h : Inv w rows w9) (hb : Below w9.heap.size w9 w') : Inv w rows w' :=
  ⟨h.b.trans (hb.mono h.b.size), fun p hp => rowB (h.r p hp) hb (Array.getElem?_eq_some_iff.1 (h.r p hp)).1⟩
theorem Inv.alloc {w : World} {rows : List (Nat × Obj)} {w9 : World} (h : Inv w rows w9) (o : Obj) : Inv w rows (w9.alloc o) := h.step0 (below_a w9 o)
theorem Inv.add {w : World} {rows : List (Nat × Obj)} {w9 : World} (h : Inv w rows w9) (o : Obj) : Inv w ((w9.heap.size, o) :: rows) (w9.alloc o) :=
  ⟨(h.alloc o).b, fun p hp => by
    rcases List.mem_cons.1 hp with rfl | hp
    · exact heap_alloc_new w9 o
    · exact (h.alloc o).r p hp⟩
theorem Inv.drew {w : World} {rows : List (Nat × Obj)} {w9 : World} (h : Inv w rows w9) : Inv w rows w9.drew := h.step0 (Below.refl _ _).drew
end Go.Proofs.YtlbgffhipondiaaGreatDoor.wir.val
namespace Go.Proofs.YtlbgffhipondiaaGreatDoor.wir
open Go.RowKit Go.YtlbgffhipondiaaGreatDoor
set_option linter.unusedVariables false
end Go.Proofs.YtlbgffhipondiaaGreatDoor.wir
namespace Go.Proofs.YtlbgffhipondiaaGreatDoor.wir
open Go.RowKit Go.YtlbgffhipondiaaGreatDoor
set_option linter.unusedVariables false
theorem fold_list (l : List Value) (k : Nat) (z : Array Value) (h : k + l.length ≤ z.size) (i : Nat) : ((l.zipIdx k).foldl (fun cs x => cs.setIfInBounds x.snd x.fst) z)[i]? = if k ≤ i ∧ i < k + l.length then l[i - k]? else z[i]? := by
  induction l generalizing k z with
  | nil => simp; intro h1 h2; omega
  | cons v l ih =>
    rw [List.zipIdx_cons, List.foldl_cons, ih (k + 1) _ (by simp at h ⊢; omega)]
    simp only [List.length_cons] at h ⊢
    by_cases h1 : i = k
    · subst h1
      rw [if_neg (by omega), if_pos (by omega), Nat.sub_self]
      rw [Array.getElem?_setIfInBounds_self_of_lt (by omega)]; simp
    · by_cases h2 : k + 1 ≤ i ∧ i < k + 1 + l.length
      · rw [if_pos h2, if_pos (by omega), show i - k = (i - (k + 1)) + 1 by omega]
        simp
      · rw [if_neg h2, if_neg (by omega)]
        simp [Array.getElem?_setIfInBounds, Ne.symm h1]
theorem fold_arr (a z : Array Value) (h : a.size = z.size) : (a.zipIdx).foldl (fun cs x => cs.setIfInBounds x.snd x.fst) z = a := by
  apply Array.ext_getElem?
  intro i
  rw [← Array.foldl_toList, Array.toList_zipIdx, fold_list _ _ _ (by simp; omega)]
  by_cases hi : i < a.size
  · rw [if_pos (by simp; omega)]; simp
  · rw [if_neg (by simp; omega), Array.getElem?_eq_none (by omega), Array.getElem?_eq_none (by omega)]
end Go.Proofs.YtlbgffhipondiaaGreatDoor.wir
namespace Go.Proofs.YtlbgffhipondiaaGreatDoor.wir.val
open Go.RowKit Go.YtlbgffhipondiaaGreatDoor
set_option linter.unusedVariables false
/-- An act: its kind, its key, its value. -/
structure Ac where
  k : Int
  key : ByteArray
  v : Va
theorem but_trans {w1 w2 w3 : World} {r : Option Nat} (h : w1.grownBy w2 r) (k : w2.grownBy w3 r) : w1.grownBy w3 r :=
  ⟨k.os.trans h.os, k.tape.trans h.tape, k.output.trans h.output, Nat.le_trans h.size k.size, fun i hi hn => (k.block i (Nat.lt_of_lt_of_le hi h.size) hn).trans (h.block i hi hn)⟩
theorem but_cell (w : World) (g i : Nat) (v : Value) : w.grownBy (w.setCell ⟨g, i, none⟩ v) (some g) :=
  ⟨rfl, rfl, rfl, by simp [World.setCell], fun k _ hn => Below.heap_setCell _ _ _ _ (fun e => hn (by rw [e]))⟩
end Go.Proofs.YtlbgffhipondiaaGreatDoor.wir.val
namespace Go.Proofs.YtlbgffhipondiaaGreatDoor.wir.val
open Go.RowKit Go.YtlbgffhipondiaaGreatDoor
set_option linter.unusedVariables false
end Go.Proofs.YtlbgffhipondiaaGreatDoor.wir.val
namespace Go.Proofs.YtlbgffhipondiaaGreatDoor.wir.val
open Go.RowKit Go.YtlbgffhipondiaaGreatDoor
set_option linter.unusedVariables false
end Go.Proofs.YtlbgffhipondiaaGreatDoor.wir.val
namespace Go.Proofs.YtlbgffhipondiaaGreatDoor.wir.val
open Go.RowKit Go.YtlbgffhipondiaaGreatDoor
set_option linter.unusedVariables false
/-- How a part of the reader ends. -/
abbrev Ends {α : Type} (fl : Bool) (r : Option (α × List Int)) (x : α) (l' : List Int) (fl' : Bool) : Prop := (fl' = true ∧ r = none) ∨ (fl' = fl ∧ r = some (x, l'))
theorem Ends.up {α : Type} {fl fl' : Bool} {r : Option (α × List Int)} {x : α} {l' : List Int} (h : Ends fl r x l' fl') (hf : fl = true) : fl' = true := by
  rcases h with h | h
  · exact h.1
  · exact h.1.trans hf
end Go.Proofs.YtlbgffhipondiaaGreatDoor.wir.val
namespace Go.Proofs.YtlbgffhipondiaaGreatDoor.grp
open Go.RowKit
set_option linter.unusedVariables false
theorem inG_lt {a : Nat} (h : inG a = true) : a < GP := ((inG_iff a).1 h).2.1
theorem inG_u32 {a : Nat} (h : inG a = true) : a < 4294967296 := by have := inG_lt h; unfold GP at this; omega
theorem GP_u32 {a : Nat} (h : a < GP) : a < 4294967296 := by unfold GP at h; omega
theorem mul_ok (a b : Nat) (ha : inG a = true) (hb : inG b = true) (w : World) : Calls Tryz.prog 169 #[.int .u32 (a : Int), .int .u32 (b : Int)] w fun e w' => e = .returned (.tuple #[.int .u32 ((a * b % GP : Nat) : Int), .int .i64 0]) ∧ Grown w w' := by
  have hE0 := every_is a b w.heap.size (w.alloc (.cells #[.int .u32 (a : Int), .int .u32 (b : Int)] 25)) (inG_u32 ha) (inG_u32 hb) (by simp) (by simp)
  rw [ha, hb] at hE0
  have hE := Lib.hid hE0; have la := Lib.hid (inG_lt ha); have lb := Lib.hid (inG_lt hb)
  clear hE0 ha hb
  go_enter Tryz.func169, Tryz.ntmps169
  go_wp2_with (first | (go_at_call 190; refine (hE.out).mono ?_; rintro e w' ⟨rfl, g1⟩; have g1' := Lib.hid g1; clear g1) | (go_at_call 192; refine (products_any _ _).mono ?_; rintro e w' ⟨rfl, rfl⟩) | (go_at_call 227; refine (times_GP _ _ _ _ (by simp) la.out lb.out).mono ?_; rintro e w' ⟨rfl, rfl⟩))
  go_ret2
  exact ⟨rfl, (Grown.trans' ((Grown.refl _).alloc _ _) g1'.out).alloc _ _⟩
theorem pow_ok (a n : Nat) (ha : inG a = true) (hn : n < 18446744073709551616) (w : World) : Calls Tryz.prog 167 #[.int .u32 (a : Int), .int .u64 (n : Int)] w fun e w' => e = .returned (.tuple #[.int .u32 (pw a n : Int), .int .i64 0]) ∧ Grown w w' := by
  have hI0 := is_any a (inG_u32 ha)
  rw [ha] at hI0
  have hI := Lib.hid hI0; have hP := Lib.hid (power_any a n (inG_lt ha) hn)
  clear hI0 ha hn
  go_enter Tryz.func167, Tryz.ntmps167
  go_wp2_with (first | (go_at_call 122; refine (hI.out _).mono ?_; rintro e w' ⟨rfl, g1⟩; have g1' := Lib.hid g1; clear g1) | (go_at_call 164; refine (hP.out _).mono ?_; rintro e w' ⟨rfl, g2⟩; have g2' := Lib.hid g2; clear g2))
  go_ret2
  exact ⟨rfl, Grown.trans' g1'.out g2'.out⟩
theorem inv_ok (a : Nat) (ha : inG a = true) (w : World) : Calls Tryz.prog 168 #[.int .u32 (a : Int)] w fun e w' => e = .returned (.tuple #[.int .u32 (pw a 500000002 : Int), .int .i64 0]) ∧ Grown w w' := by
  have hP := Lib.hid (pow_ok a 500000002 ha (by decide))
  clear ha
  go_enter Tryz.func168, Tryz.ntmps168
  go_wp2_with (go_at_call 167; refine (hP.out _).mono ?_; rintro e w' ⟨rfl, g1⟩; have g1' := Lib.hid g1; clear g1)
  go_ret2
  exact ⟨rfl, g1'.out⟩
theorem base_any (n : Nat) (hn : n < 18446744073709551616) (w : World) : Calls Tryz.prog 149 #[.int .u64 (n : Int)] w fun e w' => e = .returned (.int .u32 (pw 4 n : Int)) ∧ Grown w w' := by
  have hP := Lib.hid (power_any 4 n (by decide) hn)
  clear hn
  go_enter Tryz.func149, Tryz.ntmps149
  go_wp2_with (go_at_call 164; refine (hP.out _).mono ?_; rintro e w' ⟨rfl, g1⟩; have g1' := Lib.hid g1; clear g1)
  go_ret
  exact ⟨rfl, g1'.out⟩
theorem product_any (a b : Nat) (ha : a < GP) (hb : b < GP) (w : World) : Calls Tryz.prog 211 #[.int .u32 (a : Int), .int .u32 (b : Int)] w fun e w' => e = .returned (.int .u32 ((a * b % GP : Nat) : Int)) ∧ w' = w := by
  have la := Lib.hid ha; have lb := Lib.hid hb; have ka := GP_u32 ha; have kb := GP_u32 hb
  clear ha hb
  go_enter Tryz.func211, Tryz.ntmps211
  go_wp2
  go_ret
  refine ⟨?_, rfl⟩
  show Ending.returned (Value.int .u32 ((IntKind.u64.wrap ((a : Int) * (b : Int))).tmod 1000000007 % 4294967296)) = _
  rw [mulGP a b la.out lb.out]
  have := GP_u32 (Nat.mod_lt (a * b) GP_pos)
  congr 2
  omega
theorem raised_any (a n : Nat) (ha : a < GP) (hn : n < 18446744073709551616) (w : World) : Calls Tryz.prog 209 #[.int .u32 (a : Int), .int .u64 (n : Int)] w fun e w' => e = .returned (.int .u32 (pw a n : Int)) ∧ w' = w := by
  have hP := Lib.hid (rpower_any a n ha hn); have ka := GP_u32 ha
  have kx := Lib.hid (GP_u32 (pw_lt a n))
  clear ha hn
  go_enter Tryz.func209, Tryz.ntmps209
  go_wp2_with (go_at_call 205; refine (hP.out _).mono ?_; rintro e w' ⟨rfl, rfl⟩)
  go_ret
  refine ⟨?_, rfl⟩
  have := kx.out
  show Ending.returned (Value.int .u32 ((pw a n : Int) % 4294967296)) = _
  congr 2
  omega
theorem rinv_ok (a : Nat) (ha : inG a = true) (w : World) : Calls Tryz.prog 208 #[.int .u32 (a : Int)] w fun e w' => e = .returned (.tuple #[.int .u32 (pw a 500000002 : Int), .int .i64 0]) ∧ w' = w := by
  have hI0 := ris_any a (inG_u32 ha)
  rw [ha] at hI0
  have hI := Lib.hid hI0; have hP := Lib.hid (raised_any a 500000002 (inG_lt ha) (by decide))
  clear hI0 ha
  go_enter Tryz.func208, Tryz.ntmps208
  go_wp2_with (first | (go_at_call 175; refine (hI.out _).mono ?_; rintro e w' ⟨rfl, rfl⟩) | (go_at_call 209; refine (hP.out _).mono ?_; rintro e w' ⟨rfl, rfl⟩))
  go_ret2
  exact ⟨rfl, rfl⟩
theorem rbase_any (n : Nat) (hn : n < 18446744073709551616) (w : World) : Calls Tryz.prog 238 #[.int .u64 (n : Int)] w fun e w' => e = .returned (.int .u32 (pw 4 n : Int)) ∧ w' = w := by
  have hP := Lib.hid (raised_any 4 n (by decide) hn)
  clear hn
  go_enter Tryz.func238, Tryz.ntmps238
  go_wp2_with (go_at_call 209; refine (hP.out _).mono ?_; rintro e w' ⟨rfl, rfl⟩)
  go_ret
  exact ⟨rfl, rfl⟩
end Go.Proofs.YtlbgffhipondiaaGreatDoor.grp
namespace Go.Proofs.YtlbgffhipondiaaGreatDoor.grp
open Go.RowKit
set_option linter.unusedVariables false
theorem pw_eq (a n : Nat) (hn : n < 2 ^ 64) : pw a n = pwF 64 1 a n := by
  rw [pwF_eq 64 1 a n hn (by decide), Nat.one_mul]; exact (Nat.mod_eq_of_lt (pw_lt _ _)).symm
theorem inG_eq (a : Nat) : inG a = decide (1 ≤ a ∧ a < GP ∧ pwF 64 1 a 500000003 = 1) := by unfold inG; rw [pw_eq _ _ (by decide)]
theorem in4 : inG 4 = true := by rw [inG_eq]; decide +kernel
end Go.Proofs.YtlbgffhipondiaaGreatDoor.grp
namespace Go.Proofs.YtlbgffhipondiaaGreatDoor.grp
open Go.RowKit
set_option linter.unusedVariables false
theorem inv_mul (a : Nat) (h : inG a = true) : a * pw a 500000002 % GP = 1 := by
  obtain ⟨_, hl, h⟩ := (inG_iff a).1 h
  have e := pw_add a 1 500000002
  rw [pw_one a hl, show 1 + 500000002 = 500000003 from rfl, h] at e
  exact e.symm
end Go.Proofs.YtlbgffhipondiaaGreatDoor.grp
namespace Go.Proofs.YtlbgffhipondiaaGreatDoor
open Go.RowKit Go.YtlbgffhipondiaaGreatDoor
set_option linter.unusedVariables false
variable {Tg Tf : TypeId}
def numN (D : List Int) : Nat → Int
  | 0 => 0
  | k + 1 => numN D k * 256 + ith D k
theorem numN_in (D : List Int) (hD : Bytes D) (k : Nat) : 0 ≤ numN D k ∧ numN D k < 256 ^ k := by
  induction k with
  | zero => exact ⟨Int.le_refl _, by rw [Int.pow_zero]; exact Int.zero_lt_one⟩
  | succ k ih =>
    have h := hD k
    show 0 ≤ numN D k * 256 + ith D k ∧ numN D k * 256 + ith D k < 256 ^ (k + 1)
    rw [Int.pow_succ]; omega
theorem numN_7 (D : List Int) (hD : Bytes D) (k : Nat) (hk : k ≤ 7) : 0 ≤ numN D k ∧ numN D k < 72057594037927936 := by
  have h := numN_in D hD k
  refine ⟨h.1, Int.lt_of_lt_of_le h.2 ?_⟩
  have h2 : (256 : Nat) ^ k ≤ 72057594037927936 := (show (256 : Nat) ^ k ≤ 256 ^ 7 from Nat.pow_le_pow_right (by decide) hk)
  rw [show (256 : Int) ^ k = ((256 ^ k : Nat) : Int) by rw [Int.natCast_pow]; rfl]
  exact Int.ofNat_le.2 h2
set_option maxRecDepth 10000 in
theorem or_byte (x b : Int) (hx : 0 ≤ x ∧ x < 72057594037927936) (hb : 0 ≤ b ∧ b < 256) : bits BinOp.or IntKind.u64 (x * 256) b = x * 256 + b := by
  obtain ⟨n, rfl⟩ := Int.eq_ofNat_of_zero_le hx.1
  obtain ⟨m, rfl⟩ := Int.eq_ofNat_of_zero_le hb.1
  have h1 : (BitVec.ofInt 64 ((n : Int) * 256)).toNat = 2 ^ 8 * n := by
    rw [show (n : Int) * 256 = ((2 ^ 8 * n : Nat) : Int) by omega, BitVec.ofInt_natCast, BitVec.toNat_ofNat]; omega
  have h2 : (BitVec.ofInt 64 (m : Int)).toNat = m := by
    rw [BitVec.ofInt_natCast, BitVec.toNat_ofNat]; omega
  show IntKind.u64.wrap ((BitVec.ofInt 64 ((n : Int) * 256) ||| BitVec.ofInt 64 (m : Int)).toNat : Int) = _
  rw [BitVec.toNat_or, h1, h2, ← Nat.two_pow_add_eq_or_of_lt (by omega) n, IntKind.wrap_u64]
  omega
set_option maxRecDepth 100000 in
theorem numberOf_any (D : List Int) (w : World) (hl : D.length = 32) (hD : Bytes D) :
    Calls Tryz.prog 226 #[.agg (u8s D)] w fun e w' => e = .returned (.int .u64 (numN D 8)) ∧ Below w.heap.size w w' := by
  have hc := fun k (hk : k < 32) => (show (w.alloc (.cells (u8s D) 24)).cell? ⟨w.heap.size, k, none⟩ = some (.int .u8 (ith D k)) from by
    rw [cell_of_row _ _ _ _ _ _ (heap_alloc_new w _)]; exact u8s_get _ _ (by omega))
  have hc' := Lib.hid hc; have hl' := Lib.hid hl; have hD' := Lib.hid hD
  clear hc hl hD
  go_enter Tryz.func226, Tryz.ntmps226
  go_wp2
  go_loop [3, 8] (fun n i => ∃ k : Nat, k ≤ 8 ∧ i = .int .i64 k ∧ n = .int .u64 (numN D k)) (fun _ i => match i with | .int _ m => 8 - m.toNat | _ => 0)
  case atStart => exact ⟨0, by omega, rfl, rfl⟩
  case round =>
    obtain ⟨k, hk, rfl, rfl⟩ := hrel
    by_cases hlt : k < 8
    · have hck := hc'.out k (by omega)
      have hb := hD'.out k
      have hx := numN_7 D hD'.out k (by omega)
      have hor := Lib.hid (or_byte _ _ hx hb)
      have hnx : numN D (k + 1) = numN D k * 256 + ith D k := rfl
      generalize hY : numN D (k + 1) = y at hnx
      generalize hX : numN D k = x at *
      have hnx' := Lib.hid hnx; have hY' := Lib.hid hY
      clear hnx hX hY
      generalize ith D k = b at *
      go_wp2
      refine ⟨⟨k + 1, by omega, rfl, ?_⟩, ?_⟩
      · rw [hor.out, ← hnx'.out, hY'.out]
      · show 8 - ((k : Int) + 1).toNat < 8 - (k : Int).toNat
        omega
    · obtain rfl : k = 8 := by omega
      go_wp2
      go_ret
      exact ⟨rfl, (Below.refl _ _).alloc (Nat.le_refl _) _⟩
theorem tooLong_any (a : Option Addr) (n c : Nat) (w : World) : Calls Tryz.prog 125 #[.slice a n c] w fun e w' => e = .returned (.bool (decide (9991 < n))) ∧ w' = w := by
  go_enter Tryz.func125, Tryz.ntmps125
  go_wp2
  go_ret
  exact ⟨by congr 2; simp; omega, rfl⟩
theorem check_any (a : Nat) (w : World) : Calls Tryz.prog 148 #[.int .u32 (a : Int)] w fun e w' => e = .returned (.int .i64 (if 1 ≤ a ∧ a < 500000003 then 0 else 2)) ∧ w' = w := by
  by_cases h : 1 ≤ a ∧ a < 500000003
  · rw [if_pos h]
    obtain ⟨h1, h2⟩ := h
    go_enter Tryz.func148, Tryz.ntmps148
    go_wp2
    all_goals
      go_ret
      exact ⟨rfl, rfl⟩
  · rw [if_neg h]
    by_cases h1 : a = 0
    · subst h1
      go_enter Tryz.func148, Tryz.ntmps148
      go_wp2
      all_goals
        go_ret
        exact ⟨rfl, rfl⟩
    · have h2 : ¬ a < 500000003 := by omega
      have h3 : 1 ≤ a := by omega
      clear h h1
      go_enter Tryz.func148, Tryz.ntmps148
      go_wp2
      all_goals
        go_ret
        exact ⟨rfl, rfl⟩
end Go.Proofs.YtlbgffhipondiaaGreatDoor
namespace Go.Proofs.YtlbgffhipondiaaGreatDoor
open Go.RowKit Go.YtlbgffhipondiaaGreatDoor
set_option linter.unusedVariables false
variable {Tg Tf : TypeId}
def headF (mark : Int) (nums : List Int) : Nat → List Int
  | 0 => [mark]
  | k + 1 => headF mark nums k ++ be4 (ith nums k)
theorem headF_length (mark : Int) (nums : List Int) (k : Nat) : (headF mark nums k).length = 4 * k + 1 := by
  induction k with
  | zero => rfl
  | succ k ih => simp [headF, ih, be4]; omega
theorem list_all32 (v : V8) (h : v.ok) : All32 v.list := by
  obtain ⟨h0, h1, h2, h3, h4, h5, h6, h7⟩ := h
  intro i
  match i with
  | 0 => exact h0
  | 1 => exact h1
  | 2 => exact h2
  | 3 => exact h3
  | 4 => exact h4
  | 5 => exact h5
  | 6 => exact h6
  | 7 => exact h7
  | i + 8 => rw [ith_over _ _ (by simp [V8.list])]; exact ⟨by omega, by omega⟩
theorem shaF_bytes (l : List Int) : Bytes (shaF l) := writtenN_bytes _ 8 (list_all32 _ (blocksF_ok _ _ (blocksF_ok _ _ firstW_ok)))
theorem headF_bytes (mark : Int) (nums : List Int) (hm : 0 ≤ mark ∧ mark < 256) (hn : All32 nums) (k : Nat) : Bytes (headF mark nums k) := by
  induction k with
  | zero => exact bytes_one _ hm
  | succ k ih => exact bytes_append _ _ ih (be4_bytes _ (hn k))
theorem rd_four (w : World) (a b c d : Int) : RdB (w.alloc (.cells #[.int .u8 a, .int .u8 b, .int .u8 c, .int .u8 d] 5)) (.slice (some ⟨w.heap.size, 0, none⟩) 4 4) [a, b, c, d] := .inr ⟨w.heap.size, 0, 4, rfl, Nat.le_refl _, by decide, by simp, fun i hi => by
  rw [Nat.zero_add, cell_of_row _ _ _ _ _ _ (heap_alloc_new w _)]
  match i, hi with
  | 0, _ => rfl
  | 1, _ => rfl
  | 2, _ => rfl
  | 3, _ => rfl⟩
theorem rd_two (w : World) (v1 v2 : Value) (a b : List Int) (h1 : RdB w v1 a) (h2 : RdB w v2 b) (la : a.length ≤ 10000) (lb : b.length ≤ 10000) (ba : Bytes a) (bb : Bytes b)
    (hg : w.heap[2]? = some (.cells (u32s constW) Tg (0, 0))) (hgf : w.heap[0]? = some (.cells firstW.cells Tf (0, 0))) :
    Calls Tryz.prog 114 #[.slice (some ⟨w.heap.size, 0, none⟩) 2 2] (w.alloc (.cells #[v1, v2] 101)) fun e w' => e = .returned (.tuple #[.agg (u8s (shaF (a ++ b))), .int .i64 0]) ∧ Below w.heap.size w w' := by
  have hB : Below w.heap.size w (w.alloc (.cells #[v1, v2] 101)) := (Below.refl _ _).alloc (Nat.le_refl _) _
  have h := pieces_any (Tg := Tg) (Tf := Tf) [a, b] (.slice (some ⟨w.heap.size, 0, none⟩) 2 2) w.heap.size 0 2 rfl (w.alloc (.cells #[v1, v2] 101)) (Nat.le_refl _) (by decide) (by simp) (fun i hi => by
    rw [Nat.zero_add]
    match i, hi with
    | 0, _ => exact ⟨_, cell_of_row _ _ _ _ _ _ (heap_alloc_new w _), h1.mono hB⟩
    | 1, _ => exact ⟨_, cell_of_row _ _ _ _ _ _ (heap_alloc_new w _), h2.mono hB⟩) (show 2 ≤ 20 by decide) (fun i => by
    match i with
    | 0 => exact la
    | 1 => exact lb
    | n + 2 => simp [nthL]) (fun i => by
    match i with
    | 0 => exact ba
    | 1 => exact bb
    | n + 2 => intro j; simp [nthL, ith]) ((hB.block _ (Array.getElem?_eq_some_iff.1 hg).1).trans hg) ((hB.block _ (Array.getElem?_eq_some_iff.1 hgf).1).trans hgf)
  rw [show ([a, b] : List (List Int)).flatten = a ++ b by simp] at h
  refine h.mono ?_
  rintro e w' ⟨rfl, hb⟩
  exact ⟨rfl, hB.trans (hb.mono (by simp))⟩
def hashF (mark : Int) (nums m : List Int) : Int := numN (shaF (headF mark nums nums.length ++ m)) 8
set_option maxRecDepth 100000 in
set_option maxHeartbeats 1000000 in
theorem hash_any (mark : Int) (nums m : List Int) (bn : Nat) (TU : TypeId) (mv : Value) (w : World) (hm : RdB w mv m) (hmb : Bytes m) (hml : m.length ≤ 9991) (hmk : 0 ≤ mark ∧ mark < 256) (hn2 : nums.length ≤ 2) (hn32 : All32 nums)
    (hn : w.heap[bn]? = some (.cells (u32s nums) TU (0, 0)))
    (hg : w.heap[2]? = some (.cells (u32s constW) Tg (0, 0))) (hgf : w.heap[0]? = some (.cells firstW.cells Tf (0, 0))) :
    Calls Tryz.prog 189 #[.int .u8 mark, mv, .slice (some ⟨bn, 0, none⟩) nums.length nums.length] w fun e w' => e = .returned (.int .u64 (hashF mark nums m)) ∧ Below w.heap.size w w' := by
  obtain ⟨ma, mc, rfl⟩ := hm.slice
  have hbn : bn < w.heap.size := (Array.getElem?_eq_some_iff.1 hn).1
  have e0 : OwnB w.heap.size 5 (w.alloc (.cells #[.int .u8 mark] 5)) (.slice (some ⟨w.heap.size, 0, none⟩) 1 1) (headF mark nums 0) :=
    ⟨rfl, .inr ⟨w.heap.size, 1, _, rfl, Nat.le_refl _, heap_alloc_new w _, Nat.le_refl _, by decide, rfl, rfl⟩⟩
  have e0' := Lib.hid e0; have hm' := Lib.hid hm; have hn' := Lib.hid hn; have hn32' := Lib.hid hn32; have hmb' := Lib.hid hmb; have hg' := Lib.hid hg; have hgf' := Lib.hid hgf
  clear e0 hm hn hn32 hmb hg hgf
  go_enter Tryz.func189, Tryz.ntmps189
  go_wp2
  go_loopw [7, 16] (fun h i wr => ∃ k : Nat, k ≤ nums.length ∧ i = .int .i64 k ∧ OwnB w.heap.size 5 wr h (headF mark nums k) ∧ Below w.heap.size w wr) (fun _ i _ => match i with | .int _ q => nums.length - q.toNat | _ => 0)
  case atStart => exact ⟨0, Nat.zero_le _, rfl, e0'.out, (Below.refl _ _).alloc (Nat.le_refl _) _⟩
  case round =>
    obtain ⟨k, hk, rfl, ho, hb⟩ := hrel
    obtain ⟨sa, sc, rfl⟩ := ho.rd.slice
    have hlen := headF_length mark nums k
    have hbd : (headF mark nums k).length + 4 ≤ 140737488355328 := by omega
    have hbd' := Lib.hid hbd
    generalize hHL : (headF mark nums k).length = hl at ho hlen ⊢
    have hHL' := Lib.hid hHL; have hlen' := Lib.hid hlen
    clear hHL hlen hbd
    by_cases hlt : k < nums.length
    · have hcell : wr.cell? ⟨bn, k, none⟩ = some (.int .u32 (ith nums k)) := by
        rw [cell_of_row _ _ _ _ _ _ ((hb.block _ hbn).trans hn'.out)]
        rw [u32s_eq]; simpa using u32v_get nums k hlt
      have hx := hn32'.out k
      generalize hX : ith nums k = x at hcell hx
      have hX' := Lib.hid hX; clear hX
      have ho' := Lib.hid ho; have hb' := Lib.hid hb; have hzw := hb.size
      clear ho hb
      obtain ⟨hx0, hx1⟩ := hx
      go_wp2_with (refine appendB rfl _ _ 101 rfl w.heap.size 5 Tryz.underlying101 (by kernel_rfl) _ rfl _ (ho'.out.kept ((Below.refl _ _).alloc (Nat.le_refl _) _)) _ rfl _ (rd_four _ _ _ _ _) (by exact hbd'.out) (by simp; omega) ?_)
      intro v' w' h1 h2
      have hb2 := (ho'.out.kept ((Below.refl _ _).alloc (Nat.le_refl _) _)).below h2 (by simp; omega)
      have h3 : OwnB w.heap.size 5 w' v' (headF mark nums (k + 1)) := by
        have e2 : headF mark nums (k + 1) = headF mark nums k ++ be4 x := by rw [← hX'.out]; rfl
        rw [e2]; exact h1
      have h3' := Lib.hid h3; have hB2 := Lib.hid (hb'.out.trans (((Below.refl _ _).alloc hzw _).trans hb2))
      obtain ⟨va, vc, rfl⟩ := h3.rd.slice
      clear h1 h2 hb2 h3 ho' hX' hHL' hlen' hbd' hcell
      refine Stop.go ?_
      go_wp2
      go_roundw
      case rel => exact ⟨k + 1, by omega, rfl, h3'.out, hB2.out⟩
      case measure => simp; omega
    · obtain rfl : k = nums.length := by omega
      have hg1 := Lib.hid ((hb.block _ (Array.getElem?_eq_some_iff.1 hg'.out).1).trans hg'.out)
      have hgf1 := Lib.hid ((hb.block _ (Array.getElem?_eq_some_iff.1 hgf'.out).1).trans hgf'.out)
      have hm1 := Lib.hid (hm'.out.mono hb)
      have ho1 := Lib.hid ho.rd
      have hB := Lib.hid hb
      have hzw := hb.size
      have hF := Lib.hid (show hashF mark nums m = numN (shaF (headF mark nums nums.length ++ m)) 8 from rfl)
      have hH := Lib.hid (headF_bytes mark nums hmk hn32'.out nums.length)
      have hHl : (headF mark nums nums.length).length ≤ 10000 := by rw [hHL'.out, hlen'.out]; omega
      have hHl' := Lib.hid hHl
      have hp := Lib.hid (rd_two wr (.slice sa hl sc) (.slice ma m.length mc) _ _ ho1.out hm1.out hHl'.out (by omega) hH.out hmb'.out hg1.out hgf1.out)
      have hDl := Lib.hid (shaF_length (headF mark nums nums.length ++ m))
      have hDb := Lib.hid (shaF_bytes (headF mark nums nums.length ++ m))
      clear ho hb ho1 hm1 hg1 hgf1 hH hHl hHl' hHL' hlen' hbd'
      generalize shaF (headF mark nums nums.length ++ m) = D at *
      have hi := Lib.hid (show (Tryz.prog.info? 24).map (·.size) = some (u8s D).size from by rw [u8s_size, hDl.out]; kernel_rfl)
      have hs2 := Lib.hid (show 32 = (u8s D).size by rw [u8s_size, hDl.out])
      go_wp2_with (first | (go_at_call 114; refine (hp.out).mono ?_; rintro e w1 ⟨rfl, hb1⟩; have hb1' := Lib.hid hb1; have hz1 := hb1.size; clear hb1) | (refine storeNew w1 rfl 24 _ _ rfl (u8s D) 24 rfl rfl hi.out (Eq.trans (by kernel_rfl) hs2.out) (u8s_one _) ?_; intro wx hr hb2; have hq := Lib.hid hr; have hb2' := Lib.hid hb2; clear hr hb2; refine Stop.go' _ ?_))
      refine Stop.go ?_
      have hB3 := Lib.hid (hB.out.trans ((hb1'.out.mono hzw).trans (hb2'.out.mono (Nat.le_trans hzw hz1))))
      have hzx := hB3.out.size
      clear hb1' hb2' hp hs2
      go_wp2_with (first | (refine wpList_load_row rfl 24 _ rfl w1.heap.size rfl 24 (u8s D) (0, 0) _ hq.out Tryz.underlying24 rfl hi.out ?_) | (go_at_call 226; refine (numberOf_any D _ hDl.out hDb.out).mono ?_; rintro e w2 ⟨rfl, hb3⟩; have hb3' := Lib.hid hb3; clear hb3))
      go_ret
      exact ⟨ret_int hF.out.symm, hB3.out.trans (hb3'.out.mono hzx)⟩
end Go.Proofs.YtlbgffhipondiaaGreatDoor
namespace Go.Proofs.YtlbgffhipondiaaGreatDoor
open Go.RowKit Go.YtlbgffhipondiaaGreatDoor
set_option linter.unusedVariables false
/-- The listed variables as' they are laid. -/
def GlobW (w : World) : Prop := ∃ Tg Tf : TypeId, w.heap[2]? = some (.cells (u32s constW) Tg (0, 0)) ∧ w.heap[0]? = some (.cells firstW.cells Tf (0, 0))
theorem GlobW.mono {w w' : World} (h : GlobW w) (hb : Below w.heap.size w w') : GlobW w' := by
  obtain ⟨Tg, Tf, h1, h2⟩ := h
  exact ⟨Tg, Tf, (hb.block _ (Array.getElem?_eq_some_iff.1 h1).1).trans h1, (hb.block _ (Array.getElem?_eq_some_iff.1 h2).1).trans h2⟩
def hN (mark : Int) (nums m : List Int) : Nat := (hashF mark nums m).toNat
theorem hN_eq (mark : Int) (nums m : List Int) : hashF mark nums m = (hN mark nums m : Int) := by
  have h := numN_in (shaF (headF mark nums nums.length ++ m)) (shaF_bytes _) 8
  exact (Int.toNat_of_nonneg h.1).symm
def nonceN (a : Nat) (m : List Int) : Nat := hN 110 [(a : Int)] m % 500000002 + 1
def chalN (r y : Nat) (m : List Int) : Nat := hN 99 [(r : Int), (y : Int)] m % 500000003
theorem all32_1 (a : Nat) (ha : a < 4294967296) : All32 [(a : Int)] := all32_snoc [] _ (fun i => by simp [ith, In32]) ⟨by omega, by omega⟩
theorem all32_2 (a b : Nat) (ha : a < 4294967296) (hb : b < 4294967296) : All32 [(a : Int), (b : Int)] := all32_snoc [(a : Int)] _ (all32_1 a ha) ⟨by omega, by omega⟩
theorem hash1 (mark : Int) (hmk : 0 ≤ mark ∧ mark < 256) (a : Nat) (ha : a < 4294967296) (mv : Value) (m : List Int) (w : World) (hm : RdB w mv m) (hmb : Bytes m) (hml : m.length ≤ 9991) (hgl : GlobW w) :
    Calls Tryz.prog 189 #[.int .u8 mark, mv, .slice (some ⟨w.heap.size, 0, none⟩) 1 1] (w.alloc (.cells #[.int .u32 (a : Int)] 25)) fun e w' => e = .returned (.int .u64 (hN mark [(a : Int)] m : Int)) ∧ Below w.heap.size w w' := by
  have hB : Below w.heap.size w (w.alloc (.cells #[.int .u32 (a : Int)] 25)) := (Below.refl _ _).alloc (Nat.le_refl _) _
  obtain ⟨Tg, Tf, h1, h2⟩ := hgl.mono hB
  rw [← hN_eq]
  exact (hash_any (Tg := Tg) (Tf := Tf) mark [(a : Int)] m w.heap.size _ mv _ (hm.mono hB) hmb hml hmk (by simp) (all32_1 a ha) (heap_alloc_new w _) h1 h2).mono fun e w' ⟨he, hb⟩ => ⟨he, hB.trans (hb.mono (by simp))⟩
theorem hash2 (mark : Int) (hmk : 0 ≤ mark ∧ mark < 256) (a b : Nat) (ha : a < 4294967296) (hb : b < 4294967296) (mv : Value) (m : List Int) (w : World) (hm : RdB w mv m) (hmb : Bytes m) (hml : m.length ≤ 9991) (hgl : GlobW w) :
    Calls Tryz.prog 189 #[.int .u8 mark, mv, .slice (some ⟨w.heap.size, 0, none⟩) 2 2] (w.alloc (.cells #[.int .u32 (a : Int), .int .u32 (b : Int)] 25)) fun e w' => e = .returned (.int .u64 (hN mark [(a : Int), (b : Int)] m : Int)) ∧ Below w.heap.size w w' := by
  have hB : Below w.heap.size w (w.alloc (.cells #[.int .u32 (a : Int), .int .u32 (b : Int)] 25)) := (Below.refl _ _).alloc (Nat.le_refl _) _
  obtain ⟨Tg, Tf, h1, h2⟩ := hgl.mono hB
  rw [← hN_eq]
  exact (hash_any (Tg := Tg) (Tf := Tf) mark [(a : Int), (b : Int)] m w.heap.size _ mv _ (hm.mono hB) hmb hml hmk (by simp) (all32_2 a b ha hb) (heap_alloc_new w _) h1 h2).mono fun e w' ⟨he, hb⟩ => ⟨he, hB.trans (hb.mono (by simp))⟩
theorem ret_pair {a b c : Int} (h : a = b) : Ending.returned (.tuple #[.int .u32 a, .int .i64 c]) = .returned (.tuple #[.int .u32 b, .int .i64 c]) := by rw [h]
theorem check_ok (a : Nat) (h : 1 ≤ a ∧ a < 500000003) (w : World) : Calls Tryz.prog 148 #[.int .u32 (a : Int)] w fun e w' => e = .returned (.int .i64 0) ∧ w' = w := by
  have := check_any a w; rw [if_pos h] at this; exact this
theorem public_ok (a : Nat) (h : 1 ≤ a ∧ a < 500000003) (w : World) : Calls Tryz.prog 109 #[.int .u32 (a : Int)] w fun e w' => e = .returned (.tuple #[.int .u32 (grp.pw 4 a : Int), .int .i64 0]) ∧ Below w.heap.size w w' := by
  have hc := Lib.hid (check_ok a h); have hp := Lib.hid (grp.base_any a (by omega))
  have h0 : 1 ≤ a := h.1; have h1 : a < 4294967296 := by omega
  clear h
  go_enter Tryz.func109, Tryz.ntmps109
  go_wp2_with (first | (go_at_call 148; refine (hc.out _).mono ?_; rintro e w' ⟨rfl, rfl⟩) | (go_at_call 149; refine (hp.out _).mono ?_; rintro e w' ⟨rfl, g1⟩; have g1' := Lib.hid g1; clear g1))
  go_ret2
  exact ⟨rfl, g1'.out⟩
theorem nonce_ok (a : Nat) (h : 1 ≤ a ∧ a < 500000003) (mv : Value) (m : List Int) (w : World) (hm : RdB w mv m) (hmb : Bytes m) (hml : m.length ≤ 9991) (hgl : GlobW w) :
    Calls Tryz.prog 150 #[.int .u32 (a : Int), mv] w fun e w' => e = .returned (.tuple #[.int .u32 (nonceN a m : Int), .int .i64 0]) ∧ Below w.heap.size w w' := by
  obtain ⟨ma, mc, rfl⟩ := hm.slice
  have hc := Lib.hid (check_ok a h)
  have hl0 := tooLong_any ma m.length mc
  rw [decide_eq_false (by omega)] at hl0
  have hl := Lib.hid hl0
  have hh := Lib.hid (hash1 110 (by decide) a (by omega) _ m w hm hmb hml hgl)
  unfold nonceN
  clear h hl0 hm hmb hml hgl
  generalize hN 110 [(a : Int)] m = H at *
  generalize m.length = n at *
  go_enter Tryz.func150, Tryz.ntmps150
  go_wp2_with (first | (go_at_call 148; refine (hc.out _).mono ?_; rintro e w' ⟨rfl, rfl⟩) | (go_at_call 125; refine (hl.out _).mono ?_; rintro e w' ⟨rfl, rfl⟩) | (go_at_call 189; refine (hh.out).mono ?_; rintro e w' ⟨rfl, g1⟩; have g1' := Lib.hid g1; clear g1))
  go_ret2
  exact ⟨ret_pair (by omega), g1'.out⟩
theorem chal_ok (r y : Nat) (hr : r < 4294967296) (hy : y < 4294967296) (mv : Value) (m : List Int) (w : World) (hm : RdB w mv m) (hmb : Bytes m) (hml : m.length ≤ 9991) (hgl : GlobW w) :
    Calls Tryz.prog 151 #[.int .u32 (r : Int), .int .u32 (y : Int), mv] w fun e w' => e = .returned (.tuple #[.int .u32 (chalN r y m : Int), .int .i64 0]) ∧ Below w.heap.size w w' := by
  obtain ⟨ma, mc, rfl⟩ := hm.slice
  have hl0 := tooLong_any ma m.length mc
  rw [decide_eq_false (by omega)] at hl0
  have hl := Lib.hid hl0
  have hh := Lib.hid (hash2 99 (by decide) r y hr hy _ m w hm hmb hml hgl)
  unfold chalN
  clear hr hy hl0 hm hmb hml hgl
  generalize hN 99 [(r : Int), (y : Int)] m = H at *
  generalize m.length = n at *
  go_enter Tryz.func151, Tryz.ntmps151
  go_wp2_with (first | (go_at_call 125; refine (hl.out _).mono ?_; rintro e w' ⟨rfl, rfl⟩) | (go_at_call 189; refine (hh.out).mono ?_; rintro e w' ⟨rfl, g1⟩; have g1' := Lib.hid g1; clear g1))
  go_ret2
  exact ⟨ret_pair (by omega), g1'.out⟩
end Go.Proofs.YtlbgffhipondiaaGreatDoor
namespace Go.Proofs.YtlbgffhipondiaaGreatDoor
open Go.RowKit Go.YtlbgffhipondiaaGreatDoor
set_option linter.unusedVariables false
/-- The world 'wi' has what 'w' had, and a row of its own. -/
def Row1 (w wi : World) (cs : Array Value) (T : TypeId) : Prop := Below w.heap.size w wi ∧ wi.heap[w.heap.size]? = some (.cells cs T (0, 0))
theorem Row1.start (w : World) (cs : Array Value) (T : TypeId) : Row1 w (w.alloc (.cells cs T)) cs T := ⟨(Below.refl _ _).alloc (Nat.le_refl _) _, heap_alloc_new w _⟩
theorem Row1.step {w wi wj : World} {cs : Array Value} {T : TypeId} (h : Row1 w wi cs T) (hb : Below wi.heap.size wi wj) : Row1 w wj cs T :=
  ⟨h.1.trans (hb.mono h.1.size), (hb.block _ (Array.getElem?_eq_some_iff.1 h.2).1).trans h.2⟩
theorem Row1.set {w wi : World} {cs : Array Value} {T : TypeId} (h : Row1 w wi cs T) (ds : Array Value) : Row1 w (wi.setRow w.heap.size ds) ds T :=
  ⟨below_setRow' (g := w.heap.size) h.1 (Nat.le_refl _) _, setRow_heap _ _ _ _ _ _ h.2⟩
def eN (a : Nat) (m : List Int) : Nat := chalN (grp.pw 4 (nonceN a m)) (grp.pw 4 a) m
def sN (a : Nat) (m : List Int) : Nat := (nonceN a m + eN a m * a % 500000003) % 500000003
theorem nonceN_lt (a : Nat) (m : List Int) : 1 ≤ nonceN a m ∧ nonceN a m < 500000003 := by unfold nonceN; omega
theorem chalN_lt (r y : Nat) (m : List Int) : chalN r y m < 500000003 := Nat.mod_lt _ (by decide)
theorem pw_u32 (a n : Nat) : grp.pw a n < 4294967296 := grp.GP_u32 (grp.pw_lt a n)
theorem two_one (a b : Int) : (#[Value.int .u32 a, Value.int .u32 b] : Array Value).all (·.oneCell') = true := u32s_one [a, b]
theorem sig_info : (Tryz.prog.info? 33).map (·.size) = some 2 := by kernel_rfl
set_option maxHeartbeats 1000000 in
theorem sign_ok (a : Nat) (h : 1 ≤ a ∧ a < 500000003) (mv : Value) (m : List Int) (w : World) (hm : RdB w mv m) (hmb : Bytes m) (hml : m.length ≤ 9991) (hgl : GlobW w) :
    Calls Tryz.prog 111 #[.int .u32 (a : Int), mv] w fun e w' => e = .returned (.tuple #[.agg #[.int .u32 (eN a m : Int), .int .u32 (sN a m : Int)], .int .i64 0]) ∧ Below w.heap.size w w' := by
  obtain ⟨ma, mc, rfl⟩ := hm.slice
  unfold sN
  have hk := nonceN_lt a m
  have hN := Lib.hid (fun wi (o : Row1 w wi #[.int .u32 0, .int .u32 0] 33) => nonce_ok a h _ m wi (hm.mono o.1) hmb hml (hgl.mono o.1))
  have hC := Lib.hid (fun wi (o : Row1 w wi #[.int .u32 0, .int .u32 0] 33) => chal_ok (grp.pw 4 (nonceN a m)) (grp.pw 4 a) (pw_u32 _ _) (pw_u32 _ _) _ m wi (hm.mono o.1) hmb hml (hgl.mono o.1))
  have hE : chalN (grp.pw 4 (nonceN a m)) (grp.pw 4 a) m = eN a m := rfl
  rw [hE] at hC
  have he := chalN_lt (grp.pw 4 (nonceN a m)) (grp.pw 4 a) m
  rw [hE] at he
  clear hE
  generalize eN a m = E at *
  generalize nonceN a m = K at *
  have hK := Lib.hid (grp.base_any K (by omega)); have hA := Lib.hid (grp.base_any a (by omega))
  generalize grp.pw 4 K = R at *
  generalize grp.pw 4 a = Y at *
  have hT := Lib.hid (grp.times_ok E a he h.2)
  have hP := Lib.hid (grp.plus_ok K (E * a % 500000003) hk.2 (Nat.mod_lt _ (by decide)))
  generalize E * a % 500000003 = P at *
  generalize (K + P) % 500000003 = S at *
  have hR := Lib.hid (Row1.start w #[.int .u32 0, .int .u32 0] 33)
  generalize m.length = n at *
  have ha := h.1; have hk1 := hk.1; have hk2 := hk.2
  have ha2 := h.2
  clear hm hmb hgl h hk
  go_enter Tryz.func111, Tryz.ntmps111
  go_wp2_with (first | (go_at_call 150; refine (hN.out _ hR.out).mono ?_; rintro e w' ⟨rfl, g⟩; have hR := Lib.hid (hR.out.step g); clear g) | (go_at_call 149; (first | (with_reducible refine (hK.out _).mono ?_) | (with_reducible refine (hA.out _).mono ?_)); rintro e w' ⟨rfl, g⟩; have hR := Lib.hid (hR.out.step g); clear g) | (go_at_call 151; refine (hC.out _ hR.out).mono ?_; rintro e w' ⟨rfl, g⟩; have hR := Lib.hid (hR.out.step g); clear g) | (go_at_call 152; refine (hT.out _).mono ?_; rintro e w' ⟨rfl, g⟩; have hR := Lib.hid (hR.out.step g); clear g) | (go_at_call 153; refine (hP.out _).mono ?_; rintro e w' ⟨rfl, g⟩; have hR := Lib.hid (hR.out.step g); clear g) | (refine wpList_store_row rfl 33 _ _ rfl w.heap.size #[.int .u32 (E : Int), .int .u32 (S : Int)] rfl rfl 33 _ hR.out.2 sig_info rfl (two_one _ _) ?_; have hR := Lib.hid (hR.out.set #[.int .u32 (E : Int), .int .u32 (S : Int)])))
  try simp only [Exit.inBlock, Exit.then]
  exact bodyPost_ret (results_row_tmp rfl _ _ w.heap.size 33 _ _ _ rfl hR.out.2 Tryz.underlying33 rfl sig_info) rfl ⟨rfl, hR.out.1⟩
end Go.Proofs.YtlbgffhipondiaaGreatDoor
namespace Go.Proofs.YtlbgffhipondiaaGreatDoor
open Go.RowKit Go.YtlbgffhipondiaaGreatDoor
set_option linter.unusedVariables false
/-- The number that S and E give for a public key. -/
def rN (y S E : Nat) : Nat := grp.pw 4 S * grp.pw (grp.pw y E) 500000002 % grp.GP
def rightB (y : Nat) (m : List Int) (S E : Nat) : Bool := decide (E < 500000003) && (decide (S < 500000003) && decide (chalN (rN y S E) y m = E))
theorem dec_eq (a b : Nat) : ((a : Int) == (b : Int)) = decide (a = b) := by
  rw [Bool.eq_iff_iff, beq_iff_eq, decide_eq_true_iff]; omega
theorem dec_eq' (a b : Nat) : decide ((a : Int) = (b : Int)) = decide (a = b) := decide_eq_decide.2 (by omega)
set_option maxHeartbeats 1000000 in
theorem right_any (y : Nat) (hy : grp.inG y = true) (S E : Nat) (hS : S < 4294967296) (hE : E < 4294967296) (mv : Value) (m : List Int) (w : World) (hm : RdB w mv m) (hmb : Bytes m) (hml : m.length ≤ 9991) (hgl : GlobW w) :
    Calls Tryz.prog 126 #[.int .u32 (y : Int), mv, .agg #[.int .u32 (E : Int), .int .u32 (S : Int)]] w fun e w' => e = .returned (.bool (rightB y m S E)) ∧ Below w.heap.size w w' := by
  by_cases h1 : E < 500000003
  · by_cases h2 : S < 500000003
    · have hr : rightB y m S E = decide (chalN (rN y S E) y m = E) := by simp [rightB, h1, h2]
      rw [hr]
      obtain ⟨ma, mc, rfl⟩ := hm.slice
      have hPo := Lib.hid (grp.pow_ok y E hy (by omega))
      have gP := grp.inG_pw y E hy
      have hC := Lib.hid (fun wi (o : Row1 w wi #[.int .u32 (E : Int), .int .u32 (S : Int)] 33) => chal_ok (rN y S E) y (grp.GP_u32 (Nat.mod_lt _ grp.GP_pos)) (grp.inG_u32 hy) _ m wi (hm.mono o.1) hmb hml (hgl.mono o.1))
      unfold rN at hC ⊢
      generalize grp.pw y E = P at *
      have hIn := Lib.hid (grp.inv_ok P gP)
      have gI := grp.inG_pw P 500000002 gP
      generalize grp.pw P 500000002 = I at *
      have hBa := Lib.hid (grp.base_any S (by omega))
      have gB := grp.inG_pw 4 S grp.in4
      generalize grp.pw 4 S = B at *
      have hMu := Lib.hid (grp.mul_ok B I gB gI)
      generalize B * I % grp.GP = R at *
      generalize chalN R y m = C at *
      have hR := Lib.hid (Row1.start w #[.int .u32 (E : Int), .int .u32 (S : Int)] 33)
      have hc0 : ∀ wi, Row1 w wi #[.int .u32 (E : Int), .int .u32 (S : Int)] 33 → wi.cell? ⟨w.heap.size, 0, none⟩ = some (.int .u32 (E : Int)) ∧ wi.cell? ⟨w.heap.size, 1, none⟩ = some (.int .u32 (S : Int)) := fun wi o => ⟨cell_of_row _ _ _ _ _ _ o.2, cell_of_row _ _ _ _ _ _ o.2⟩
      have hc := Lib.hid hc0
      have d1 : ¬ (500000003 : Int) ≤ (E : Int) := by omega
      have d2 : ¬ (500000003 : Int) ≤ (S : Int) := by omega
      generalize m.length = n at *
      clear hm hmb hgl hy gP gI gB hr hc0
      go_enter Tryz.func126, Tryz.ntmps126
      generalize hq : (500000003 : Int) = q at d1 d2 ⊢
      clear hq
      go_wp2_with (first | (go_at_call 167; refine (hPo.out _).mono ?_; rintro e w' ⟨rfl, g⟩; have hR := Lib.hid (hR.out.step g); clear g; obtain ⟨k0, k1⟩ := hc.out _ hR.out) | (go_at_call 168; refine (hIn.out _).mono ?_; rintro e w' ⟨rfl, g⟩; have hR := Lib.hid (hR.out.step g); clear g; obtain ⟨k0, k1⟩ := hc.out _ hR.out) | (go_at_call 149; refine (hBa.out _).mono ?_; rintro e w' ⟨rfl, g⟩; have hR := Lib.hid (hR.out.step g); clear g; obtain ⟨k0, k1⟩ := hc.out _ hR.out) | (go_at_call 169; refine (hMu.out _).mono ?_; rintro e w' ⟨rfl, g⟩; have hR := Lib.hid (hR.out.step g); clear g; obtain ⟨k0, k1⟩ := hc.out _ hR.out) | (go_at_call 151; refine (hC.out _ hR.out).mono ?_; rintro e w' ⟨rfl, g⟩; have hR := Lib.hid (hR.out.step g); clear g; obtain ⟨k0, k1⟩ := hc.out _ hR.out))
      go_ret
      first | exact ⟨ret_bool (dec_eq C E), hR.out.1⟩ | exact ⟨ret_bool (dec_eq' C E), hR.out.1⟩
    · have hr : rightB y m S E = false := by simp [rightB, h2]
      rw [hr]
      obtain ⟨ma, mc, rfl⟩ := hm.slice
      have hR := Lib.hid (Row1.start w #[.int .u32 (E : Int), .int .u32 (S : Int)] 33)
      have d1 : ¬ (500000003 : Int) ≤ (E : Int) := by omega
      have d2 : (500000003 : Int) ≤ (S : Int) := by omega
      clear hm hmb hgl hy hr
      go_enter Tryz.func126, Tryz.ntmps126
      generalize hq : (500000003 : Int) = q at d1 d2 ⊢
      clear hq
      go_wp2
      go_ret
      exact ⟨rfl, hR.out.1⟩
  · have hr : rightB y m S E = false := by simp [rightB, h1]
    rw [hr]
    obtain ⟨ma, mc, rfl⟩ := hm.slice
    have hR := Lib.hid (Row1.start w #[.int .u32 (E : Int), .int .u32 (S : Int)] 33)
    have d1 : (500000003 : Int) ≤ (E : Int) := by omega
    clear hm hmb hgl hy hr
    go_enter Tryz.func126, Tryz.ntmps126
    generalize hq : (500000003 : Int) = q at d1 ⊢
    clear hq
    go_wp2
    go_ret
    exact ⟨rfl, hR.out.1⟩
theorem verify_any (y : Nat) (hy : grp.inG y = true) (S E : Nat) (hS : S < 4294967296) (hE : E < 4294967296) (mv : Value) (m : List Int) (w : World) (hm : RdB w mv m) (hmb : Bytes m) (hml : m.length ≤ 9991) (hgl : GlobW w) :
    Calls Tryz.prog 81 #[.int .u32 (y : Int), mv, .agg #[.int .u32 (E : Int), .int .u32 (S : Int)]] w fun e w' => e = .returned (.int .i64 (if rightB y m S E then 0 else 22)) ∧ Below w.heap.size w w' := by
  have hI0 := grp.is_any y (grp.inG_u32 hy)
  rw [hy] at hI0
  have hI := Lib.hid hI0
  obtain ⟨ma, mc, rfl⟩ := hm.slice
  have hl0 := tooLong_any ma m.length mc
  rw [decide_eq_false (by omega)] at hl0
  have hl := Lib.hid hl0
  have hR := Lib.hid (Row1.start w #[.int .u32 (E : Int), .int .u32 (S : Int)] 33)
  have hV := Lib.hid (fun wi (o : Row1 w wi #[.int .u32 (E : Int), .int .u32 (S : Int)] 33) => right_any y hy S E hS hE _ m wi (hm.mono o.1) hmb hml (hgl.mono o.1))
  generalize rightB y m S E = b at *
  generalize m.length = n at *
  clear hI0 hy hl0 hm hmb hgl hS hE
  cases b
  · go_enter Tryz.func81, Tryz.ntmps81
    go_wp2_with (first | (go_at_call 122; refine (hI.out _).mono ?_; rintro e w' ⟨rfl, g⟩; have hR := Lib.hid (hR.out.step g); clear g) | (go_at_call 125; refine (hl.out _).mono ?_; rintro e w' ⟨rfl, rfl⟩) | (refine wpList_load_row rfl 33 _ rfl w.heap.size rfl 33 _ (0, 0) _ hR.out.2 Tryz.underlying33 rfl sig_info ?_) | (go_at_call 126; refine (hV.out _ hR.out).mono ?_; rintro e w' ⟨rfl, g⟩; have hR := Lib.hid (hR.out.step g); clear g))
    go_ret
    exact ⟨rfl, hR.out.1⟩
  · go_enter Tryz.func81, Tryz.ntmps81
    go_wp2_with (first | (go_at_call 122; refine (hI.out _).mono ?_; rintro e w' ⟨rfl, g⟩; have hR := Lib.hid (hR.out.step g); clear g) | (go_at_call 125; refine (hl.out _).mono ?_; rintro e w' ⟨rfl, rfl⟩) | (refine wpList_load_row rfl 33 _ rfl w.heap.size rfl 33 _ (0, 0) _ hR.out.2 Tryz.underlying33 rfl sig_info ?_) | (go_at_call 126; refine (hV.out _ hR.out).mono ?_; rintro e w' ⟨rfl, g⟩; have hR := Lib.hid (hR.out.step g); clear g))
    go_ret
    exact ⟨rfl, hR.out.1⟩
end Go.Proofs.YtlbgffhipondiaaGreatDoor

/- Contract of the reference's Ground. -/
import Derived.Test.YtddelpjlcmaomaaDoorD01t
import Derived.Test.YtddelpjlcmaomaaDoorLibE
import Derived.Test.YtddelpjlcmaomaaDoorLibB
import Derived.Test.YtddelpjlcmaomaaDoorD01n
import Derived.Deep.RegionHeld3
import Derived.Deep.DeepCutAuto
namespace Go.Proofs.YtddelpjlcmaomaaDoor
open Go.RowKit Go.YtddelpjlcmaomaaDoor
set_option linter.unusedVariables false
theorem rdW_new (w : World) (g : Nat) (x : Int) (T : TypeId) (h : w.heap[g]? = some (.cells #[.int .u32 x] T (0, 0))) : RdW w (.slice (some ⟨g, 0, none⟩) 1 1) [x] := .inr ⟨g, 0, 1, rfl, Nat.le_refl _, by decide, (Array.getElem?_eq_some_iff.1 h).1, fun i hi => by
  have hi0 : i = 0 := by simpa using hi
  subst hi0
  rw [Nat.zero_add, cell_of_row _ _ _ _ _ _ h]; rfl⟩
theorem below_lit (w : World) (o : Obj) : Below w.heap.size w (w.alloc o).drew := ((Draws.refl _).drewN 1).below ((Below.refl _ _).alloc (Nat.le_refl _) o)
theorem below_push (w w' : World) (o : Obj) (h1 : w'.os = w.os) (h2 : w'.tape = w.tape) (h3 : w'.output = w.output) (h4 : w'.heap = w.heap.push o) : Below w.heap.size w w' :=
  have h := (Below.refl w.heap.size w).alloc (Nat.le_refl _) o
  have e : (w.alloc o).heap = w'.heap := by rw [h4]; rfl
  ⟨h1.trans rfl, h2.trans rfl, h3.trans rfl, by rw [← e]; exact h.size, fun k hk => by rw [← e]; exact h.block k hk⟩
theorem push_new (w w' : World) (o : Obj) (h4 : w'.heap = w.heap.push o) : w'.heap[w.heap.size]? = some o := by rw [h4]; simp
theorem rturn_int (x n : Int) (w : World) (hx : In32 x) (h : 1 ≤ n) (h2 : n ≤ 31) :
    Calls Tryd.prog 122 #[.int .u32 x, .int .i64 n] w fun e w' => e = .returned (.int .u32 (rotr x n)) ∧ ∃ m, w' = w.drewN m := by
  obtain ⟨n, rfl⟩ := Int.eq_ofNat_of_zero_le (show 0 ≤ n by omega)
  exact rturn_any x n w hx.1 hx.2 (by omega) (by omega)
def nextV (a0 a9 a1 a14 : Int) : Int := (((a0 + a9) % 4294967296 + sig0 a1) % 4294967296 + sig1 a14) % 4294967296
theorem nextW_at (x : List Int) (k : Nat) (h : x.length = k + 16) : nextW x = nextV (ith x k) (ith x (k + 9)) (ith x (k + 1)) (ith x (k + 14)) := by
  have e : nextV (ith x k) (ith x (k + 9)) (ith x (k + 1)) (ith x (k + 14)) = (ith x k + ith x (k + 9) + sig0 (ith x (k + 1)) + sig1 (ith x (k + 14))) % 4294967296 := by unfold nextV; omega
  rw [e]; unfold nextW
  rw [h, show k + 16 - 16 = k by omega, show k + 16 - 7 = k + 9 by omega, show k + 16 - 15 = k + 1 by omega, show k + 16 - 2 = k + 14 by omega]
set_option maxRecDepth 100000 in
set_option maxHeartbeats 0 in
theorem rground_any (v : V8) (b o n c : Nat) (l : List Int) (w : World) (hv : v.ok) (hn : 64 ≤ n) (hnc : n ≤ c) (hcm : c ≤ maxLen) (hl : Bytes l)
    (hcell : ∀ i, i < 64 → w.cell? ⟨b, o + i, none⟩ = some (.int .u8 (ith l i))) :
    Calls Tryd.prog 106 #[.agg v.cells, .slice (some ⟨b, o, none⟩) n c] w fun e w' => e = .returned (.agg (groundF v l).cells) ∧ Below w.heap.size w w' := by
  have hbl : b < w.heap.size := World.block_lt_of_cell? _ _ (hcell 0 (by omega))
  unfold maxLen at hcm
  have hcell' := Lib.hid hcell; clear hcell
  have hl' := Lib.hid hl; clear hl
  unfold V8.cells
  go_enter Tryd.func106, Tryd.ntmps106
  go_wp2
  have k1 := Lib.hid ((hp1 (w.alloc (.cells (u32s v.list) 70)) (.cells (u32s [0, 0, 0, 0, 0, 0, 0, 0]) 70) w.heap.size (by simp)).trans (heap_alloc_new w _))
  have k2 := Lib.hid (hn2 w (.cells (u32s v.list) 70) (.cells (u32s [0, 0, 0, 0, 0, 0, 0, 0]) 70))
  have kB := Lib.hid (show Below w.heap.size w ((w.alloc (.cells (u32s v.list) 70)).alloc (.cells (u32s [0, 0, 0, 0, 0, 0, 0, 0]) 70)) from ((Below.refl _ _).alloc (Nat.le_refl _) _).alloc (by simp) _)
  have kz : ((w.alloc (.cells (u32s v.list) 70)).alloc (.cells (u32s [0, 0, 0, 0, 0, 0, 0, 0]) 70)).heap.size = w.heap.size + 2 := by simp
  change Code.wp _ _ _ _ ((w.alloc (.cells (u32s v.list) 70)).alloc (.cells (u32s [0, 0, 0, 0, 0, 0, 0, 0]) 70))
  generalize (w.alloc (.cells (u32s v.list) 70)).alloc (.cells (u32s [0, 0, 0, 0, 0, 0, 0, 0]) 70) = W at *
  go_loopw [5, 6] (fun s i wr => ∃ k : Nat, k ≤ 16 ∧ i = .int .i64 (k : Int) ∧ OwnW W.heap.size 22 wr s (wordsOf l k) ∧ Below W.heap.size W wr) (fun _ i _ => 16 - (intOf i).toNat)
  case atStart => exact ⟨0, by omega, rfl, OwnW.nil _ _ _, Below.refl _ _⟩
  case round =>
    obtain ⟨k, hk, rfl, ho, hb⟩ := hrel
    obtain ⟨sa, sc, rfl⟩ := ho.rd.slice
    have hlen := wordsOf_length l k
    by_cases hlt : k < 16
    · have hq : ∀ j, j < 4 → wr.cell? ⟨b, o + (4 * k + j), none⟩ = some (.int .u8 (ith l (4 * k + j))) := fun j hj => by
        rw [hb.cell (p := ⟨b, o + (4 * k + j), none⟩) (by rw [kz]; exact Nat.lt_of_lt_of_le hbl (by omega)), kB.out.cell (p := ⟨b, o + (4 * k + j), none⟩) hbl]; exact hcell'.out _ (by omega)
      have q0 := hq 0 (by omega); have q1 := hq 1 (by omega); have q2 := hq 2 (by omega); have q3 := hq 3 (by omega)
      rw [Nat.add_zero] at q0
      obtain ⟨a0, a1⟩ := hl'.out (4 * k); obtain ⟨b0, b1⟩ := hl'.out (4 * k + 1); obtain ⟨c0, c1⟩ := hl'.out (4 * k + 2); obtain ⟨d0, d1⟩ := hl'.out (4 * k + 3)
      have hws : wordsOf l (k + 1) = wordsOf l k ++ [word4 (ith l (4 * k)) (ith l (4 * k + 1)) (ith l (4 * k + 2)) (ith l (4 * k + 3))] := rfl
      have ho' := Lib.hid ho; have hb' := Lib.hid hb; have hzw := hb.size; have hws' := Lib.hid hws
      clear ho hb hq hws
      have m3 : 4 * k + 3 < 64 := by omega
      have x0 : IntKind.i64.wrap (4 * (k : Int)) = ((4 * k : Nat) : Int) := by rw [IntWalk.i64_in _ (by omega)]; omega
      generalize 4 * k = m at *
      have x1 : IntKind.i64.wrap ((m : Int) + 1) = (m : Int) + 1 := IntWalk.i64_in _ (by omega)
      have x2 : IntKind.i64.wrap ((m : Int) + 2) = (m : Int) + 2 := IntWalk.i64_in _ (by omega)
      have x3 : IntKind.i64.wrap ((m : Int) + 3) = (m : Int) + 3 := IntWalk.i64_in _ (by omega)
      have y0 : (m : Int) < n := by omega
      have y1 : (m : Int) + 1 < n := by omega
      have y2 : (m : Int) + 2 < n := by omega
      have y3 : (m : Int) + 3 < n := by omega
      have z1 : 0 ≤ (m : Int) + 1 := by omega
      have z2 : 0 ≤ (m : Int) + 2 := by omega
      have z3 : 0 ≤ (m : Int) + 3 := by omega
      have t1 : ((m : Int) + 1).toNat = m + 1 := by omega
      have t2 : ((m : Int) + 2).toNat = m + 2 := by omega
      have t3 : ((m : Int) + 3).toNat = m + 3 := by omega
      have e0 : IntKind.u32.wrap (ith l m) = ith l m := IntWalk.u32_in _ (by omega)
      have e1 : IntKind.u32.wrap (ith l (m + 1)) = ith l (m + 1) := IntWalk.u32_in _ (by omega)
      have e2 : IntKind.u32.wrap (ith l (m + 2)) = ith l (m + 2) := IntWalk.u32_in _ (by omega)
      have e3 : IntKind.u32.wrap (ith l (m + 3)) = ith l (m + 3) := IntWalk.u32_in _ (by omega)
      have e4 : IntKind.u32.wrap (ith l m * 256) = ith l m * 256 := IntWalk.u32_in _ (by omega)
      have e5 : IntKind.u32.wrap (ith l m * 256 + ith l (m + 1)) = ith l m * 256 + ith l (m + 1) := IntWalk.u32_in _ (by omega)
      have e6 : IntKind.u32.wrap ((ith l m * 256 + ith l (m + 1)) * 256) = (ith l m * 256 + ith l (m + 1)) * 256 := IntWalk.u32_in _ (by omega)
      have e7 : IntKind.u32.wrap ((ith l m * 256 + ith l (m + 1)) * 256 + ith l (m + 2)) = (ith l m * 256 + ith l (m + 1)) * 256 + ith l (m + 2) := IntWalk.u32_in _ (by omega)
      have e8 : IntKind.u32.wrap (((ith l m * 256 + ith l (m + 1)) * 256 + ith l (m + 2)) * 256) = ((ith l m * 256 + ith l (m + 1)) * 256 + ith l (m + 2)) * 256 := IntWalk.u32_in _ (by omega)
      have e9 : IntKind.u32.wrap (((ith l m * 256 + ith l (m + 1)) * 256 + ith l (m + 2)) * 256 + ith l (m + 3)) = word4 (ith l m) (ith l (m + 1)) (ith l (m + 2)) (ith l (m + 3)) := by
        rw [IntWalk.u32_in _ (by omega)]; unfold word4; omega
      have hlen' := Lib.hid hlen
      rw [hlen] at ho' ⊢
      generalize word4 (ith l m) (ith l (m + 1)) (ith l (m + 2)) (ith l (m + 3)) = X at *
      clear a0 a1 b0 b1 c0 c1 d0 d1 hlen
      have fin : Hid (∀ v' w', OwnW W.heap.size 22 w' v' (wordsOf l k ++ [X]) → ((wr.alloc (.cells #[.int .u32 X] 22)).drew).grownBy w' (Value.slice sa k sc).ownBlock → ∃ va vc, v' = .slice va (k + 1) vc ∧ OwnW W.heap.size 22 w' v' (wordsOf l (k + 1)) ∧ Below W.heap.size W w') := Lib.hid (by
        intro v' w' h1 h2
        rw [← hws'.out] at h1
        obtain ⟨va, vc, hv'⟩ := h1.rd.slice
        rw [wordsOf_length] at hv'
        exact ⟨va, vc, hv', h1, hb'.out.trans (((below_lit wr _).mono hzw).trans ((ho'.out.kept (below_lit wr _)).below h2 (by simp; omega)))⟩)
      go_wp2
      have kk : Hid (∀ w', Below W.heap.size W w' → w'.cell? ⟨b, o + m, none⟩ = some (.int .u8 (ith l m)) ∧ w'.cell? ⟨b, o + (m + 1), none⟩ = some (.int .u8 (ith l (m + 1))) ∧ w'.cell? ⟨b, o + (m + 2), none⟩ = some (.int .u8 (ith l (m + 2))) ∧ w'.cell? ⟨b, o + (m + 3), none⟩ = some (.int .u8 (ith l (m + 3)))) := Lib.hid (fun w' h => by
        refine ⟨?_, ?_, ?_, ?_⟩ <;> (rw [h.cell (p := ⟨b, _, none⟩) (show b < _ by rw [kz]; omega), ← hb'.out.cell (p := ⟨b, _, none⟩) (show b < _ by rw [kz]; omega)]; assumption))
      go_region_held3 (fun w' => w'.cell? ⟨b, o + m, none⟩ = some (.int .u8 (ith l m)) ∧ w'.cell? ⟨b, o + (m + 1), none⟩ = some (.int .u8 (ith l (m + 1))) ∧ w'.cell? ⟨b, o + (m + 2), none⟩ = some (.int .u8 (ith l (m + 2))) ∧ w'.cell? ⟨b, o + (m + 3), none⟩ = some (.int .u8 (ith l (m + 3))))
        (first | (exact kk.out _ h4'.out) | go_keep)
        ((refine step_appendW (by rfl) _ _ 147 (by rfl) W.heap.size 22 Tryd.underlying147 (by kernel_rfl) (.slice sa k sc) (by rfl) (wordsOf l k) (ho'.out.kept (below_lit wr (.cells #[.int .u32 X] 22))) (.slice (some ⟨wr.heap.size, 0, none⟩) 1 1) (by rfl) [X] (rdW_new _ _ _ _ (heap_alloc_new wr _)) (by rw [hlen'.out]; simp; omega) (by simp; omega) ?_; intro v' w' h1 h2; obtain ⟨va, vc, rfl, h3, h4⟩ := fin.out v' w' h1 h2; have h3' := Lib.hid h3; have h4' := Lib.hid h4; clear h1 h2 h3 h4))
      go_wp2
      go_roundw
      case rel => exact ⟨k + 1, by omega, by go_num, h3'.out, h4'.out⟩
      case measure => simp [intOf]; omega
    · obtain rfl : k = 16 := by omega
      generalize hL : wordsOf l 16 = L0 at *
      have hL32 := Lib.hid (show All32 L0 by rw [← hL]; exact wordsOf_in l hl'.out 16)
      have hLl := Lib.hid hlen
      rw [hlen]
      have hL' := Lib.hid hL
      clear hL hlen
      rw [show (((16 : Nat) : Int)) = 16 from rfl]
      rw [hLl.out] at ho
      go_wp2
      go_loopw [5, 7, 8, 9] (fun s i _ _ wr => ∃ k : Nat, k ≤ 48 ∧ i = .int .i64 (k + 16 : Nat) ∧ OwnW W.heap.size 22 wr s (extW L0 k) ∧ Below W.heap.size W wr) (fun _ i _ _ _ => 64 - (intOf i).toNat)
      case atStart => exact ⟨0, by omega, rfl, ho, hb⟩
      case round =>
        clear ho hb
        obtain ⟨k, hk, rfl, ho, hb⟩ := hrel
        have hxl : (extW L0 k).length = k + 16 := by rw [extW_length, hLl.out]; omega
        have hx32 : All32 (extW L0 k) := extW_in L0 hL32.out k
        have hxs : extW L0 (k + 1) = extW L0 k ++ [nextW (extW L0 k)] := rfl
        rw [nextW_at _ _ hxl] at hxs
        rcases ho.rd with ⟨qa, qc, rfl, _, h0⟩ | ⟨b', o', c', rfl, hc1, hc2, hb', hcl⟩
        · rw [h0] at hxl; simp at hxl
        by_cases hlt : k < 48
        · have c0 := hcl k (by omega); have c1 := hcl (k + 1) (by omega); have c9 := hcl (k + 9) (by omega); have c14 := hcl (k + 14) (by omega)
          have A1 := Lib.hid (hx32 (k + 1)); have A14 := Lib.hid (hx32 (k + 14))
          have hxs' := Lib.hid hxs; have ho' := Lib.hid ho; have hb1 := Lib.hid hb; have hxl' := Lib.hid hxl
          have hzw := hb.size
          rw [hxl] at ho' ⊢
          clear hxs ho hb hxl hcl hx32
          generalize ith (extW L0 k) k = a0 at *
          generalize ith (extW L0 k) (k + 1) = a1 at *
          generalize ith (extW L0 k) (k + 9) = a9 at *
          generalize ith (extW L0 k) (k + 14) = a14 at *
          generalize hy : extW L0 (k + 1) = y at *
          have hy' := Lib.hid hy; clear hy
          generalize extW L0 k = x at *
          unfold maxLen at hc2
          go_wp2
          go_quiet (fail)
          go_wp2
          generalize ht : k + 16 = t at *
          generalize h9 : k + 9 = k9 at *
          have e1 : IntKind.i64.wrap ((t : Int) - 16) = (k : Int) := by rw [IntWalk.i64_in _ (by omega)]; omega
          have e2 : IntKind.i64.wrap ((t : Int) - 7) = (k9 : Int) := by rw [IntWalk.i64_in _ (by omega)]; omega
          have b1 : (k : Int) < (t : Int) := by omega
          have b2 : (k9 : Int) < (t : Int) := by omega
          have b5 : t < 64 := by omega
          have b3 : (0 : Int) ≤ (k : Int) := by omega
          have b4 : (0 : Int) ≤ (k9 : Int) := by omega
          have ht' := Lib.hid ht; have h9' := Lib.hid h9
          clear ht h9
          have r1 : Hid (∀ (n : Int) (w : World), 1 ≤ n → n ≤ 31 → Calls Tryd.prog 122 #[.int .u32 a1, .int .i64 n] w fun e w' => e = .returned (.int .u32 (rotr a1 n)) ∧ ∃ m, w' = w.drewN m) := Lib.hid (fun n w h h2 => rturn_int a1 n w A1.out h h2)
          have r14 : Hid (∀ (n : Int) (w : World), 1 ≤ n → n ≤ 31 → Calls Tryd.prog 122 #[.int .u32 a14, .int .i64 n] w fun e w' => e = .returned (.int .u32 (rotr a14 n)) ∧ ∃ m, w' = w.drewN m) := Lib.hid (fun n w h h2 => rturn_int a14 n w A14.out h h2)
          have fin : Hid (∀ v' w0 w', Below wr.heap.size wr w0 → OwnW W.heap.size 22 w' v' (x ++ [nextV a0 a9 a1 a14]) → w0.grownBy w' (Value.slice (some ⟨b', o', none⟩) t c').ownBlock → ∃ va vc, v' = .slice va (t + 1) vc ∧ OwnW W.heap.size 22 w' v' y ∧ Below W.heap.size W w') := Lib.hid (by
            intro v' w0 w' h0 h1 h2
            obtain ⟨va, vc, hv'⟩ := h1.rd.slice
            rw [List.length_append, hxl'.out] at hv'
            exact ⟨va, vc, hv', by rw [hxs'.out]; exact h1, hb1.out.trans ((h0.mono hzw).trans ((ho'.out.kept h0).below h2 (Nat.le_trans hzw h0.size)))⟩)
          refine wp_region_headN (C := fun w' => ∃ n, w' = wr.drewN n) 30 [0] (by kernel_rfl) (by kernel_rfl) ⟨_, drewN_next _ _⟩ ?_
          simp only [List.take_succ_cons, List.take_zero, List.drop_succ_cons, List.drop_zero]
          refine head_pure (.slice (some ⟨b', o', none⟩) t c') (by rfl) (run_move _ rfl (by rfl)) rfl (fun K hK => ?_); go_simp; refine hK _ ?_; clear hK K
          repeat (refine head_walk (by rfl) (fun K hK => ?_); go_simp; first | (refine hK _ ?_; clear hK K) | (apply Exists.intro; refine ⟨fun _ => ?_, hK _ ?_⟩; (go_at_call 122; first | ((with_reducible refine Calls.quiet_of (r1.out _ _ ?_ ?_)) <;> decide) | ((with_reducible refine Calls.quiet_of (r14.out _ _ ?_ ?_)) <;> decide)); clear hK K))
          refine head_nil ?_
          intro w' hw'
          obtain ⟨nz, rfl⟩ := hw'
          have hbz := Lib.hid (show Below wr.heap.size wr ((wr.drewN nz).alloc (.cells #[.int .u32 (nextV a0 a9 a1 a14)] 22)) from (((Draws.refl _).drewN nz).below (Below.refl _ _)).alloc (by simp) _)
          have hrdz := Lib.hid (show RdW ((wr.drewN nz).alloc (.cells #[.int .u32 (nextV a0 a9 a1 a14)] 22)) (.slice (some ⟨wr.heap.size, 0, none⟩) 1 1) [nextV a0 a9 a1 a14] from rdW_new _ _ _ _ (heap_alloc_new (wr.drewN nz) _))
          go_wp2_with (go_loud (refine appendW rfl _ _ 147 rfl W.heap.size 22 Tryd.underlying147 (by kernel_rfl) (.slice (some ⟨b', o', none⟩) t c') (by rfl) x (ho'.out.kept hbz.out) (.slice (some ⟨wr.heap.size, 0, none⟩) 1 1) (by rfl) [nextV a0 a9 a1 a14] hrdz.out (by rw [hxl'.out]; simp; omega) (Nat.le_trans hzw hbz.out.size) ?_))
          intro v' w' h1 h2
          rw [← kz] at h1
          have h2 := show ((wr.drewN nz).alloc (.cells #[.int .u32 ((a0 + a9 + sig0 a1 + sig1 a14) % 4294967296)] 22)).grownBy w' (Value.slice (some ⟨b', o', none⟩) t c').ownBlock from h2
          rw [show (a0 + a9 + sig0 a1 + sig1 a14) % 4294967296 = nextV a0 a9 a1 a14 by unfold nextV; omega] at h2
          obtain ⟨va, vc, rfl, h3, h4⟩ := fin.out v' _ w' hbz.out h1 h2
          have h3' := Lib.hid h3; have h4' := Lib.hid h4
          clear h1 h2 h3 h4
          refine Stop.go ?_
          go_wp2
          refine NoPanic.normal ?_
          go_wp2
          go_roundw
          case rel => exact ⟨k + 1, by omega, by rw [show k + 1 + 16 = t + 1 by have := ht'.out; omega]; go_num, by rw [hy'.out]; exact h3'.out, h4'.out⟩
          case measure => have := ht'.out; simp [intOf]; omega
        · have hk48 : k = 48 := by omega
          subst hk48
          have hws : extW L0 48 = spreadF l := by rw [← hL'.out]; rfl
          rw [hws] at hcl hxl hxs ho ⊢
          have hsl := spreadF_length l
          have hs32 := Lib.hid (spreadF_in l hl'.out)
          rw [hws, hsl] at hc1
          rw [hsl] at hcl ⊢
          have hG : groundF v l = v.add (rounds constW (spreadF l) v 64) := rfl
          have hG' := Lib.hid hG
          generalize spreadF l = ws at *
          have hcl' := Lib.hid hcl; have hsl' := Lib.hid hsl; have hb1 := Lib.hid hb; have hL1 := Lib.hid hL'
          have hzw := hb.size
          clear hcl hsl hG ho hb hxl hxs hx32 hws hL'
          rw [show (((48 + 16 : Nat) : Int)) = 64 from rfl]
          have q1 := Lib.hid ((hb1.out.block w.heap.size (by omega)).trans k1.out)
          have q2 := Lib.hid ((hb1.out.block (w.heap.size + 1) (by omega)).trans k2.out)
          have hBw := Lib.hid (kB.out.trans (hb1.out.mono (by omega)))
          have hzr : w.heap.size + 1 < wr.heap.size := by omega
          clear hb1 kB k1 k2 kz
          go_wp2_with (go_at_call 123; refine (rconst_any _).mono ?_; rintro e w1 ⟨rfl, rfl⟩; refine Stop.go'' _ ?_)
          refine StopP.go ?_
          have hc64 : constW.length = 64 := by rfl
          have r1 := Lib.hid ((hp1 wr (.cells (u32s constW) 22) w.heap.size (by omega)).trans q1.out)
          have r2 := Lib.hid ((hp1 wr (.cells (u32s constW) 22) (w.heap.size + 1) (by omega)).trans q2.out)
          have r3 := Lib.hid (heap_alloc_new wr (.cells (u32s constW) 22))
          have hBx := Lib.hid (hBw.out.alloc (by omega) (.cells (u32s constW) 22))
          have hclx := Lib.hid (fun i hi => ((Below.refl wr.heap.size wr).alloc (Nat.le_refl _) (.cells (u32s constW) 22)).cell (p := ⟨b', o' + i, none⟩) hb' |>.trans (hcl'.out i hi))
          have hzx : (wr.alloc (.cells (u32s constW) 22)).heap.size = wr.heap.size + 1 := by simp
          generalize wr.alloc (.cells (u32s constW) 22) = wx at *
          generalize hgC : wr.heap.size = gC at *
          have hgC' := Lib.hid hgC
          have hzx' := Lib.hid hzx
          have hzx2 : gC < wx.heap.size := by omega
          clear q1 q2 hBw hcl' hgC hzx
          go_wp2_with (first | (refine wpList_load_row rfl 70 _ rfl w.heap.size rfl 70 _ _ _ r1.out Tryd.underlying70 rfl (by kernel_rfl) ?_) | (refine storeNew wx rfl 70 _ _ rfl (u32s v.list) 70 rfl rfl (by kernel_rfl) (by simp [u32s, V8.list]) (u32s_one _) ?_; intro wy hr hby; have r4 := Lib.hid hr; have hby' := Lib.hid hby; clear hr hby; refine Stop.go'' _ ?_))
          refine StopP.go ?_
          have q1 := Lib.hid ((hby'.out.block w.heap.size (by omega)).trans r1.out)
          have q2 := Lib.hid ((hby'.out.block (w.heap.size + 1) (by omega)).trans r2.out)
          have q3 := Lib.hid ((hby'.out.block gC (by omega)).trans r3.out)
          have hcly := Lib.hid (fun i hi => (hby'.out.cell (p := ⟨b', o' + i, none⟩) (show b' < wx.heap.size by omega)).trans (hclx.out i hi))
          have hBy := Lib.hid (hBx.out.trans (hby'.out.mono (by omega)))
          have hzy : wx.heap.size < wy.heap.size := (Array.getElem?_eq_some_iff.1 r4.out).1
          clear r1 r2 r3 hclx hBx hby'
          generalize hgV : wx.heap.size = gV at *
          clear hzx' hgV hgC' wx
          have hRok := fun k => rounds_ok constW ws v k hv
          have hRs : ∀ k, rounds constW ws v (k + 1) = shaStep (rounds constW ws v k) (ith constW k) (ith ws k) := fun k => rfl
          have hck : ∀ k, k < 64 → wy.cell? ⟨gC, k, none⟩ = some (.int .u32 (ith constW k)) := fun k hk => by rw [cell_of_row _ _ _ _ _ _ q3.out]; exact u32s_get _ _ (by rw [hc64]; exact hk)
          have hR0 : rounds constW ws v 0 = v := rfl
          have hR0' := Lib.hid hR0; have hRok' := Lib.hid hRok; have hRs' := Lib.hid hRs; have hck' := Lib.hid hck
          clear hR0 hRok hRs hck q3 hc64
          generalize constW = cs at *
          generalize hR : (fun k => rounds cs ws v k) = R
          have hRR : ∀ k, rounds cs ws v k = R k := fun k => by rw [← hR]
          have hRR' := Lib.hid hRR
          clear hR hRR
          go_wp2
          go_loopw [12] (fun i wz => ∃ k : Nat, k ≤ 64 ∧ i = .int .i64 (k : Int) ∧ Below gV wy wz ∧ wz.heap[gV]? = some (.cells (u32s (R k).list) 70 (0, 0))) (fun i _ => 64 - (intOf i).toNat)
          case atStart => exact ⟨0, by omega, rfl, Below.refl _ _, by rw [← hRR'.out, hR0'.out]; exact r4.out⟩
          case round =>
            clear r4
            obtain ⟨k, hk, rfl, hbz, hrow⟩ := hrel
            by_cases hlt : k < 64
            · have hok := hRok'.out k
              rw [hRR'.out] at hok
              have A0 := Lib.hid hok.1; have E0 := Lib.hid hok.2.2.2.2.1
              obtain ⟨⟨_, _⟩, ⟨_, _⟩, ⟨_, _⟩, ⟨_, _⟩, ⟨_, _⟩, ⟨_, _⟩, ⟨_, _⟩, ⟨_, _⟩⟩ := hok
              obtain ⟨c0, c1, c2, c3, c4, c5, c6, c7⟩ := cells8 hrow
              have ck := (hbz.cell (p := ⟨gC, k, none⟩) (show gC < gV by omega)).trans (hck'.out k hlt)
              have cw := (hbz.cell (p := ⟨b', o' + k, none⟩) (show b' < gV by omega)).trans (hcly.out k (by omega))
              have i1 : (0 : Int) ≤ (k : Int) := by omega
              have i2 : (k : Int) < 64 := by omega
              have hS := hRs'.out k
              rw [hRR'.out, hRR'.out] at hS
              have hS' := Lib.hid hS; have hbz' := Lib.hid hbz; have hrow' := Lib.hid hrow
              clear hS hbz hrow
              go_wp2
              go_quiet (fail)
              go_wp2
              go_quiet (((go_at_call 122; (with_reducible refine quiet_of2 (rturn_int _ _ _ E0.out ?_ ?_)) <;> decide)))
              have hmx : (if IntKind.u32.signed = true then (-1 : Int) else IntKind.u32.max) = IntKind.u32.max := if_neg (by decide)
              generalize hP : ((((R k).h + bits BinOp.xor IntKind.u32 (bits BinOp.xor IntKind.u32 (rotr (R k).e 6) (rotr (R k).e 11)) (rotr (R k).e 25) + bits BinOp.xor IntKind.u32 (bits BinOp.and IntKind.u32 (R k).e (R k).f) (bits BinOp.and IntKind.u32 (bits BinOp.xor IntKind.u32 (if IntKind.u32.signed = true then (-1 : Int) else IntKind.u32.max) (R k).e) (R k).g) + ith cs k) % 4294967296 + ith ws k) % 4294967296) = pp
              have hPP := Lib.hid (show pp = pOf (R k) (ith cs k) (ith ws k) by rw [← hP, hmx]; unfold pOf; omega)
              clear hP hmx
              generalize hWq : (wr.drewN _).drewN _ = wq
              have d3 : wq.cell? ⟨gV, 3, none⟩ = some (.int .u32 (R k).d) := by rw [← hWq]; exact c3
              have hroq := Lib.hid (show wq.heap[gV]? = some (.cells (u32s (R k).list) 70 (0, 0)) by rw [← hWq]; exact hrow'.out)
              have hbq := Lib.hid (show Below gV wy wq by rw [← hWq]; exact (((Draws.refl wr).drewN _).drewN _).below hbz'.out)
              clear hWq c0 c1 c2 c3 c4 c5 c6 c7 ck cw hrow' hbz'
              go_upto_region 19 with (go_at_call 122; (with_reducible refine (rturn_int _ _ _ A0.out (by decide) (by decide)).mono ?_); rintro e w' ⟨rfl, ⟨nn, rfl⟩⟩)
              generalize hQ : ((bits BinOp.xor IntKind.u32 (bits BinOp.xor IntKind.u32 (rotr (R k).a 2) (rotr (R k).a 13)) (rotr (R k).a 22) + bits BinOp.xor IntKind.u32 (bits BinOp.xor IntKind.u32 (bits BinOp.and IntKind.u32 (R k).a (R k).b) (bits BinOp.and IntKind.u32 (R k).a (R k).c)) (bits BinOp.and IntKind.u32 (R k).b (R k).c)) % 4294967296) = qq
              have hQQ : qq = qOf (R k) := by rw [← hQ]; rfl
              have hX := Lib.hid (show R (k + 1) = V8.mk ((pp + qq) % 4294967296) (R k).a (R k).b (R k).c (((R k).d + pp) % 4294967296) (R k).e (R k).f (R k).g by rw [hS'.out, hPP.out, hQQ]; rfl)
              clear hQ hQQ hPP hS' A0 E0
              generalize hWr : wq.drewN _ = wr2
              have d3 : wr2.cell? ⟨gV, 3, none⟩ = some (.int .u32 (R k).d) := by rw [← hWr]; exact d3
              have hror := Lib.hid (show wr2.heap[gV]? = some (.cells (u32s (R k).list) 70 (0, 0)) by rw [← hWr]; exact hroq.out)
              have hbr := Lib.hid (show Below gV wy wr2 by rw [← hWr]; exact ((Draws.refl wq).drewN _).below hbq.out)
              clear hWr hroq hbq
              go_wp2_with (refine wpList_store_row rfl 70 _ _ rfl gV (V8.mk ((pp + qq) % 4294967296) (R k).a (R k).b (R k).c (((R k).d + pp) % 4294967296) (R k).e (R k).f (R k).g).cells rfl rfl 70 _ hror.out (by kernel_rfl) (by simp [u32s, V8.list, V8.cells]) (by simp [V8.cells, Value.oneCell']) ?_)
              go_roundw
              case rel =>
                have h := setRow_heap _ _ _ (V8.mk ((pp + qq) % 4294967296) (R k).a (R k).b (R k).c (((R k).d + pp) % 4294967296) (R k).e (R k).f (R k).g).cells _ _ hror.out
                exact ⟨k + 1, by omega, by go_num, below_setRow' hbr.out (Nat.le_refl _) _, by rw [hX.out]; exact h⟩
              case measure => simp [intOf]; omega
            · have hk64 : k = 64 := by omega
              subst hk64
              have z1 := Lib.hid ((hbz.block w.heap.size (by omega)).trans q1.out)
              have z2 := Lib.hid ((hbz.block (w.heap.size + 1) (by omega)).trans q2.out)
              have z3 := Lib.hid hrow
              have hBz := Lib.hid (hBy.out.trans (hbz.mono (by omega)))
              have hV := hG'.out
              rw [hRR'.out] at hV
              have hV' := Lib.hid hV
              clear hbz hrow q1 q2 hcly hBy hck' hRs' hRok' hR0' hRR' hV hG' hzy hb' hzw
              generalize R 64 = V at *
              rw [show (((64 : Nat) : Int)) = 64 from rfl]
              go_wp2
              go_loopw [21] (fun i wz => ∃ k : Nat, k ≤ 8 ∧ i = .int .i64 (k : Int) ∧ Below w.heap.size w wz ∧ wz.heap[w.heap.size]? = some (.cells (u32s (addN v.list V.list k)) 70 (0, 0)) ∧ wz.heap[w.heap.size + 1]? = some (.cells (u32s [0, 0, 0, 0, 0, 0, 0, 0]) 70 (0, 0)) ∧ wz.heap[gV]? = some (.cells (u32s V.list) 70 (0, 0))) (fun i _ => 8 - (intOf i).toNat)
              case atStart => exact ⟨0, by omega, rfl, hBz.out, z1.out, z2.out, z3.out⟩
              case round =>
                clear z1 z2 z3 hBz
                obtain ⟨k, hk, rfl, hb, h0, h2, h3⟩ := hrel
                by_cases hlt : k < 8
                · have ch : wr.cell? ⟨w.heap.size, k, none⟩ = some (.int .u32 (ith (addN v.list V.list k) k)) := by
                    rw [cell_of_row _ _ _ _ _ _ h0]; exact u32s_get _ k (by rw [addN_length]; exact hlt)
                  have cv : wr.cell? ⟨gV, k, none⟩ = some (.int .u32 (ith V.list k)) := by
                    rw [cell_of_row _ _ _ _ _ _ h3]; exact u32s_get _ k hlt
                  have hf : wr.frozen? ⟨w.heap.size, k, none⟩ = false := frozen_of_row _ _ _ _ _ h0
                  have hn := setCell_row h0 k (.int .u32 ((ith (addN v.list V.list k) k + ith V.list k) % 4294967296))
                  rw [u32s_set] at hn
                  have hn2 := (setCell_rows (w := wr) w.heap.size k (.int .u32 ((ith (addN v.list V.list k) k + ith V.list k) % 4294967296)) (w.heap.size + 1) (by omega)).trans h2
                  have hn3 := (setCell_rows (w := wr) w.heap.size k (.int .u32 ((ith (addN v.list V.list k) k + ith V.list k) % 4294967296)) gV (by omega)).trans h3
                  have i1 : (0 : Int) ≤ (k : Int) := by omega
                  have i2 : (k : Int) < 8 := by omega
                  have hn' := Lib.hid hn; have hn2' := Lib.hid hn2; have hn3' := Lib.hid hn3; have hb' := Lib.hid hb
                  clear hn hn2 hn3 h0 h2 h3 hb
                  go_wp2
                  go_still_tail 8, (by kernel_rfl)
                  go_wp2
                  exact ⟨⟨k + 1, by omega, by go_num, (hb'.out.setCell (Nat.le_refl _) _).drew, hn'.out, hn2'.out, hn3'.out⟩, by simp [intOf]; omega⟩
                · have hk8 : k = 8 := by omega
                  subst hk8
                  rw [addN_eight] at h0
                  have h0' := Lib.hid h0; have h2' := Lib.hid h2
                  clear h0 h2 h3
                  go_wp2_with (first | (refine wpList_load_row rfl 70 _ rfl w.heap.size rfl 70 _ _ _ h0'.out Tryd.underlying70 rfl (by kernel_rfl) ?_) | (refine storeRow rfl 70 _ _ rfl (w.heap.size + 1) rfl _ rfl 70 _ h2'.out (by kernel_rfl) (by simp [u32s, V8.list]) (u32s_one _) ?_))
                  try simp only [Exit.inBlock, Exit.then]
                  refine bodyPost_ret (v := .agg (v.add V).cells) (results_cell_row rfl _ _ (w.heap.size + 1) 70 _ _ _ rfl (setRow_heap _ _ _ _ _ _ h2'.out) Tryd.underlying70 rfl (by kernel_rfl)) rfl ⟨by rw [hV'.out]; rfl, below_setRow' hb (by omega) _⟩
end Go.Proofs.YtddelpjlcmaomaaDoor

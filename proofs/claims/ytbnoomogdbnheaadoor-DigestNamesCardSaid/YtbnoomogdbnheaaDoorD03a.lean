/- Contracts of Sum and Pieces for pieces that are too many or too long. -/
import Derived.Test.YtbnoomogdbnheaaDoorD01n
import Derived.Test.YtbnoomogdbnheaaDoorD01p
namespace Go.Proofs.YtbnoomogdbnheaaDoor
open Go.RowKit Go.YtbnoomogdbnheaaDoor
set_option linter.unusedVariables false
variable {Tg Tf : TypeId}
set_option maxRecDepth 100000 in
set_option maxHeartbeats 2000000 in
theorem pieces_many (A : Option Addr) (n c : Nat) (w : World) (hn : 20 < n) :
    Calls Tryd.prog 10 #[.slice A n c] w
     fun e w' => e = .returned (.tuple #[.agg (u8s (zerosB 32)), .int .i64 4]) ∧ Below w.heap.size w w' := by
  go_enter Tryd.func10, Tryd.ntmps10
  go_wp2_with (refine wpList_store_row rfl 25 _ _ rfl w.heap.size (u8s (zerosB 32)) rfl rfl 25 _ (heap_alloc_new w _) info_id rfl (u8s_one _) ?_)
  try simp only [Exit.inBlock, Exit.then]
  exact bodyPost_ret (results_row_tmp rfl _ _ w.heap.size 25 _ _ _ rfl (setRow_heap _ _ _ _ _ _ (heap_alloc_new w _)) Tryd.underlying25 rfl info_id) rfl ⟨rfl, below_setRow' (g := w.heap.size) ((Below.refl _ _).alloc (Nat.le_refl _) _) (Nat.le_refl _) _⟩
set_option maxRecDepth 100000 in
set_option maxHeartbeats 2000000 in
theorem pieces_long (A : Option Addr) (n c i0 : Nat) (len : Nat → Nat) (w : World) (hi0 : i0 < n) (hn : n ≤ 20) (hsmall : ∀ i, i < i0 → len i ≤ 10000) (hbig : 10000 < len i0) (hb48 : len i0 ≤ 1000000)
   (hcell : ∀ i, i ≤ i0 → ∃ b o, A = some ⟨b, o, none⟩ ∧ b < w.heap.size ∧ ∃ sa sc, w.cell? ⟨b, o + i, none⟩ = some (.slice sa (len i) sc)) :
    Calls Tryd.prog 10 #[.slice A n c] w
     fun e w' => e = .returned (.tuple #[.agg (u8s (zerosB 32)), .int .i64 4]) ∧ Below w.heap.size w w' := by
  have hcell' := Lib.hid hcell; have hsm := Lib.hid hsmall
  clear hcell hsmall
  go_enter Tryd.func10, Tryd.ntmps10
  go_wp2
  generalize hWx : w.alloc (Obj.cells _ 25) = Wx
  have hWb : Below w.heap.size w Wx := by rw [← hWx]; exact (Below.refl _ _).alloc (Nat.le_refl _) _
  have hWz : Wx.heap.size = w.heap.size + 1 := by rw [← hWx]; simp
  have hW0 : Wx.heap[w.heap.size]? = some (.cells (u8s (zerosB 32)) 25 (0, 0)) := by rw [← hWx]; exact heap_alloc_new w _
  have hWz' := Lib.hid hWz; have hW0' := Lib.hid hW0; have hWb' := Lib.hid hWb
  clear hWx hWz hW0 hWb
  go_loop [5, 15] (fun _ i => ∃ k : Nat, k ≤ i0 ∧ i = .int .i64 k) (fun _ i => i0 + 1 - (intOf i).toNat)
  case atStart => exact ⟨0, by omega, rfl⟩
  case round =>
    obtain ⟨k, hk, rfl⟩ := hrel
    obtain ⟨b, o, rfl, hbw, sa, sc, hs⟩ := hcell'.out k hk
    have hs1 := (hWb'.out.cell (p := (⟨b, o + k, none⟩ : Addr)) hbw).trans hs
    have hkn : k < n := by omega
    clear hs
    by_cases hlt' : k < i0
    · have hle := hsm.out k hlt'
      generalize len k = lk at *
      clear hbig hb48
      go_wp2
      go_round
      case rel => exact ⟨k + 1, by omega, by go_num⟩
      case measure => simp [intOf]; omega
    · obtain rfl : k = i0 := by omega
      generalize len k = lk at *
      go_wp2_with (refine wpList_store_row rfl 25 _ _ rfl w.heap.size (u8s (zerosB 32)) rfl rfl 25 _ hW0'.out info_id rfl (u8s_one _) ?_)
      try simp only [Exit.inBlock, Exit.then]
      exact bodyPost_ret (results_row_tmp rfl _ _ w.heap.size 25 _ _ _ rfl (setRow_heap _ _ _ _ _ _ hW0'.out) Tryd.underlying25 rfl info_id) rfl ⟨rfl, below_setRow' (g := w.heap.size) hWb'.out (Nat.le_refl _) _⟩
set_option maxRecDepth 100000 in
set_option maxHeartbeats 2000000 in
theorem sum_many (a : Option Addr) (n c : Nat) (w : World) (h1 : 10000 < n) (h2 : n ≤ 1000000) :
    Calls Tryd.prog 9 #[.slice a n c] w
     fun e w' => e = .returned (.tuple #[.agg (u8s (zerosB 32)), .int .i64 4]) ∧ Below w.heap.size w w' := by
  have hp : ∀ o1, Calls Tryd.prog 10 #[.slice (some ⟨w.heap.size + 1, 0, none⟩) 1 1] ((w.alloc o1).alloc (.cells #[.slice a n c] 29))
     fun e w' => e = .returned (.tuple #[.agg (u8s (zerosB 32)), .int .i64 4]) ∧ Below ((w.alloc o1).alloc (.cells #[.slice a n c] 29)).heap.size ((w.alloc o1).alloc (.cells #[.slice a n c] 29)) w' := by
    intro o1
    exact pieces_long (some ⟨w.heap.size + 1, 0, none⟩) 1 1 0 (fun _ => n) ((w.alloc o1).alloc (.cells #[.slice a n c] 29)) (by decide) (by decide) (fun i hi => absurd hi (Nat.not_lt_zero _)) h1 h2 (fun i hi => by
      have h0 : i = 0 := by omega
      subst h0
      exact ⟨_, _, rfl, by simp, _, _, cell_of_row _ _ _ _ _ _ (hn2 w _ _)⟩)
  have hp' := Lib.hid hp
  clear hp
  go_enter Tryd.func9, Tryd.ntmps9
  go_wp2_with (first | (go_at_call 10; refine (hp'.out _).mono ?_; rintro e w1 ⟨rfl, hb1⟩; have hrow := Lib.hid (show w1.heap[w.heap.size]? = some (.cells (u8s (zerosB 32)) 25 (0, 0)) from (hb1.block _ (by simp; omega)).trans ((hp1 _ _ _ (by simp)).trans (heap_alloc_new w _))); have hB1 := Lib.hid ((((Below.refl _ _).alloc (Nat.le_refl _) _).alloc (by simp) _).trans (hb1.mono (by simp; omega))); clear hb1) | (refine wpList_store_row rfl 25 _ _ rfl w.heap.size (u8s (zerosB 32)) rfl rfl 25 _ hrow.out info_id rfl (u8s_one _) ?_))
  try simp only [Exit.inBlock, Exit.then]
  exact bodyPost_ret (results_row_tmp rfl _ _ w.heap.size 25 _ _ _ rfl (setRow_heap _ _ _ _ _ _ hrow.out) Tryd.underlying25 rfl info_id) rfl ⟨rfl, below_setRow' (g := w.heap.size) hB1.out (Nat.le_refl _) _⟩
end Go.Proofs.YtbnoomogdbnheaaDoor

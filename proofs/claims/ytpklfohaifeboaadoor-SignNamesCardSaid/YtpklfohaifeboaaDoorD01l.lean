/- Contract of digest.Sum. -/
import Derived.Test.YtpklfohaifeboaaDoorD01k
import Derived.Test.YtpklfohaifeboaaDoorLib
namespace Go.Proofs.YtpklfohaifeboaaDoor
open Go.RowKit Go.YtpklfohaifeboaaDoor
set_option linter.unusedVariables false
variable {Tg Tf : TypeId}
theorem pieces_any (L : List (List Int)) (v : Value) (b o c : Nat) (hv : v = .slice (some ⟨b, o, none⟩) L.length c) (w : World) (hLc : L.length ≤ c) (hcm : c ≤ maxLen) (hbw : b < w.heap.size) (hcell : ∀ i, i < L.length → ∃ s, w.cell? ⟨b, o + i, none⟩ = some s ∧ RdB w s (nthL L i))
   (hn : L.length ≤ 20) (hlen : ∀ i, (nthL L i).length ≤ 10000) (hby : ∀ i, Bytes (nthL L i))
   (hg : w.heap[2]? = some (.cells (u32s constW) Tg (0, 0))) (hgf : w.heap[0]? = some (.cells firstW.cells Tf (0, 0))) :
    Calls Tryd.prog 11 #[v] w
     fun e w' => e = .returned (.tuple #[.agg (u8s (shaF L.flatten)), .int .i64 0]) ∧ Below w.heap.size w w' := by
  subst hv
  have h := pieces_some (Tg := Tg) (Tf := Tf) b o c L w hLc hcm hbw hcell hn hlen hby hg hgf
  rw [flatN_all] at h
  exact h
set_option maxRecDepth 100000 in
set_option maxHeartbeats 400000 in
theorem sum_any (D : List Int) (bv : Value) (l : List Int) (w : World) (hl : RdB w bv l) (hlb : Bytes l) (hlen : l.length ≤ 10000) (hD : shaF l = D)
   (hg : w.heap[2]? = some (.cells (u32s constW) Tg (0, 0))) (hgf : w.heap[0]? = some (.cells firstW.cells Tf (0, 0))) :
    Calls Tryd.prog 9 #[bv] w
     fun e w' => e = .returned (.tuple #[.agg (u8s D), .int .i64 0]) ∧ Below w.heap.size w w' := by
  obtain ⟨a, c, rfl⟩ := hl.slice
  have hlt : 2 < w.heap.size := (Array.getElem?_eq_some_iff.1 hg).1
  have hltf : 0 < w.heap.size := (Array.getElem?_eq_some_iff.1 hgf).1
  have hp : ∀ o1, Calls Tryd.prog 11 #[.slice (some ⟨w.heap.size + 1, 0, none⟩) 1 1] ((w.alloc o1).alloc (.cells #[.slice a l.length c] 26))
     fun e w' => e = .returned (.tuple #[.agg (u8s D), .int .i64 0]) ∧ Below ((w.alloc o1).alloc (.cells #[.slice a l.length c] 26)).heap.size ((w.alloc o1).alloc (.cells #[.slice a l.length c] 26)) w' := by
    intro o1
    have hB : Below w.heap.size w ((w.alloc o1).alloc (.cells #[.slice a l.length c] 26)) := ((Below.refl _ _).alloc (Nat.le_refl _) _).alloc (by simp) _
    have h := pieces_any (Tg := Tg) (Tf := Tf) [l] (.slice (some ⟨w.heap.size + 1, 0, none⟩) 1 1) (w.heap.size + 1) 0 1 rfl ((w.alloc o1).alloc (.cells #[.slice a l.length c] 26)) (Nat.le_refl _) (by decide) (by simp) (fun i hi => by
      have h0 : i = 0 := by simp at hi; exact hi
      subst h0
      exact ⟨_, cell_of_row _ _ _ _ _ _ (hn2 w _ _), hl.mono hB⟩) (by simp) (fun i => by
      cases i with
      | zero => exact hlen
      | succ i => simp [nthL]) (fun i => by
      cases i with
      | zero => exact hlb
      | succ i => intro j; simp [nthL, ith]) ((hB.block _ hlt).trans hg) ((hB.block _ hltf).trans hgf)
    rw [show ([l] : List (List Int)).flatten = l by simp, hD] at h
    exact h
  have hDl : D.length = 32 := by rw [← hD]; exact shaF_length l
  have hi : (Tryd.prog.info? 24).map (·.size) = some (u8s D).size := by rw [u8s_size, hDl]; kernel_rfl
  have hs2 : (u8s (zerosB 32)).size = (u8s D).size := by rw [u8s_size, u8s_size, hDl, zerosB_length]
  have hp' := Lib.hid hp; have hi' := Lib.hid hi; have hs2' := Lib.hid hs2
  clear hp hi hs2 hDl hD hl hlb hlen hg hgf
  go_enter Tryd.func9, Tryd.ntmps9
  go_wp2_with (first | (go_at_call 11; refine (hp'.out _).mono ?_; rintro e w1 ⟨rfl, hb1⟩; have hrow := Lib.hid (show w1.heap[w.heap.size]? = some (.cells (u8s (zerosB 32)) 24 (0, 0)) from (hb1.block _ (by simp; omega)).trans ((hp1 _ _ _ (by simp)).trans (heap_alloc_new w _))); have hB1 := Lib.hid ((((Below.refl _ _).alloc (Nat.le_refl _) _).alloc (by simp) _).trans (hb1.mono (by simp; omega))); clear hb1) | (refine wpList_store_row rfl 24 _ _ rfl w.heap.size (u8s D) rfl rfl 24 _ hrow.out hi'.out hs2'.out (u8s_one _) ?_))
  try simp only [Exit.inBlock, Exit.then]
  exact bodyPost_ret (results_row_tmp rfl _ _ w.heap.size 24 _ _ _ rfl (setRow_heap _ _ _ _ _ _ hrow.out) Tryd.underlying24 rfl hi'.out) rfl ⟨rfl, below_setRow' (g := w.heap.size) hB1.out (Nat.le_refl _) _⟩
end Go.Proofs.YtpklfohaifeboaaDoor

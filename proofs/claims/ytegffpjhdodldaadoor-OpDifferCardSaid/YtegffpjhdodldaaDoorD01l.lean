/- Contract of digest.Pieces and of digest.Sum. Contract of digest.Sum. -/
import Derived.Test.YtegffpjhdodldaaDoorD01h
import Derived.Test.YtegffpjhdodldaaDoorLibD
import Derived.Deep.DeepCutAuto
import Derived.Test.YtegffpjhdodldaaDoorLib
namespace Go.Proofs.YtegffpjhdodldaaDoor
open Go.RowKit Go.YtegffpjhdodldaaDoor
set_option linter.unusedVariables false
variable {Tg Tf : TypeId}
set_option maxRecDepth 100000 in
set_option maxHeartbeats 2000000 in
theorem pieces_some (b o c : Nat) (L : List (List Int)) (w : World) (hLc : L.length ≤ c) (hcm : c ≤ maxLen) (hbw : b < w.heap.size) (hcell : ∀ i, i < L.length → ∃ s, w.cell? ⟨b, o + i, none⟩ = some s ∧ RdB w s (nthL L i))
   (hn : L.length ≤ 20) (hlen : ∀ i, (nthL L i).length ≤ 10000) (hby : ∀ i, Bytes (nthL L i))
   (hg : w.heap[1]? = some (.cells (u32s constW) Tg (0, 0))) (hgf : w.heap[0]? = some (.cells firstW.cells Tf (0, 0))) :
    Calls Tryd.prog 35 #[.slice (some ⟨b, o, none⟩) L.length c] w
     fun e w' => e = .returned (.tuple #[.agg (u8s (endF (blocksF firstW (flatN L L.length)) (restF (flatN L L.length)) (flatN L L.length).length)), .int .i64 0]) ∧ Below w.heap.size w w' := by
  unfold maxLen at hcm
  have hcell' := Lib.hid hcell; have hlen' := Lib.hid hlen; have hby' := Lib.hid hby; have hg' := Lib.hid hg; have hgf' := Lib.hid hgf
  clear hcell hlen hby hg hgf
  have hlt : 1 < w.heap.size := (Array.getElem?_eq_some_iff.1 hg'.out).1
  have hltf : 0 < w.heap.size := (Array.getElem?_eq_some_iff.1 hgf'.out).1
  generalize hm : L.length = n at *
  have hm' := Lib.hid hm; clear hm
  go_enter Tryd.func35, Tryd.ntmps35
  go_wp2
  generalize hWx : w.alloc (Obj.cells _ 55) = Wx
  have hWb : Below w.heap.size w Wx := by rw [← hWx]; exact (Below.refl _ _).alloc (Nat.le_refl _) _
  have hWz : Wx.heap.size = w.heap.size + 1 := by rw [← hWx]; simp
  have hW0 : Wx.heap[w.heap.size]? = some (.cells (u8s (zerosB 32)) 55 (0, 0)) := by rw [← hWx]; exact heap_alloc_new w _
  have hWz' := Lib.hid hWz; have hW0' := Lib.hid hW0
  clear hWx hWz hW0
  go_loop [5, 15] (fun _ i => ∃ k : Nat, k ≤ n ∧ i = .int .i64 k) (fun _ i => n - (intOf i).toNat)
  case atStart => exact ⟨0, by omega, rfl⟩
  case round =>
    obtain ⟨k, hk, rfl⟩ := hrel
    by_cases hlt' : k < n
    · obtain ⟨s, hs, hrs⟩ := hcell'.out k hlt'
      obtain ⟨sa, sc, rfl⟩ := hrs.slice
      have hs1 := (hWb.cell (p := (⟨b, o + k, none⟩ : Addr)) hbw).trans hs
      have hle := hlen'.out k
      go_wp2
      go_round
      case rel => exact ⟨k + 1, by omega, by go_num⟩
      case measure => simp [intOf]; omega
    · have hkn : k = n := by omega
      subst hkn
      clear hcm
      go_upto_region 10 with (go_at_call 36; refine (start_any (Tf := Tf) _ ?_).mono ?_; (exact (hWb.block _ hltf).trans hgf'.out); rintro e w1 ⟨rfl, hb1⟩; have hb1' := Lib.hid hb1; clear hb1)
      have hz1 : w.heap.size < w1.heap.size := by have := hb1'.out.size; have := hWz'.out; omega
      have hB1 : Below (w.heap.size + 1) Wx w1 := hb1'.out.mono (by have := hWz'.out; omega)
      have hB1' := Lib.hid hB1; clear hB1
      go_wp2
      go_loopw [8, 27] (fun _ i wr => ∃ j : Nat, j ≤ k ∧ i = .int .i64 j ∧ Below (w.heap.size + 1) Wx wr ∧ w1.heap.size < wr.heap.size ∧ ∃ rv, wr.heap[w1.heap.size]? = some (.cells #[.int .u32 (blocksF firstW (flatN L j)).a, .int .u32 (blocksF firstW (flatN L j)).b, .int .u32 (blocksF firstW (flatN L j)).c, .int .u32 (blocksF firstW (flatN L j)).d, .int .u32 (blocksF firstW (flatN L j)).e, .int .u32 (blocksF firstW (flatN L j)).f, .int .u32 (blocksF firstW (flatN L j)).g, .int .u32 (blocksF firstW (flatN L j)).h, rv, .int .i64 ((flatN L j).length : Nat)] 51 (0, 0)) ∧ RdB wr rv (restF (flatN L j))) (fun _ i _ => k - (intOf i).toNat)
      case atStart => exact ⟨0, by omega, rfl, hB1'.out.alloc (by omega) _, by simp, .slice none 0 0, by rw [show blocksF firstW (flatN L 0) = firstW from blocksF_small _ _ (by simp [flatN]), show (flatN L 0).length = 0 from rfl]; exact heap_alloc_new w1 _, .inl ⟨none, 0, rfl, fun _ => rfl, by simp [flatN, restF]⟩⟩
      case round =>
        obtain ⟨j, hj, rfl, hbr, hzr, rv, hrow, hrd⟩ := hrel
        have hrow' := Lib.hid hrow; have hrd' := Lib.hid hrd; clear hrow hrd
        have hbw' : Below w.heap.size w wr := hWb.trans (hbr.mono (by omega))
        by_cases hlt' : j < k
        · obtain ⟨s, hs, hrs⟩ := hcell'.out j hlt'
          obtain ⟨sa, sc, rfl⟩ := hrs.slice
          have hs1 := (hbw'.cell (p := (⟨b, o + j, none⟩ : Addr)) hbw).trans hs
          have hrs' := Lib.hid (hrs.mono hbw')
          have hgr := Lib.hid ((hbw'.block _ hlt).trans hg'.out)
          have hfl := flatN_length L hlen'.out j
          have hll := hlen'.out j
          have hN : Hid ((flatN L j).length + (nthL L j).length ≤ 200000) := Lib.hid (by omega)
          have hrl : Hid ((restF (flatN L j)).length < 64) := Lib.hid (by rw [restF_length]; exact Nat.mod_lt _ (by decide))
          have hG : Hid (blocksF (blocksF firstW (flatN L j)) (restF (flatN L j) ++ nthL L j) = blocksF firstW (flatN L (j + 1))) := Lib.hid (blocksF_append _ _ _).symm
          clear hs hrs hfl hll
          go_wp2_with (first | (refine wpList_load_row rfl 51 _ rfl w1.heap.size rfl 51 _ _ _ hrow'.out Tryd.underlying51 rfl (by kernel_rfl) ?_) | (go_at_call 39; refine (put_any (Tg := Tg) (blocksF firstW (flatN L j)) (blocksF firstW (flatN L (j + 1))) rv (restF (flatN L j)) (flatN L j).length (.slice sa (nthL L j).length sc) (nthL L j) _ (blocksF_ok _ _ firstW_ok) hrd'.out hrs'.out (bytes_drop _ _ (flatN_bytes L hby'.out j)) (hby'.out j) hrl.out hN.out hG.out hgr.out).mono ?_; rintro e w2 ⟨r', rfl, ho2, hb2⟩; obtain ⟨pa, pc, rfl⟩ := ho2.rd.slice; have ho2' := Lib.hid ho2; have hb2' := Lib.hid hb2; have hrow2 := Lib.hid ((hb2.block _ hzr).trans hrow'.out); clear ho2 hb2) | (refine wpList_store_row rfl 51 _ _ rfl w1.heap.size _ rfl rfl 51 _ hrow2.out (by kernel_rfl) (by simp) (by simp [Value.oneCell']) ?_))
          go_roundw
          case rel =>
            have hB2 : Below (w.heap.size + 1) Wx w2 := hbr.trans (hb2'.out.mono (by omega))
            have hz2 := hb2'.out.size
            have hrest : restF (restF (flatN L j) ++ nthL L j) = restF (flatN L (j + 1)) := (restF_append _ _).symm
            have ho3 := ho2'.out
            rw [hrest] at ho3
            refine ⟨j + 1, by omega, by go_num, below_setRow' (g := w1.heap.size) hB2 (by omega) _, by rw [size_setRow]; omega, .slice pa (restF (restF (flatN L j) ++ nthL L j)).length pc, ?_, ?_⟩
            · have hl : (((flatN L (j + 1)).length : Nat) : Int) = (flatN L j).length + (nthL L j).length := by rw [flatN, List.length_append]; exact Int.natCast_add _ _
              rw [hl]
              exact setRow_heap _ _ _ _ _ _ hrow2.out
            · rw [hrest]
              exact (ownB_setRow (g := w1.heap.size) ho3 (Nat.le_refl _) hzr _).rd
          case measure => simp [intOf]; omega
        · have hjk : j = k := by omega
          subst hjk
          have hfl := flatN_length L hlen'.out j
          have hN : Hid ((flatN L j).length ≤ 200000) := Lib.hid (by omega)
          have hrl : Hid ((restF (flatN L j)).length < 64) := Lib.hid (by rw [restF_length]; exact Nat.mod_lt _ (by decide))
          have hFb := Lib.hid (flatN_bytes L hby'.out j)
          have hgr := Lib.hid ((hbw'.block _ hlt).trans hg'.out)
          have hres := Lib.hid ((hbr.block w.heap.size (by omega)).trans hW0'.out)
          clear hfl
          have hlen32 : (endF (blocksF firstW (flatN L j)) (restF (flatN L j)) (flatN L j).length).length = 32 := writtenN_length _ 8
          have hi : (Tryd.prog.info? 55).map (·.size) = some (u8s (endF (blocksF firstW (flatN L j)) (restF (flatN L j)) (flatN L j).length)).size := by rw [u8s_size, hlen32]; kernel_rfl
          have hs2 : (u8s (zerosB 32)).size = (u8s (endF (blocksF firstW (flatN L j)) (restF (flatN L j)) (flatN L j).length)).size := by rw [u8s_size, u8s_size, hlen32, zerosB_length]
          have hi' := Lib.hid hi; have hs2' := Lib.hid hs2
          clear hi hs2 hlen32
          go_wp2_with (first | (refine wpList_load_row rfl 51 _ rfl w1.heap.size rfl 51 _ _ _ hrow'.out Tryd.underlying51 rfl (by kernel_rfl) ?_) | (go_at_call 40; refine (finish_any (Tg := Tg) (blocksF firstW (flatN L j)) _ rv (restF (flatN L j)) (flatN L j).length _ (blocksF_ok _ _ firstW_ok) hrd'.out (bytes_drop _ _ hFb.out) hrl.out hN.out rfl hgr.out).mono ?_; rintro e w2 ⟨rfl, hb2⟩; have hrow2' := Lib.hid ((hb2.block _ (by omega)).trans hres.out); have hB2' := Lib.hid (hbw'.trans (hb2.mono (by omega))); clear hb2) | (refine wpList_store_row rfl 55 _ _ rfl w.heap.size (u8s (endF (blocksF firstW (flatN L j)) (restF (flatN L j)) (flatN L j).length)) rfl rfl 55 _ hrow2'.out hi'.out hs2'.out (u8s_one _) ?_))
          try simp only [Exit.inBlock, Exit.then]
          exact bodyPost_ret (results_row_tmp rfl _ _ w.heap.size 55 _ _ _ rfl (setRow_heap _ _ _ _ _ _ hrow2'.out) Tryd.underlying55 rfl hi'.out) rfl ⟨rfl, below_setRow' (g := w.heap.size) hB2'.out (Nat.le_refl _) _⟩
end Go.Proofs.YtegffpjhdodldaaDoor
namespace Go.Proofs.YtegffpjhdodldaaDoor
open Go.RowKit Go.YtegffpjhdodldaaDoor
set_option linter.unusedVariables false
variable {Tg Tf : TypeId}
theorem pieces_any (L : List (List Int)) (v : Value) (b o c : Nat) (hv : v = .slice (some ⟨b, o, none⟩) L.length c) (w : World) (hLc : L.length ≤ c) (hcm : c ≤ maxLen) (hbw : b < w.heap.size) (hcell : ∀ i, i < L.length → ∃ s, w.cell? ⟨b, o + i, none⟩ = some s ∧ RdB w s (nthL L i))
   (hn : L.length ≤ 20) (hlen : ∀ i, (nthL L i).length ≤ 10000) (hby : ∀ i, Bytes (nthL L i))
   (hg : w.heap[1]? = some (.cells (u32s constW) Tg (0, 0))) (hgf : w.heap[0]? = some (.cells firstW.cells Tf (0, 0))) :
    Calls Tryd.prog 35 #[v] w
     fun e w' => e = .returned (.tuple #[.agg (u8s (shaF L.flatten)), .int .i64 0]) ∧ Below w.heap.size w w' := by
  subst hv
  have h := pieces_some (Tg := Tg) (Tf := Tf) b o c L w hLc hcm hbw hcell hn hlen hby hg hgf
  rw [flatN_all] at h
  exact h
set_option maxRecDepth 100000 in
set_option maxHeartbeats 400000 in
theorem sum_any (D : List Int) (bv : Value) (l : List Int) (w : World) (hl : RdB w bv l) (hlb : Bytes l) (hlen : l.length ≤ 10000) (hD : shaF l = D)
   (hg : w.heap[1]? = some (.cells (u32s constW) Tg (0, 0))) (hgf : w.heap[0]? = some (.cells firstW.cells Tf (0, 0))) :
    Calls Tryd.prog 34 #[bv] w
     fun e w' => e = .returned (.tuple #[.agg (u8s D), .int .i64 0]) ∧ Below w.heap.size w w' := by
  obtain ⟨a, c, rfl⟩ := hl.slice
  have hlt : 1 < w.heap.size := (Array.getElem?_eq_some_iff.1 hg).1
  have hltf : 0 < w.heap.size := (Array.getElem?_eq_some_iff.1 hgf).1
  have hp : ∀ o1, Calls Tryd.prog 35 #[.slice (some ⟨w.heap.size + 1, 0, none⟩) 1 1] ((w.alloc o1).alloc (.cells #[.slice a l.length c] 40))
     fun e w' => e = .returned (.tuple #[.agg (u8s D), .int .i64 0]) ∧ Below ((w.alloc o1).alloc (.cells #[.slice a l.length c] 40)).heap.size ((w.alloc o1).alloc (.cells #[.slice a l.length c] 40)) w' := by
    intro o1
    have hB : Below w.heap.size w ((w.alloc o1).alloc (.cells #[.slice a l.length c] 40)) := ((Below.refl _ _).alloc (Nat.le_refl _) _).alloc (by simp) _
    have h := pieces_any (Tg := Tg) (Tf := Tf) [l] (.slice (some ⟨w.heap.size + 1, 0, none⟩) 1 1) (w.heap.size + 1) 0 1 rfl ((w.alloc o1).alloc (.cells #[.slice a l.length c] 40)) (Nat.le_refl _) (by decide) (by simp) (fun i hi => by
      have h0 : i = 0 := by simp at hi; exact hi
      subst h0
      exact ⟨_, cell_of_row _ _ _ _ _ _ (hn2 w _ _), hl.mono hB⟩) (by simp) (fun i => by
      cases i with
      | zero => exact hlen
      | succ i => simp [nthL]) (fun i => by
      cases i with
      | zero => exact hlb
      | succ i => intro j; simp [nthL, ith]) ((hB.block _ hlt).trans hg) ((hB.block _ hltf).trans hgf)
    rw [show ([l] : List (List Int)).flatten = l by simp, hD] at h
    exact h
  have hDl : D.length = 32 := by rw [← hD]; exact shaF_length l
  have hi : (Tryd.prog.info? 55).map (·.size) = some (u8s D).size := by rw [u8s_size, hDl]; kernel_rfl
  have hs2 : (u8s (zerosB 32)).size = (u8s D).size := by rw [u8s_size, u8s_size, hDl, zerosB_length]
  have hp' := Lib.hid hp; have hi' := Lib.hid hi; have hs2' := Lib.hid hs2
  clear hp hi hs2 hDl hD hl hlb hlen hg hgf
  go_enter Tryd.func34, Tryd.ntmps34
  go_wp2_with (first | (go_at_call 35; refine (hp'.out _).mono ?_; rintro e w1 ⟨rfl, hb1⟩; have hrow := Lib.hid (show w1.heap[w.heap.size]? = some (.cells (u8s (zerosB 32)) 55 (0, 0)) from (hb1.block _ (by simp; omega)).trans ((hp1 _ _ _ (by simp)).trans (heap_alloc_new w _))); have hB1 := Lib.hid ((((Below.refl _ _).alloc (Nat.le_refl _) _).alloc (by simp) _).trans (hb1.mono (by simp; omega))); clear hb1) | (refine wpList_store_row rfl 55 _ _ rfl w.heap.size (u8s D) rfl rfl 55 _ hrow.out hi'.out hs2'.out (u8s_one _) ?_))
  try simp only [Exit.inBlock, Exit.then]
  exact bodyPost_ret (results_row_tmp rfl _ _ w.heap.size 55 _ _ _ rfl (setRow_heap _ _ _ _ _ _ hrow.out) Tryd.underlying55 rfl hi'.out) rfl ⟨rfl, below_setRow' (g := w.heap.size) hB1.out (Nat.le_refl _) _⟩
end Go.Proofs.YtegffpjhdodldaaDoor
